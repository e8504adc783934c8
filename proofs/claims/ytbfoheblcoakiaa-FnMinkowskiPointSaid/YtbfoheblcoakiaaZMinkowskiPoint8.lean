/-
  Texts that the proof needs, merged. Written by an AI agent.
-/
import Derived.Orders
import Derived.Below
import Derived.OrdersIn
import Derived.Deep.LoopGhost
import Derived.WalkKit
import Derived.Laws.CopyRow
import Derived.Laws.AppendOwn
import Derived.Laws.Slices
import Derived.Laws.MakeOwn
import Derived.Test.YtbfoheblcoakiaaRows
import Derived.ProofKit
import Derived.OpenShut
import Derived.Carry
import Derived.IntWalk
import Derived.Test.YtbfoheblcoakiaaProg
import Derived.WalkSpells
import Derived.WalkLawsBesides
import Derived.Lib.Hide
import Derived.Deep.QuietTactic
import Derived.BigQuiet
import Derived.KernelRfl
import Derived.Deep.RegionHeld3
import Derived.LoopTactic
import Derived.Laws.StructEq
import Derived.Laws.Tables
import Derived.RangeFuncNested
import Derived.RangeFuncLeaves
import Derived.Deep.Slices
import Derived.Deep.Fields
import Derived.ChangeSame
import Derived.Deep.DeepCutAuto
import Derived.Shelf.SlSortCmp.WholeK
import Derived.Sort.Grow
import Derived.Shelf.SlSortCmp.NoneTotal
import Derived.Test.YtbfoheblcoakiaaZMinkowskiPoint7
namespace Go.Proofs.Ytbfoheblcoakiaa
set_option linter.all false
open Go.RowKit
def RAd : TabR := fun f ds => match f, ds with
  | 35, [.row m (.ints xs), .row n (.ints ys)] => some (rowP (addL (ptsA m xs) (ptsA n ys)), blkP (addL (ptsA m xs) (ptsA n ys)), [m * 2 ≤ xs.length, n * 2 ≤ ys.length, allV (ptsA m xs) = true, allV (ptsA n ys) = true, m ≤ 100 ∧ 0 < m, n ≤ 100 ∧ 0 < n])
  | f, ds => RHv f ds
theorem RAd_ok : TabROk Try.prog RAd := by
  intro f ds v b C h hC
  unfold RAd at h
  split at h
  · obtain ⟨rfl, rfl, rfl⟩ : _ ∧ _ ∧ _ := by simpa using h
    obtain ⟨_, h2⟩ := ptsA_spec hC.1
    obtain ⟨_, h3⟩ := ptsA_spec hC.2.1
    exact resR_two hC.1 hC.2.1 (resR_iAh hC.2.2.1 hC.2.2.2.1 (by rw [h2]; exact hC.2.2.2.2.1.1) (by rw [h3]; exact hC.2.2.2.2.2.1.1) (by rw [h2]; exact hC.2.2.2.2.1.2) (by rw [h3]; exact hC.2.2.2.2.2.1.2))
  · exact RHv_ok _ _ _ _ _ h hC
def EMs : Env := mkE T3 RAd (fun _ => noL)
theorem EMs_ok : EnvOk Try.prog EMs := mkEOk T3_ok RAd_ok (fun _ _ _ => noL_good)
set_option maxRecDepth 100000 in
theorem tr_iMs (us vs : List Pt) : bodyX Try.prog EMs 30 12 14 [.row us.length (.ints (flat us)), .row vs.length (.ints (flat vs))] = .need (us.length * (2 : Nat) ≤ (List.drop (0 : Nat) (flat us)).length) (.need (us.length ≤ (1000000000 : Nat)) (.need (vs.length * (2 : Nat) ≤ (List.drop (0 : Nat) (flat vs)).length) (.need (vs.length ≤ (1000000000 : Nat)) (brT ((↑(hulV (ptsA us.length (List.drop 0 (flat us)))).length : Int) == 0) (.fin (.tuple #[.slice none (0) (0), .bool (false)]) [some ⟨.view, .ints (flat us)⟩, some ⟨.view, .ints (flat vs)⟩, some ⟨.row 32 2, .ints (flat (hulV (ptsA us.length (List.drop 0 (flat us)))))⟩, some ⟨.row 32 2, .ints (flat (hulV (ptsA vs.length (List.drop 0 (flat vs)))))⟩]) (brT ((↑(hulV (ptsA vs.length (List.drop 0 (flat vs)))).length : Int) == 0) (.fin (.tuple #[.slice none (0) (0), .bool (false)]) [some ⟨.view, .ints (flat us)⟩, some ⟨.view, .ints (flat vs)⟩, some ⟨.row 32 2, .ints (flat (hulV (ptsA us.length (List.drop 0 (flat us)))))⟩, some ⟨.row 32 2, .ints (flat (hulV (ptsA vs.length (List.drop 0 (flat vs)))))⟩]) (.need ((hulV (ptsA us.length (List.drop (0 : Nat) (flat us)))).length * (2 : Nat) ≤ (List.drop (0 : Nat) (flat (hulV (ptsA us.length (List.drop (0 : Nat) (flat us)))))).length) (.need ((hulV (ptsA vs.length (List.drop (0 : Nat) (flat vs)))).length * (2 : Nat) ≤ (List.drop (0 : Nat) (flat (hulV (ptsA vs.length (List.drop (0 : Nat) (flat vs)))))).length) (.need (allV (ptsA (hulV (ptsA us.length (List.drop (0 : Nat) (flat us)))).length (List.drop (0 : Nat) (flat (hulV (ptsA us.length (List.drop (0 : Nat) (flat us))))))) = true) (.need (allV (ptsA (hulV (ptsA vs.length (List.drop (0 : Nat) (flat vs)))).length (List.drop (0 : Nat) (flat (hulV (ptsA vs.length (List.drop (0 : Nat) (flat vs))))))) = true) (.need ((hulV (ptsA us.length (List.drop (0 : Nat) (flat us)))).length ≤ (100 : Nat) ∧ (0 : Nat) < (hulV (ptsA us.length (List.drop (0 : Nat) (flat us)))).length) (.need ((hulV (ptsA vs.length (List.drop (0 : Nat) (flat vs)))).length ≤ (100 : Nat) ∧ (0 : Nat) < (hulV (ptsA vs.length (List.drop (0 : Nat) (flat vs)))).length) (.need ((addL (ptsA (hulV (ptsA us.length (List.drop (0 : Nat) (flat us)))).length (List.drop (0 : Nat) (flat (hulV (ptsA us.length (List.drop (0 : Nat) (flat us))))))) (ptsA (hulV (ptsA vs.length (List.drop (0 : Nat) (flat vs)))).length (List.drop (0 : Nat) (flat (hulV (ptsA vs.length (List.drop (0 : Nat) (flat vs)))))))).length * (2 : Nat) ≤ (List.drop (0 : Nat) (flat (addL (ptsA (hulV (ptsA us.length (List.drop (0 : Nat) (flat us)))).length (List.drop (0 : Nat) (flat (hulV (ptsA us.length (List.drop (0 : Nat) (flat us))))))) (ptsA (hulV (ptsA vs.length (List.drop (0 : Nat) (flat vs)))).length (List.drop (0 : Nat) (flat (hulV (ptsA vs.length (List.drop (0 : Nat) (flat vs)))))))))).length) (.need ((addL (ptsA (hulV (ptsA us.length (List.drop (0 : Nat) (flat us)))).length (List.drop (0 : Nat) (flat (hulV (ptsA us.length (List.drop (0 : Nat) (flat us))))))) (ptsA (hulV (ptsA vs.length (List.drop (0 : Nat) (flat vs)))).length (List.drop (0 : Nat) (flat (hulV (ptsA vs.length (List.drop (0 : Nat) (flat vs)))))))).length ≤ (1000000000 : Nat)) (brT (!allV (ptsA (addL (ptsA (hulV (ptsA us.length (List.drop 0 (flat us)))).length (List.drop 0 (flat (hulV (ptsA us.length (List.drop 0 (flat us))))))) (ptsA (hulV (ptsA vs.length (List.drop 0 (flat vs)))).length (List.drop 0 (flat (hulV (ptsA vs.length (List.drop 0 (flat vs)))))))).length (List.drop 0 (flat (addL (ptsA (hulV (ptsA us.length (List.drop 0 (flat us)))).length (List.drop 0 (flat (hulV (ptsA us.length (List.drop 0 (flat us))))))) (ptsA (hulV (ptsA vs.length (List.drop 0 (flat vs)))).length (List.drop 0 (flat (hulV (ptsA vs.length (List.drop 0 (flat vs)))))))))))) (.fin (.tuple #[.slice none (0) (0), .bool (false)]) [some ⟨.view, .ints (flat us)⟩, some ⟨.view, .ints (flat vs)⟩, some ⟨.row 32 2, .ints (flat (hulV (ptsA us.length (List.drop 0 (flat us)))))⟩, some ⟨.row 32 2, .ints (flat (hulV (ptsA vs.length (List.drop 0 (flat vs)))))⟩, some ⟨.row 32 2, .ints (flat (addL (ptsA (hulV (ptsA us.length (List.drop 0 (flat us)))).length (List.drop 0 (flat (hulV (ptsA us.length (List.drop 0 (flat us))))))) (ptsA (hulV (ptsA vs.length (List.drop 0 (flat vs)))).length (List.drop 0 (flat (hulV (ptsA vs.length (List.drop 0 (flat vs)))))))))⟩]) (.fin (.tuple #[.slice (some ⟨4, 0, none⟩) ((addL (ptsA (hulV (ptsA us.length (List.drop 0 (flat us)))).length (List.drop 0 (flat (hulV (ptsA us.length (List.drop 0 (flat us))))))) (ptsA (hulV (ptsA vs.length (List.drop 0 (flat vs)))).length (List.drop 0 (flat (hulV (ptsA vs.length (List.drop 0 (flat vs)))))))).length) ((addL (ptsA (hulV (ptsA us.length (List.drop 0 (flat us)))).length (List.drop 0 (flat (hulV (ptsA us.length (List.drop 0 (flat us))))))) (ptsA (hulV (ptsA vs.length (List.drop 0 (flat vs)))).length (List.drop 0 (flat (hulV (ptsA vs.length (List.drop 0 (flat vs)))))))).length), .bool (true)]) [some ⟨.view, .ints (flat us)⟩, some ⟨.view, .ints (flat vs)⟩, some ⟨.row 32 2, .ints (flat (hulV (ptsA us.length (List.drop 0 (flat us)))))⟩, some ⟨.row 32 2, .ints (flat (hulV (ptsA vs.length (List.drop 0 (flat vs)))))⟩, some ⟨.row 32 2, .ints (flat (addL (ptsA (hulV (ptsA us.length (List.drop 0 (flat us)))).length (List.drop 0 (flat (hulV (ptsA us.length (List.drop 0 (flat us))))))) (ptsA (hulV (ptsA vs.length (List.drop 0 (flat vs)))).length (List.drop 0 (flat (hulV (ptsA vs.length (List.drop 0 (flat vs)))))))))⟩]))))))))))))))) := by kernel_rfl
theorem Lr_smo {fn : Func} (hf : Try.prog.funcs[39]? = some fn) : LoopsGood Try.prog (lt1 e_smo) 0 (codeOf fn) := by
  obtain rfl := fn_is Try.func39 hf
  exact lt1_good lg_smo
def LSm : FuncId → LT := fun f => match f with
  | 39 => lt1 e_smo
  | _ => noL
def ESm : Env := mkE B0 (fun _ _ => none) LSm
theorem ESm_ok : EnvOk Try.prog ESm := mkEOk B0_ok (fun _ _ _ _ _ h => (by cases h)) (by
  intro f fn hf
  unfold LSm
  split
  all_goals first | with_reducible exact Lr_smo hf | exact noL_good)
set_option maxRecDepth 100000 in
theorem tr_sSm (us vs : List Pt) : bodyX Try.prog ESm 30 12 39 [.row us.length (.ints (flat us)), .row vs.length (.ints (flat vs))] = .need ((0 : Nat) = (0 : Nat)) (.need ((0 : Int) = (0 : Int)) (.need ((flat us).length = us.length * (2 : Nat)) (.need ((flat vs).length = vs.length * (2 : Nat)) (.need (allV (ptsA us.length (flat us)) = true) (.need (allV (ptsA vs.length (flat vs)) = true) (.need (us.length ≤ (100 : Nat)) (.need (vs.length ≤ (100 : Nat)) (.fin (.slice (some ⟨3, 0, none⟩) ((smL (ptsA us.length (flat us)) (ptsA vs.length (flat vs))).length) ((smL (ptsA us.length (flat us)) (ptsA vs.length (flat vs))).length)) [some ⟨.view, .ints (flat us)⟩, some ⟨.view, .ints (flat vs)⟩, some deadB, some ⟨.row 32 2, .ints (flat (smL (ptsA us.length (flat us)) (ptsA vs.length (flat vs))))⟩])))))))) := by kernel_rfl
theorem resR_sSm {us vs : List Pt} (ha : allV us = true) (hb : allV vs = true) (hn : us.length ≤ 100) (hm : vs.length ≤ 100) : ResR Try.prog 39 [.row us.length (.ints (flat us)), .row vs.length (.ints (flat vs))] (rowP (smL us vs)) (blkP (smL us vs)) := by
  refine bodyX_resR mixed ESm_ok (m := 30) (n := 12) rfl ?_
  rw [tr_sSm]
  simp only [ptsA_flat]
  have fu := flat_length us
  have fv := flat_length vs
  repeat' (first | exact True.intro | assumption | omega | exact rfl | exact ⟨some 3, ⟨rfl, rfl, rfl⟩, rfl, rfl, rfl⟩ | refine And.intro ?_ ?_)
def RSm : TabR := fun f ds => match f, ds with
  | 39, [.row m (.ints xs), .row n (.ints ys)] => some (rowP (smL (ptsA m xs) (ptsA n ys)), blkP (smL (ptsA m xs) (ptsA n ys)), [m * 2 ≤ xs.length, n * 2 ≤ ys.length, allV (ptsA m xs) = true, allV (ptsA n ys) = true, m ≤ 100, n ≤ 100])
  | 38, [.row m (.ints xs)] => some (rowP (hulL (srtL (ptsA m xs))), blkP (hulL (srtL (ptsA m xs))), [m * 2 ≤ xs.length, allW (ptsA m xs) = true, m ≤ 1000])
  | _, _ => none
theorem RSm_ok : TabROk Try.prog RSm := by
  intro f ds v b C h hC
  unfold RSm at h
  split at h
  · obtain ⟨rfl, rfl, rfl⟩ : _ ∧ _ ∧ _ := by simpa using h
    obtain ⟨_, h2⟩ := ptsA_spec hC.1
    obtain ⟨_, h3⟩ := ptsA_spec hC.2.1
    exact resR_two hC.1 hC.2.1 (resR_sSm hC.2.2.1 hC.2.2.2.1 (by rw [h2]; exact hC.2.2.2.2.1) (by rw [h3]; exact hC.2.2.2.2.2.1))
  · obtain ⟨rfl, rfl, rfl⟩ : _ ∧ _ ∧ _ := by simpa using h
    obtain ⟨_, h2⟩ := ptsA_spec hC.1
    have h1 := resR_pts1 (pre := []) (post := []) hC.1 (resR_wHu hC.2.1 (by rw [h2]; exact hC.2.2.1))
    simp only [List.nil_append] at h1
    exact h1
  · cases h
def EMz : Env := mkE T3 RSm (fun _ => noL)
theorem EMz_ok : EnvOk Try.prog EMz := mkEOk T3_ok RSm_ok (fun _ _ _ => noL_good)
noncomputable def c_mkv : Code := ((loopsOf (codeOf Try.f15))[0]?).getD .skip
def k_mkv : Ex → List Nat := keeps [6, 7] [(0, [6])] [4, 5]
def s_mkv (ps : List Pt) : Nat → St := fun i => ⟨(topV :: topV :: topV :: topV :: topV :: topV :: .slice (some ⟨5, 0, none⟩) ps.length ps.length :: .int .i64 i :: topV :: topV :: topV :: topV :: topV :: topV :: topV :: topV :: topV :: topV :: topV :: topV :: topV :: topV :: topV :: topV :: topV :: topV :: topV :: topV :: topV :: topV :: topV :: topV :: topV :: topV :: topV :: topV :: topV :: topV :: topV :: topV :: topV :: topV :: topV :: topV :: topV :: []), [some ⟨.dead, .vals []⟩, some ⟨.dead, .vals []⟩, some ⟨.dead, .vals []⟩, some ⟨.dead, .vals []⟩, some ⟨.dead, .vals []⟩, some ⟨.row 32 2, .ints (flat ps)⟩]⟩
def re_mkv (ps : List Pt) : Nat → Ex := fun i => bif allV ps then .exit 0 else .ret
def rs_mkv (ps : List Pt) : Nat → St := fun i => bif allV ps then ⟨(topV :: topV :: topV :: topV :: topV :: topV :: .slice (some ⟨5, 0, none⟩) ps.length ps.length :: topV :: topV :: topV :: topV :: topV :: topV :: topV :: topV :: topV :: topV :: topV :: topV :: topV :: topV :: topV :: topV :: topV :: topV :: topV :: topV :: topV :: topV :: topV :: topV :: topV :: topV :: topV :: topV :: topV :: topV :: topV :: topV :: topV :: topV :: topV :: topV :: topV :: topV :: []), [some ⟨.dead, .vals []⟩, some ⟨.dead, .vals []⟩, some ⟨.dead, .vals []⟩, some ⟨.dead, .vals []⟩, some ⟨.dead, .vals []⟩, some ⟨.row 32 2, .ints (flat ps)⟩]⟩ else ⟨(topV :: topV :: topV :: topV :: .slice none 0 0 :: .bool false :: topV :: topV :: topV :: topV :: topV :: topV :: topV :: topV :: topV :: topV :: topV :: topV :: topV :: topV :: topV :: topV :: topV :: topV :: topV :: topV :: topV :: topV :: topV :: topV :: topV :: topV :: topV :: topV :: topV :: topV :: topV :: topV :: topV :: topV :: topV :: topV :: topV :: topV :: topV :: []), [some ⟨.dead, .vals []⟩, some ⟨.dead, .vals []⟩, some ⟨.dead, .vals []⟩, some ⟨.dead, .vals []⟩, some ⟨.dead, .vals []⟩, some ⟨.row 32 2, .ints (flat ps)⟩]⟩
set_option maxRecDepth 100000 in
theorem tr_mkv (ps : List Pt) (i : Nat) : bodyL Try.prog EMz 30 12 noL 1 c_mkv k_mkv 16 (s_mkv ps i) = brT (decide ((↑i : Int) < (↑ps.length : Int))) (.need ((0 : Int) ≤ (↑i : Int) ∧ (↑i : Int) < (↑ps.length : Int)) (.need ((0 : Nat) + (↑i : Int).toNat * (2 : Nat) + (2 : Nat) ≤ (flat ps).length) (brT (!ptB ((flat ps).getD (0 + (↑i : Int).toNat * 2) 0) ((flat ps).getD (0 + (↑i : Int).toNat * 2 + 1) 0)) (.leaf .ret ⟨(topV :: topV :: topV :: topV :: .slice none (0) (0) :: .bool (false) :: topV :: topV :: topV :: topV :: topV :: topV :: topV :: topV :: topV :: topV :: topV :: topV :: topV :: topV :: topV :: topV :: topV :: topV :: topV :: topV :: topV :: topV :: topV :: topV :: topV :: topV :: topV :: topV :: topV :: topV :: topV :: topV :: topV :: topV :: topV :: topV :: topV :: topV :: topV :: []), [some deadB, some deadB, some deadB, some deadB, some deadB, some ⟨.row 32 2, .ints (flat ps)⟩]⟩) (.leaf .normal ⟨(topV :: topV :: topV :: topV :: topV :: topV :: .slice (some ⟨5, 0, none⟩) (ps.length) (ps.length) :: .int .i64 (IntKind.i64.wrap ((↑i : Int) + 1)) :: topV :: topV :: topV :: topV :: topV :: topV :: topV :: topV :: topV :: topV :: topV :: topV :: topV :: topV :: topV :: topV :: topV :: topV :: topV :: topV :: topV :: topV :: topV :: topV :: topV :: topV :: topV :: topV :: topV :: topV :: topV :: topV :: topV :: topV :: topV :: topV :: topV :: []), [some deadB, some deadB, some deadB, some deadB, some deadB, some ⟨.row 32 2, .ints (flat ps)⟩]⟩)))) (.leaf (.exit 0) ⟨(topV :: topV :: topV :: topV :: topV :: topV :: .slice (some ⟨5, 0, none⟩) (ps.length) (ps.length) :: topV :: topV :: topV :: topV :: topV :: topV :: topV :: topV :: topV :: topV :: topV :: topV :: topV :: topV :: topV :: topV :: topV :: topV :: topV :: topV :: topV :: topV :: topV :: topV :: topV :: topV :: topV :: topV :: topV :: topV :: topV :: topV :: topV :: topV :: topV :: topV :: topV :: topV :: []), [some deadB, some deadB, some deadB, some deadB, some deadB, some ⟨.row 32 2, .ints (flat ps)⟩]⟩) := by kernel_rfl
set_option maxRecDepth 100000 in
theorem nl_mkv : loopsOf c_mkv = [] := by kernel_rfl
def inv_mkv (ps : List Pt) : Nat → Prop := fun i => i ≤ ps.length ∧ allV (ps.drop i) = allV ps
def me_mkv (ps : List Pt) : Nat → Nat := fun i => ps.length - i
/-- A round of this loop. -/
def Round_mkv (ps : List Pt) : Prop := ∀ xx : Nat, inv_mkv ps xx → (bodyL Try.prog EMz 30 12 noL 1 c_mkv k_mkv 16 (s_mkv ps xx)).ok (RoundEnd 6 (s_mkv ps) (inv_mkv ps) (me_mkv ps) (re_mkv ps) (rs_mkv ps) xx) (fun _ _ => False)
def e_mkv (s : St) (k : Ex → St → Tree) : Option Tree := match Nat.beq s.tmps.length 45, pickL s.tmps [6, 7], s.mem with
  | true, [.slice (some ⟨5, 0, none⟩) n _, .int .i64 i0], [_, _, _, _, _, some ⟨.row 32 2, .ints xs⟩] => some (needs [i0 = 0, xs.length = n * 2, n ≤ 1000] (brT (allV (ptsA n xs)) (k (.exit 0) ⟨(topV :: topV :: topV :: topV :: topV :: topV :: .slice (some ⟨5, 0, none⟩) n n :: topV :: topV :: topV :: topV :: topV :: topV :: topV :: topV :: topV :: topV :: topV :: topV :: topV :: topV :: topV :: topV :: topV :: topV :: topV :: topV :: topV :: topV :: topV :: topV :: topV :: topV :: topV :: topV :: topV :: topV :: topV :: topV :: topV :: topV :: topV :: topV :: topV :: topV :: []), [some ⟨.dead, .vals []⟩, some ⟨.dead, .vals []⟩, some ⟨.dead, .vals []⟩, some ⟨.dead, .vals []⟩, some ⟨.dead, .vals []⟩, some ⟨.row 32 2, .ints xs⟩]⟩) (k .ret ⟨(topV :: topV :: topV :: topV :: .slice none 0 0 :: .bool false :: topV :: topV :: topV :: topV :: topV :: topV :: topV :: topV :: topV :: topV :: topV :: topV :: topV :: topV :: topV :: topV :: topV :: topV :: topV :: topV :: topV :: topV :: topV :: topV :: topV :: topV :: topV :: topV :: topV :: topV :: topV :: topV :: topV :: topV :: topV :: topV :: topV :: topV :: topV :: []), [some ⟨.dead, .vals []⟩, some ⟨.dead, .vals []⟩, some ⟨.dead, .vals []⟩, some ⟨.dead, .vals []⟩, some ⟨.dead, .vals []⟩, some ⟨.row 32 2, .ints xs⟩]⟩)))
  | _, _, _ => none
theorem allV_consK (p : Pt) (l : List Pt) : allV (p :: l) = (ptB p.1 p.2 && allV l) := rfl
set_option maxRecDepth 100000 in
theorem round_mkv (ps : List Pt) (h : ps.length ≤ 1000) : Round_mkv ps := by
  rintro i ⟨h1, h2⟩
  rw [tr_mkv]
  simp only [Int.toNat_natCast, Nat.zero_add, flat_get0, flat_get1, flat_length]
  refine brT_ok.2 ⟨fun c => ?_, fun c => ?_⟩
  · have c := of_decide_eq_true c
    have hi : i < ps.length := by omega
    rw [drop_cons2 hi, allV_consK] at h2
    rw [wsucc hi (by omega)]
    refine ⟨by omega, by omega, brT_ok.2 ⟨fun q => ?_, fun q => ?_⟩⟩
    · have q : ptB (ps.getD i (0, 0)).1 (ps.getD i (0, 0)).2 = false := by simpa using q
      rw [q, Bool.false_and] at h2
      refine ⟨by simp only [re_mkv, ← h2, cond_false], [], ?_⟩
      simp only [rs_mkv, ← h2, cond_false]
      repeat' (first | exact True.intro | exact rfl | exact wv_top _ _ | exact fun _ => rfl | (simp; done) | refine And.intro ?_ ?_)
    · have q : ptB (ps.getD i (0, 0)).1 (ps.getD i (0, 0)).2 = true := by simpa using q
      rw [q, Bool.true_and] at h2
      refine ⟨i + 1, [], ⟨by omega, h2⟩, ?_, rfl, rfl, ?_⟩
      · show ps.length - (i + 1) < ps.length - i; omega
      · repeat' (first | exact True.intro | exact rfl | exact wv_top _ _ | exact fun _ => rfl | (simp; done) | refine And.intro ?_ ?_)
  · have c := of_decide_eq_false c
    rw [List.drop_of_length_le (by omega)] at h2
    have h2 : allV ps = true := h2.symm
    refine ⟨by simp only [re_mkv, h2, cond_true], [], ?_⟩
    simp only [rs_mkv, h2, cond_true]
    repeat' (first | exact True.intro | exact rfl | exact wv_top _ _ | exact fun _ => rfl | (simp; done) | refine And.intro ?_ ?_)
set_option maxRecDepth 100000 in
theorem lg_mkv : LoopE Try.prog e_mkv c_mkv := by
  intro s k t F H hlt ht
  unfold e_mkv at hlt
  split at hlt
  rotate_left
  · cases hlt
  rename_i hlen hpick hmem
  obtain ⟨tmps, mem⟩ := s
  simp only at hlen hpick hmem
  subst hmem
  obtain rfl := Option.some.inj hlt
  obtain ⟨⟨rfl, h1, h3, _⟩, ht2⟩ := needs_ok ht
  clear ht hlt
  obtain ⟨ps, rfl, rfl⟩ := even_flat h1
  rw [ptsA_flat] at ht2
  refine ⟨_, _, pick2k ht2, loop_run2 mixed EMz_ok (s_mkv ps) (inv_mkv ps) (me_mkv ps) (re_mkv ps) (rs_mkv ps) k_mkv (fun _ => rfl) (noLoops nl_mkv) (round_mkv ps h3) (x := 0) ⟨Nat.zero_le _, rfl⟩ (π := []) rfl ?_⟩
  refine ⟨rfl, rfl, ?_, wvs_spread' [6, 7] hlen rfl ?_⟩
  · repeat' (first | exact True.intro | exact rfl | exact wv_top _ _ | exact fun _ => rfl | assumption | exact Eq.symm (by assumption) | exact vI0 rfl | refine And.intro ?_ ?_)
  · rw [hpick]
    repeat' (first | exact True.intro | exact rfl | exact wv_top _ _ | exact fun _ => rfl | assumption | exact Eq.symm (by assumption) | exact vI0 rfl | refine And.intro ?_ ?_)
theorem Lr_mkv {fn : Func} (hf : Try.prog.funcs[15]? = some fn) : LoopsGood Try.prog (lt1 e_mkv) 0 (codeOf fn) := by
  obtain rfl := fn_is Try.func15 hf
  exact lt1_good lg_mkv
def LMv : FuncId → LT := fun f => match f with
  | 15 => lt1 e_mkv
  | _ => noL
def EMv : Env := mkE T3 RSm LMv
theorem EMv_ok : EnvOk Try.prog EMv := mkEOk T3_ok RSm_ok (by
  intro f fn hf
  unfold LMv
  split
  all_goals first | with_reducible exact Lr_mkv hf | exact noL_good)
set_option maxRecDepth 100000 in
theorem tr_sMs (us vs : List Pt) : bodyX Try.prog EMv 30 12 15 [.row us.length (.ints (flat us)), .row vs.length (.ints (flat vs))] = .need (us.length * (2 : Nat) ≤ (List.drop (0 : Nat) (flat us)).length) (.need (us.length ≤ (1000000000 : Nat)) (brT (!okL (ptsA us.length (List.drop 0 (flat us)))) (.fin (.tuple #[.slice none (0) (0), .bool (false)]) [some ⟨.view, .ints (flat us)⟩, some ⟨.view, .ints (flat vs)⟩]) (.need (vs.length * (2 : Nat) ≤ (List.drop (0 : Nat) (flat vs)).length) (.need (vs.length ≤ (1000000000 : Nat)) (brT (!okL (ptsA vs.length (List.drop 0 (flat vs)))) (.fin (.tuple #[.slice none (0) (0), .bool (false)]) [some ⟨.view, .ints (flat us)⟩, some ⟨.view, .ints (flat vs)⟩]) (brT ((↑us.length : Int) == 0) (.fin (.tuple #[.slice none (0) (0), .bool (false)]) [some ⟨.view, .ints (flat us)⟩, some ⟨.view, .ints (flat vs)⟩]) (brT ((↑vs.length : Int) == 0) (.fin (.tuple #[.slice none (0) (0), .bool (false)]) [some ⟨.view, .ints (flat us)⟩, some ⟨.view, .ints (flat vs)⟩]) (.need (us.length * (2 : Nat) ≤ (List.drop (0 : Nat) (flat us)).length) (.need (allW (ptsA us.length (List.drop (0 : Nat) (flat us))) = true) (.need (us.length ≤ (1000 : Nat)) (.need (vs.length * (2 : Nat) ≤ (List.drop (0 : Nat) (flat vs)).length) (.need (allW (ptsA vs.length (List.drop (0 : Nat) (flat vs))) = true) (.need (vs.length ≤ (1000 : Nat)) (.need ((hulL (srtL (ptsA us.length (List.drop (0 : Nat) (flat us))))).length * (2 : Nat) ≤ (List.drop (0 : Nat) (flat (hulL (srtL (ptsA us.length (List.drop (0 : Nat) (flat us))))))).length) (.need ((hulL (srtL (ptsA vs.length (List.drop (0 : Nat) (flat vs))))).length * (2 : Nat) ≤ (List.drop (0 : Nat) (flat (hulL (srtL (ptsA vs.length (List.drop (0 : Nat) (flat vs))))))).length) (.need (allV (ptsA (hulL (srtL (ptsA us.length (List.drop (0 : Nat) (flat us))))).length (List.drop (0 : Nat) (flat (hulL (srtL (ptsA us.length (List.drop (0 : Nat) (flat us)))))))) = true) (.need (allV (ptsA (hulL (srtL (ptsA vs.length (List.drop (0 : Nat) (flat vs))))).length (List.drop (0 : Nat) (flat (hulL (srtL (ptsA vs.length (List.drop (0 : Nat) (flat vs)))))))) = true) (.need ((hulL (srtL (ptsA us.length (List.drop (0 : Nat) (flat us))))).length ≤ (100 : Nat)) (.need ((hulL (srtL (ptsA vs.length (List.drop (0 : Nat) (flat vs))))).length ≤ (100 : Nat)) (.need ((smL (ptsA (hulL (srtL (ptsA us.length (List.drop (0 : Nat) (flat us))))).length (List.drop (0 : Nat) (flat (hulL (srtL (ptsA us.length (List.drop (0 : Nat) (flat us)))))))) (ptsA (hulL (srtL (ptsA vs.length (List.drop (0 : Nat) (flat vs))))).length (List.drop (0 : Nat) (flat (hulL (srtL (ptsA vs.length (List.drop (0 : Nat) (flat vs))))))))).length * (2 : Nat) ≤ (List.drop (0 : Nat) (flat (smL (ptsA (hulL (srtL (ptsA us.length (List.drop (0 : Nat) (flat us))))).length (List.drop (0 : Nat) (flat (hulL (srtL (ptsA us.length (List.drop (0 : Nat) (flat us)))))))) (ptsA (hulL (srtL (ptsA vs.length (List.drop (0 : Nat) (flat vs))))).length (List.drop (0 : Nat) (flat (hulL (srtL (ptsA vs.length (List.drop (0 : Nat) (flat vs))))))))))).length) (.need (allW (ptsA (smL (ptsA (hulL (srtL (ptsA us.length (List.drop (0 : Nat) (flat us))))).length (List.drop (0 : Nat) (flat (hulL (srtL (ptsA us.length (List.drop (0 : Nat) (flat us)))))))) (ptsA (hulL (srtL (ptsA vs.length (List.drop (0 : Nat) (flat vs))))).length (List.drop (0 : Nat) (flat (hulL (srtL (ptsA vs.length (List.drop (0 : Nat) (flat vs))))))))).length (List.drop (0 : Nat) (flat (smL (ptsA (hulL (srtL (ptsA us.length (List.drop (0 : Nat) (flat us))))).length (List.drop (0 : Nat) (flat (hulL (srtL (ptsA us.length (List.drop (0 : Nat) (flat us)))))))) (ptsA (hulL (srtL (ptsA vs.length (List.drop (0 : Nat) (flat vs))))).length (List.drop (0 : Nat) (flat (hulL (srtL (ptsA vs.length (List.drop (0 : Nat) (flat vs)))))))))))) = true) (.need ((smL (ptsA (hulL (srtL (ptsA us.length (List.drop (0 : Nat) (flat us))))).length (List.drop (0 : Nat) (flat (hulL (srtL (ptsA us.length (List.drop (0 : Nat) (flat us)))))))) (ptsA (hulL (srtL (ptsA vs.length (List.drop (0 : Nat) (flat vs))))).length (List.drop (0 : Nat) (flat (hulL (srtL (ptsA vs.length (List.drop (0 : Nat) (flat vs))))))))).length ≤ (1000 : Nat)) (.need ((0 : Int) = (0 : Int)) (.need ((flat (hulL (srtL (ptsA (smL (ptsA (hulL (srtL (ptsA us.length (List.drop (0 : Nat) (flat us))))).length (List.drop (0 : Nat) (flat (hulL (srtL (ptsA us.length (List.drop (0 : Nat) (flat us)))))))) (ptsA (hulL (srtL (ptsA vs.length (List.drop (0 : Nat) (flat vs))))).length (List.drop (0 : Nat) (flat (hulL (srtL (ptsA vs.length (List.drop (0 : Nat) (flat vs))))))))).length (List.drop (0 : Nat) (flat (smL (ptsA (hulL (srtL (ptsA us.length (List.drop (0 : Nat) (flat us))))).length (List.drop (0 : Nat) (flat (hulL (srtL (ptsA us.length (List.drop (0 : Nat) (flat us)))))))) (ptsA (hulL (srtL (ptsA vs.length (List.drop (0 : Nat) (flat vs))))).length (List.drop (0 : Nat) (flat (hulL (srtL (ptsA vs.length (List.drop (0 : Nat) (flat vs))))))))))))))).length = (hulL (srtL (ptsA (smL (ptsA (hulL (srtL (ptsA us.length (List.drop (0 : Nat) (flat us))))).length (List.drop (0 : Nat) (flat (hulL (srtL (ptsA us.length (List.drop (0 : Nat) (flat us)))))))) (ptsA (hulL (srtL (ptsA vs.length (List.drop (0 : Nat) (flat vs))))).length (List.drop (0 : Nat) (flat (hulL (srtL (ptsA vs.length (List.drop (0 : Nat) (flat vs))))))))).length (List.drop (0 : Nat) (flat (smL (ptsA (hulL (srtL (ptsA us.length (List.drop (0 : Nat) (flat us))))).length (List.drop (0 : Nat) (flat (hulL (srtL (ptsA us.length (List.drop (0 : Nat) (flat us)))))))) (ptsA (hulL (srtL (ptsA vs.length (List.drop (0 : Nat) (flat vs))))).length (List.drop (0 : Nat) (flat (hulL (srtL (ptsA vs.length (List.drop (0 : Nat) (flat vs)))))))))))))).length * (2 : Nat)) (.need ((hulL (srtL (ptsA (smL (ptsA (hulL (srtL (ptsA us.length (List.drop (0 : Nat) (flat us))))).length (List.drop (0 : Nat) (flat (hulL (srtL (ptsA us.length (List.drop (0 : Nat) (flat us)))))))) (ptsA (hulL (srtL (ptsA vs.length (List.drop (0 : Nat) (flat vs))))).length (List.drop (0 : Nat) (flat (hulL (srtL (ptsA vs.length (List.drop (0 : Nat) (flat vs))))))))).length (List.drop (0 : Nat) (flat (smL (ptsA (hulL (srtL (ptsA us.length (List.drop (0 : Nat) (flat us))))).length (List.drop (0 : Nat) (flat (hulL (srtL (ptsA us.length (List.drop (0 : Nat) (flat us)))))))) (ptsA (hulL (srtL (ptsA vs.length (List.drop (0 : Nat) (flat vs))))).length (List.drop (0 : Nat) (flat (hulL (srtL (ptsA vs.length (List.drop (0 : Nat) (flat vs)))))))))))))).length ≤ (1000 : Nat)) (brT (allV (ptsA (hulL (srtL (ptsA (smL (ptsA (hulL (srtL (ptsA us.length (List.drop 0 (flat us))))).length (List.drop 0 (flat (hulL (srtL (ptsA us.length (List.drop 0 (flat us)))))))) (ptsA (hulL (srtL (ptsA vs.length (List.drop 0 (flat vs))))).length (List.drop 0 (flat (hulL (srtL (ptsA vs.length (List.drop 0 (flat vs))))))))).length (List.drop 0 (flat (smL (ptsA (hulL (srtL (ptsA us.length (List.drop 0 (flat us))))).length (List.drop 0 (flat (hulL (srtL (ptsA us.length (List.drop 0 (flat us)))))))) (ptsA (hulL (srtL (ptsA vs.length (List.drop 0 (flat vs))))).length (List.drop 0 (flat (hulL (srtL (ptsA vs.length (List.drop 0 (flat vs)))))))))))))).length (flat (hulL (srtL (ptsA (smL (ptsA (hulL (srtL (ptsA us.length (List.drop 0 (flat us))))).length (List.drop 0 (flat (hulL (srtL (ptsA us.length (List.drop 0 (flat us)))))))) (ptsA (hulL (srtL (ptsA vs.length (List.drop 0 (flat vs))))).length (List.drop 0 (flat (hulL (srtL (ptsA vs.length (List.drop 0 (flat vs))))))))).length (List.drop 0 (flat (smL (ptsA (hulL (srtL (ptsA us.length (List.drop 0 (flat us))))).length (List.drop 0 (flat (hulL (srtL (ptsA us.length (List.drop 0 (flat us)))))))) (ptsA (hulL (srtL (ptsA vs.length (List.drop 0 (flat vs))))).length (List.drop 0 (flat (hulL (srtL (ptsA vs.length (List.drop 0 (flat vs))))))))))))))))) (.fin (.tuple #[.slice (some ⟨5, 0, none⟩) ((hulL (srtL (ptsA (smL (ptsA (hulL (srtL (ptsA us.length (List.drop 0 (flat us))))).length (List.drop 0 (flat (hulL (srtL (ptsA us.length (List.drop 0 (flat us)))))))) (ptsA (hulL (srtL (ptsA vs.length (List.drop 0 (flat vs))))).length (List.drop 0 (flat (hulL (srtL (ptsA vs.length (List.drop 0 (flat vs))))))))).length (List.drop 0 (flat (smL (ptsA (hulL (srtL (ptsA us.length (List.drop 0 (flat us))))).length (List.drop 0 (flat (hulL (srtL (ptsA us.length (List.drop 0 (flat us)))))))) (ptsA (hulL (srtL (ptsA vs.length (List.drop 0 (flat vs))))).length (List.drop 0 (flat (hulL (srtL (ptsA vs.length (List.drop 0 (flat vs)))))))))))))).length) ((hulL (srtL (ptsA (smL (ptsA (hulL (srtL (ptsA us.length (List.drop 0 (flat us))))).length (List.drop 0 (flat (hulL (srtL (ptsA us.length (List.drop 0 (flat us)))))))) (ptsA (hulL (srtL (ptsA vs.length (List.drop 0 (flat vs))))).length (List.drop 0 (flat (hulL (srtL (ptsA vs.length (List.drop 0 (flat vs))))))))).length (List.drop 0 (flat (smL (ptsA (hulL (srtL (ptsA us.length (List.drop 0 (flat us))))).length (List.drop 0 (flat (hulL (srtL (ptsA us.length (List.drop 0 (flat us)))))))) (ptsA (hulL (srtL (ptsA vs.length (List.drop 0 (flat vs))))).length (List.drop 0 (flat (hulL (srtL (ptsA vs.length (List.drop 0 (flat vs)))))))))))))).length), .bool (true)]) [some deadB, some deadB, some deadB, some deadB, some deadB, some ⟨.row 32 2, .ints (flat (hulL (srtL (ptsA (smL (ptsA (hulL (srtL (ptsA us.length (List.drop 0 (flat us))))).length (List.drop 0 (flat (hulL (srtL (ptsA us.length (List.drop 0 (flat us)))))))) (ptsA (hulL (srtL (ptsA vs.length (List.drop 0 (flat vs))))).length (List.drop 0 (flat (hulL (srtL (ptsA vs.length (List.drop 0 (flat vs))))))))).length (List.drop 0 (flat (smL (ptsA (hulL (srtL (ptsA us.length (List.drop 0 (flat us))))).length (List.drop 0 (flat (hulL (srtL (ptsA us.length (List.drop 0 (flat us)))))))) (ptsA (hulL (srtL (ptsA vs.length (List.drop 0 (flat vs))))).length (List.drop 0 (flat (hulL (srtL (ptsA vs.length (List.drop 0 (flat vs)))))))))))))))⟩]) (.fin (.tuple #[.slice none (0) (0), .bool (false)]) [some deadB, some deadB, some deadB, some deadB, some deadB, some ⟨.row 32 2, .ints (flat (hulL (srtL (ptsA (smL (ptsA (hulL (srtL (ptsA us.length (List.drop 0 (flat us))))).length (List.drop 0 (flat (hulL (srtL (ptsA us.length (List.drop 0 (flat us)))))))) (ptsA (hulL (srtL (ptsA vs.length (List.drop 0 (flat vs))))).length (List.drop 0 (flat (hulL (srtL (ptsA vs.length (List.drop 0 (flat vs))))))))).length (List.drop 0 (flat (smL (ptsA (hulL (srtL (ptsA us.length (List.drop 0 (flat us))))).length (List.drop 0 (flat (hulL (srtL (ptsA us.length (List.drop 0 (flat us)))))))) (ptsA (hulL (srtL (ptsA vs.length (List.drop 0 (flat vs))))).length (List.drop 0 (flat (hulL (srtL (ptsA vs.length (List.drop 0 (flat vs)))))))))))))))⟩]))))))))))))))))))))))))))) := by kernel_rfl
abbrev rowBK (b : Bool) (ps : List Pt) : Value := .tuple #[.slice (some ⟨0, 0, none⟩) ps.length ps.length, .bool b]
/-- The hull of the sums of two hulls. -/
def mkwH (us vs : List Pt) : List Pt := hulL (srtL (smL (hulV us) (hulV vs)))
def mkwB (us vs : List Pt) : Bool := okL us && okL vs && decide (0 < us.length) && decide (0 < vs.length) && allV (mkwH us vs)
/-- What MinkowskiSum answers. -/
def mkwV (us vs : List Pt) : List Pt := bif mkwB us vs then mkwH us vs else []
theorem hulV_leK (us : List Pt) : (hulV us).length ≤ 20 := by
  rcases ho : okL us with _ | _
  · rw [hulV_no ho]; exact Nat.zero_le _
  · rw [hulV_yes ho]
    have := hul_le (srtL_asc us)
    have := srtL_le us
    have := (okL_20 ho).2
    omega
theorem hulV_all (us : List Pt) : allV (hulV us) = true := allV_hul (spV_all us)
theorem smL_le (us vs : List Pt) : (smL (hulV us) (hulV vs)).length ≤ 400 := by
  rw [smL_len]
  exact Nat.mul_le_mul (hulV_leK us) (hulV_leK vs)
theorem mkwH_le (us vs : List Pt) : (mkwH us vs).length ≤ 400 := by
  have := hul_le (srtL_asc (smL (hulV us) (hulV vs)))
  have := srtL_le (smL (hulV us) (hulV vs))
  have := smL_le us vs
  unfold mkwH
  omega
theorem allW_of {ps : List Pt} (h : allV ps = true) : allW ps = true := List.all_eq_true.2 fun z hz => by
  have := ptB_true (List.all_eq_true.1 h z hz)
  exact pt2_iff.2 (by omega)
theorem allW_sm {us vs : List Pt} (ha : allV us = true) (hb : allV vs = true) : allW (smL us vs) = true := List.all_eq_true.2 fun z hz => by
  obtain ⟨p, q, hp, hq, rfl⟩ := mem_smL.1 hz
  have := ptB_true (List.all_eq_true.1 ha p hp)
  have := ptB_true (List.all_eq_true.1 hb q hq)
  unfold adP
  exact pt2_iff.2 (by simp only; omega)
theorem srtL_neK {us : List Pt} (h : 0 < us.length) : srtL us ≠ [] := fun e => by
  match us, h, e with
  | p :: t, _, e =>
    have := (srtL_mem (p :: t) p).2 (by simp)
    rw [e] at this
    cases this
theorem hulV_pos {us : List Pt} (ho : okL us = true) (h : 0 < us.length) : 0 < (hulV us).length := by
  rw [hulV_yes ho]
  obtain ⟨q, B, e⟩ := hul_neK (srtL_neK h) (srtL_asc us)
  rw [e]
  simp
/-- What the program's merge leads to. -/
theorem add_is {us vs : List Pt} (ho : okL us = true) (hv : okL vs = true) (h : 0 < us.length) (h' : 0 < vs.length) : addL (hulV us) (hulV vs) = mkwH us vs := by
  unfold mkwH
  rw [hulV_yes ho, hulV_yes hv]
  exact add_hul (srtL_asc us) (srtL_asc vs) (srtL_asc _) (srtL_neK h) (srtL_neK h') fun z => by rw [srtL_mem, mem_smL]
theorem resR_sMs (us vs : List Pt) (h : Big us) (h' : Big vs) : ResR Try.prog 15 [.row us.length (.ints (flat us)), .row vs.length (.ints (flat vs))] (rowBK (mkwB us vs) (mkwV us vs)) ⟨.row 32 2, .ints (flat (mkwV us vs))⟩ := by
  refine bodyX_resR mixed EMv_ok (m := 30) (n := 12) rfl ?_
  rw [tr_sMs]
  unfold Big at h h'
  simp only [List.drop_zero, ptsA_flat, flat_length]
  unfold mkwV mkwB
  rcases ho : okL us with _ | _
  · exact ⟨Nat.le_refl _, h, none, ⟨⟨rfl, rfl⟩, ⟨rfl, rfl⟩, trivial⟩, trivial⟩
  rcases hv : okL vs with _ | _
  · exact ⟨Nat.le_refl _, h, Nat.le_refl _, h', none, ⟨⟨rfl, rfl⟩, ⟨rfl, rfl⟩, trivial⟩, trivial⟩
  simp only [Bool.not_true, brT_f]
  refine ⟨Nat.le_refl _, h, Nat.le_refl _, h', brT_ok.2 ⟨fun q => ?_, fun q => brT_ok.2 ⟨fun r => ?_, fun r => ?_⟩⟩⟩
  · have q : us = [] := by simpa using q
    subst q
    exact ⟨none, ⟨⟨rfl, rfl⟩, ⟨rfl, rfl⟩, trivial⟩, trivial⟩
  · have r : vs = [] := by simpa using r
    subst r
    rw [decide_eq_false (show ¬ 0 < ([] : List Pt).length by simp), Bool.and_false, Bool.false_and]
    exact ⟨none, ⟨⟨rfl, rfl⟩, ⟨rfl, rfl⟩, trivial⟩, trivial⟩
  have u0 : 0 < us.length := by
    have : ¬ us.length = 0 := fun e => by rw [e] at q; exact absurd q (by decide)
    omega
  have v0 : 0 < vs.length := by
    have : ¬ vs.length = 0 := fun e => by rw [e] at r; exact absurd r (by decide)
    omega
  have eH : hulL (srtL (smL (hulV us) (hulV vs))) = mkwH us vs := rfl
  rw [decide_eq_true u0, decide_eq_true v0]
  simp only [← hulV_yes ho, ← hulV_yes hv, eH]
  have k1 := okL_20 ho
  have k2 := okL_20 hv
  have w1 := allW_of k1.1
  have w2 := allW_of k2.1
  have a1 := hulV_all us
  have a2 := hulV_all vs
  have l1 := hulV_leK us
  have l2 := hulV_leK vs
  have a3 := allW_sm a1 a2
  have l3 := smL_le us vs
  have l4 := mkwH_le us vs
  rcases hx : allV (mkwH us vs) with _ | _
  all_goals repeat' (first | exact True.intro | assumption | omega | exact rfl | exact ⟨none, ⟨⟨rfl, rfl⟩, ⟨rfl, rfl⟩, trivial⟩, trivial⟩ | exact ⟨some 5, ⟨⟨rfl, rfl, rfl⟩, ⟨rfl, rfl⟩, trivial⟩, rfl, rfl, rfl⟩ | refine And.intro ?_ ?_)
theorem hulV_inK {us : List Pt} (h : 0 < (hulV us).length) : okL us = true ∧ 0 < us.length := by
  rcases ho : okL us with _ | _
  · rw [hulV_no ho] at h; simp at h
  · refine ⟨rfl, ?_⟩
    rw [hulV_yes ho] at h
    have := hul_le (srtL_asc us)
    have := srtL_le us
    omega
theorem mkwB_no {us vs : List Pt} (h : (hulV us).length = 0 ∨ (hulV vs).length = 0) : mkwB us vs = false := by
  rcases hb : mkwB us vs with _ | _
  · rfl
  · exfalso
    unfold mkwB at hb
    simp only [Bool.and_eq_true, decide_eq_true_eq] at hb
    have := hulV_pos hb.1.1.1.1 hb.1.1.2
    have := hulV_pos hb.1.1.1.2 hb.1.2
    omega
theorem resR_iMs (us vs : List Pt) (h : Big us) (h' : Big vs) : ResR Try.prog 14 [.row us.length (.ints (flat us)), .row vs.length (.ints (flat vs))] (rowBK (mkwB us vs) (mkwV us vs)) ⟨.row 32 2, .ints (flat (mkwV us vs))⟩ := by
  refine bodyX_resR mixed EMs_ok (m := 30) (n := 12) rfl ?_
  rw [tr_iMs]
  unfold Big at h h'
  simp only [List.drop_zero, ptsA_flat, flat_length]
  have a1 := hulV_all us
  have a2 := hulV_all vs
  have l1 := hulV_leK us
  have l2 := hulV_leK vs
  refine ⟨Nat.le_refl _, h, Nat.le_refl _, h', brT_ok.2 ⟨fun q => ?_, fun q => brT_ok.2 ⟨fun r => ?_, fun r => ?_⟩⟩⟩
  · have q : (hulV us).length = 0 := by simpa using q
    unfold mkwV
    rw [mkwB_no (.inl q)]
    exact ⟨none, ⟨⟨rfl, rfl⟩, ⟨rfl, rfl⟩, trivial⟩, trivial⟩
  · have r : (hulV vs).length = 0 := by simpa using r
    unfold mkwV
    rw [mkwB_no (.inr r)]
    exact ⟨none, ⟨⟨rfl, rfl⟩, ⟨rfl, rfl⟩, trivial⟩, trivial⟩
  have u0 : 0 < (hulV us).length := by
    have : ¬ (hulV us).length = 0 := fun e => by rw [e] at q; exact absurd q (by decide)
    omega
  have v0 : 0 < (hulV vs).length := by
    have : ¬ (hulV vs).length = 0 := fun e => by rw [e] at r; exact absurd r (by decide)
    omega
  obtain ⟨k1, k2⟩ := hulV_inK u0
  obtain ⟨k3, k4⟩ := hulV_inK v0
  rw [add_is k1 k3 k2 k4]
  have l4 := mkwH_le us vs
  unfold mkwV mkwB
  rw [k1, k3, decide_eq_true k2, decide_eq_true k4]
  rcases hx : allV (mkwH us vs) with _ | _
  all_goals repeat' (first | exact True.intro | assumption | omega | exact rfl | exact ⟨none, ⟨⟨rfl, rfl⟩, ⟨rfl, rfl⟩, trivial⟩, trivial⟩ | exact ⟨some 4, ⟨⟨rfl, rfl, rfl⟩, ⟨rfl, rfl⟩, trivial⟩, rfl, rfl, rfl⟩ | refine And.intro ?_ ?_)
end Go.Proofs.Ytbfoheblcoakiaa
namespace Go.Proofs.Ytbfoheblcoakiaa
set_option linter.all false
open Go.RowKit
def RMk : TabR := fun f ds => match f, ds with
  | 15, [.row m (.ints xs), .row n (.ints ys)] => some (rowBK (mkwB (ptsA m xs) (ptsA n ys)) (mkwV (ptsA m xs) (ptsA n ys)), ⟨.row 32 2, .ints (flat (mkwV (ptsA m xs) (ptsA n ys)))⟩, [m * 2 ≤ xs.length, n * 2 ≤ ys.length, m ≤ 1000000000, n ≤ 1000000000])
  | 14, [.row m (.ints xs), .row n (.ints ys)] => some (rowBK (mkwB (ptsA m xs) (ptsA n ys)) (mkwV (ptsA m xs) (ptsA n ys)), ⟨.row 32 2, .ints (flat (mkwV (ptsA m xs) (ptsA n ys)))⟩, [m * 2 ≤ xs.length, n * 2 ≤ ys.length, m ≤ 1000000000, n ≤ 1000000000])
  | f, ds => RHv f ds
theorem RMk_ok : TabROk Try.prog RMk := by
  intro f ds v b C h hC
  unfold RMk at h
  split at h
  · obtain ⟨rfl, rfl, rfl⟩ : _ ∧ _ ∧ _ := by simpa using h
    obtain ⟨_, h2⟩ := ptsA_spec hC.1
    obtain ⟨_, h3⟩ := ptsA_spec hC.2.1
    exact resR_two hC.1 hC.2.1 (resR_sMs _ _ (by unfold Big; rw [h2]; exact hC.2.2.1) (by unfold Big; rw [h3]; exact hC.2.2.2.1))
  · obtain ⟨rfl, rfl, rfl⟩ : _ ∧ _ ∧ _ := by simpa using h
    obtain ⟨_, h2⟩ := ptsA_spec hC.1
    obtain ⟨_, h3⟩ := ptsA_spec hC.2.1
    exact resR_two hC.1 hC.2.1 (resR_iMs _ _ (by unfold Big; rw [h2]; exact hC.2.2.1) (by unfold Big; rw [h3]; exact hC.2.2.2.1))
  · exact RHv_ok _ _ _ _ _ h hC
theorem mkwV_le (us vs : List Pt) : (mkwV us vs).length ≤ 400 := by
  unfold mkwV
  rcases mkwB us vs with _ | _
  · exact Nat.zero_le _
  · exact mkwH_le us vs
end Go.Proofs.Ytbfoheblcoakiaa
namespace Go.Proofs.Ytbfoheblcoakiaa
set_option linter.all false
open Go.RowKit
theorem negT_ (b : Bool) : negB true b = !b := by cases b <;> rfl
theorem negF_ (b : Bool) : negB false b = b := by cases b <;> rfl
noncomputable def c_eqQ : Code := ((loopsOf (codeOf Try.f16))[0]?).getD .skip
def k_eqQ : Ex → List Nat := keeps [0, 1, 5] [(0, [])] [4]
def s_eqQ (ps : List Pt) : Nat → St := fun i => ⟨[.slice (some ⟨0, 0, none⟩) ps.length ps.length, .slice (some ⟨1, 0, none⟩) ps.length ps.length, topV, topV, topV, .int .i64 i, topV, topV, topV, topV, topV, topV, topV, topV, topV, topV, topV, topV, topV, topV, topV, topV, topV, topV, topV, topV], [some ⟨.view, .ints (flat ps)⟩, some ⟨.view, .ints (flat ps)⟩]⟩
def re_eqQ : Nat → Ex := fun _ => .exit 0
def rs_eqQ (ps : List Pt) : Nat → St := fun i => ⟨[topV, topV, topV, topV, topV, topV, topV, topV, topV, topV, topV, topV, topV, topV, topV, topV, topV, topV, topV, topV, topV, topV, topV, topV, topV, topV], [some ⟨.view, .ints (flat ps)⟩, some ⟨.view, .ints (flat ps)⟩]⟩
set_option maxRecDepth 100000 in
theorem tr_eqQ (ps : List Pt) (i : Nat) : bodyL Try.prog EM 30 12 noL 1 c_eqQ k_eqQ 2 (s_eqQ ps i) = brT (decide ((↑i : Int) < (↑ps.length : Int))) (.need ((0 : Int) ≤ (↑i : Int) ∧ (↑i : Int) < (↑ps.length : Int)) (.need ((0 : Nat) + (↑i : Int).toNat * (2 : Nat) + (2 : Nat) ≤ (flat ps).length) (.need ((0 : Int) ≤ (↑i : Int) ∧ (↑i : Int) < (↑ps.length : Int)) (.need ((0 : Nat) + (↑i : Int).toNat * (2 : Nat) + (2 : Nat) ≤ (flat ps).length) (brT (negB true ((flat ps).getD (0 + (↑i : Int).toNat * 2) 0 == (flat ps).getD (0 + (↑i : Int).toNat * 2) 0 && ((flat ps).getD (0 + (↑i : Int).toNat * 2 + 1) 0 == (flat ps).getD (0 + (↑i : Int).toNat * 2 + 1) 0 && true))) (.leaf .ret ⟨[topV, topV, topV, topV, .bool (false), topV, topV, topV, topV, topV, topV, topV, topV, topV, topV, topV, topV, topV, topV, topV, topV, topV, topV, topV, topV, topV], [some ⟨.view, .ints (flat ps)⟩, some ⟨.view, .ints (flat ps)⟩]⟩) (.leaf .normal ⟨[.slice (some ⟨0, 0, none⟩) (ps.length) (ps.length), .slice (some ⟨1, 0, none⟩) (ps.length) (ps.length), topV, topV, topV, .int .i64 (IntKind.i64.wrap ((↑i : Int) + 1)), topV, topV, topV, topV, topV, topV, topV, topV, topV, topV, topV, topV, topV, topV, topV, topV, topV, topV, topV, topV], [some ⟨.view, .ints (flat ps)⟩, some ⟨.view, .ints (flat ps)⟩]⟩)))))) (.leaf (.exit 0) ⟨[topV, topV, topV, topV, topV, topV, topV, topV, topV, topV, topV, topV, topV, topV, topV, topV, topV, topV, topV, topV, topV, topV, topV, topV, topV, topV], [some ⟨.view, .ints (flat ps)⟩, some ⟨.view, .ints (flat ps)⟩]⟩) := by kernel_rfl
set_option maxRecDepth 100000 in
theorem nl_eqQ : loopsOf c_eqQ = [] := by kernel_rfl
def inv_eqQ (ps : List Pt) : Nat → Prop := fun i => i ≤ ps.length
def me_eqQ (ps : List Pt) : Nat → Nat := fun i => ps.length - i
/-- A round of this loop. -/
def Round_eqQ (ps : List Pt) : Prop := ∀ xx : Nat, inv_eqQ ps xx → (bodyL Try.prog EM 30 12 noL 1 c_eqQ k_eqQ 2 (s_eqQ ps xx)).ok (RoundEnd 2 (s_eqQ ps) (inv_eqQ ps) (me_eqQ ps) re_eqQ (rs_eqQ ps) xx) (fun _ _ => False)
def e_eqQ (s : St) (k : Ex → St → Tree) : Option Tree := match Nat.beq s.tmps.length 26, pickL s.tmps [0, 1, 5], s.mem with
  | true, [.slice (some ⟨0, 0, none⟩) n _, .slice (some ⟨1, 0, none⟩) m _, .int .i64 i], [some ⟨.view, .ints xs⟩, some ⟨.view, .ints ys⟩] => some (needs [i = 0, m = n, ys = xs, xs.length = n * 2, n ≤ 1000000000] (k (.exit 0) ⟨[topV, topV, topV, topV, topV, topV, topV, topV, topV, topV, topV, topV, topV, topV, topV, topV, topV, topV, topV, topV, topV, topV, topV, topV, topV, topV], [some ⟨.view, .ints xs⟩, some ⟨.view, .ints xs⟩]⟩))
  | _, _, _ => none
set_option maxRecDepth 100000 in
theorem round_eqQ (ps : List Pt) (h : ps.length ≤ 1000000000) : Round_eqQ ps := by
  intro i h1
  have h1 : i ≤ ps.length := h1
  rw [tr_eqQ]
  simp only [brT_ok, Tree.ok, decide_eq_true_eq, decide_eq_false_iff_not, Int.toNat_natCast, Nat.zero_add, flat_length, flat_get0, flat_get1, Bool.not_eq_true', Bool.not_eq_false', beq_iff_eq, beq_eq_false_iff_ne, negT_, negF_, Bool.and_true, Bool.and_eq_true, Bool.and_eq_false_iff, beq_self_eq_true, Bool.and_self, Bool.not_true, Bool.false_eq_true]
  refine ⟨fun hlt => ?_, fun hge => ?_⟩
  · rw [wsucc (n := ps.length) (by omega) h]
    refine ⟨by omega, by omega, by omega, by omega, fun hc => hc.elim, fun _ => ⟨i + 1, [], ?_, ?_, rfl, rfl, ?_⟩⟩
    · show i + 1 ≤ ps.length; omega
    · show ps.length - (i + 1) < ps.length - i; omega
    · repeat' (first | exact True.intro | exact rfl | exact fun _ => rfl | refine And.intro ?_ ?_)
  · refine ⟨rfl, [], ?_⟩
    repeat' (first | exact True.intro | exact rfl | exact fun _ => rfl | refine And.intro ?_ ?_)
set_option maxRecDepth 100000 in
theorem lg_eqQ : LoopE Try.prog e_eqQ c_eqQ := by
  intro s k t F H hlt ht
  unfold e_eqQ at hlt
  split at hlt
  rotate_left
  · cases hlt
  rename_i hlen hpick hmem
  obtain ⟨tmps, mem⟩ := s
  simp only at hlen hpick hmem
  subst hmem
  obtain rfl := Option.some.inj hlt
  obtain ⟨⟨rfl, rfl, rfl, h1, h2, _⟩, ht2⟩ := needs_ok ht
  clear ht hlt
  obtain ⟨ps, rfl, rfl⟩ := even_flat h1
  refine ⟨_, _, ht2, loop_run mixed EM_ok (s_eqQ _) (inv_eqQ _) (me_eqQ _) re_eqQ (rs_eqQ _) k_eqQ (fun _ => rfl) (noLoops nl_eqQ) (round_eqQ _ h2) (x := 0) (Nat.zero_le _) (π := []) rfl ?_⟩
  refine ⟨rfl, rfl, ?_, wvs_spread' [0, 1, 5] hlen rfl ?_⟩
  · repeat' (first | exact True.intro | exact rfl | exact wv_top _ _ | exact fun _ => rfl | assumption | exact Eq.symm (by assumption) | exact vI0 rfl | refine And.intro ?_ ?_)
  · rw [hpick]
    repeat' (first | exact True.intro | exact rfl | exact wv_top _ _ | exact fun _ => rfl | assumption | exact Eq.symm (by assumption) | exact vI0 rfl | refine And.intro ?_ ?_)
end Go.Proofs.Ytbfoheblcoakiaa
namespace Go.Proofs.Ytbfoheblcoakiaa
set_option linter.all false
open Go.RowKit
theorem Lr_eqQ {fn : Func} (hf : Try.prog.funcs[16]? = some fn) : LoopsGood Try.prog (lt1 e_eqQ) 0 (codeOf fn) := by
  obtain rfl := fn_is Try.func16 hf
  exact lt1_good lg_eqQ
def LEp : FuncId → LT := fun f => match f with
  | 16 => lt1 e_eqQ
  | _ => noL
def EEp : Env := mkE B0 (fun _ _ => none) LEp
theorem EEp_ok : EnvOk Try.prog EEp := mkEOk B0_ok (fun _ _ _ _ _ h => (by cases h)) (by
  intro f fn hf
  unfold LEp
  split
  all_goals first | with_reducible exact Lr_eqQ hf | exact noL_good)
set_option maxRecDepth 100000 in
theorem tr_eqPF (n m : Nat) (xs ys : List Int) : bodyV Try.prog EEp 30 12 16 [.row n (.ints xs), .row m (.ints ys)] = brT (!(↑n : Int) == (↑m : Int)) (.fin (.bool (false)) []) (.need ((0 : Int) = (0 : Int)) (.need (m = n) (.need (ys = xs) (.need (xs.length = n * (2 : Nat)) (.need (n ≤ (1000000000 : Nat)) (.fin (.bool (true)) [])))))) := by kernel_rfl
theorem res_eqP (n : Nat) (xs : List Int) (h : xs.length = n * 2) (hn : n ≤ 1000000000) : Res Try.prog 16 [.row n (.ints xs), .row n (.ints xs)] (.bool true) := by
  refine bodyV_res mixed EEp_ok (m := 30) (n := 12) rfl ?_
  rw [tr_eqPF]
  simp [brT_ok, Tree.ok, h, hn]
def pEqP : List DArg → Option (Value × List Prop)
  | [.row n (.ints xs), .row m (.ints ys)] => some (.bool true, [n = m, xs = ys, xs.length = n * 2, n ≤ 1000000000])
  | _ => none
theorem pEqP_ok {ds : List DArg} {v : Value} {C : List Prop} (h : pEqP ds = some (v, C)) (hC : AllP C) : Res Try.prog 16 ds v := by
  unfold pEqP at h
  split at h
  · obtain ⟨rfl, rfl⟩ : _ ∧ _ := by simpa using h
    obtain ⟨rfl, rfl, h1, h2, _⟩ := hC
    exact res_eqP _ _ h1 h2
  · cases h
def TEp : Tab := fun f ds => match f with
  | 16 => pEqP ds
  | f => TMh f ds
theorem TEp_ok : TabOk Try.prog TEp := by
  intro f ds v C h hC
  unfold TEp at h
  (try split at h)
  all_goals first | with_reducible exact pEqP_ok h hC | exact TMh_ok _ _ _ _ h hC
end Go.Proofs.Ytbfoheblcoakiaa
namespace Go.Proofs.Ytbfoheblcoakiaa
set_option linter.all false
open Go.RowKit
def T2ms : TabR2 := fun ds => match ds with
  | [.row n (.bytes bs)] => some ([.slice (some ⟨0, 0, none⟩) (apsL bs (rdL n) 0 5).length (apsL bs (rdL n) 0 5).length, .slice (some ⟨1, 0, none⟩) (dmQ bs (rdL n)).length (dmQ bs (rdL n)).length], ⟨.row 32 2, .ints (flat (apsL bs (rdL n) 0 5))⟩, ⟨.row 32 2, .ints (flat (dmQ bs (rdL n)))⟩, [Bytes bs, n ≤ bs.length])
  | _ => none
theorem T2ms_ok : TabR2Ok Try.prog 13 T2ms := by
  intro ds vs b0 b1 C h hC
  unfold T2ms at h
  split at h
  · obtain ⟨rfl, rfl, rfl, rfl⟩ : _ ∧ _ ∧ _ ∧ _ := by simpa using h
    exact resR_dMs _ _ hC.1 hC.2.1
  · cases h
def JDm : TabJ := consR 13 (r2G T2ms) noJ
theorem JDm_ok : GSound Try.prog JDm.g := consR2_ok (failG_sound _) (entersB_res (by kernel_rfl)).1 T2ms_ok
theorem mkwV_yes {us vs : List Pt} (h : mkwB us vs = true) : mkwV us vs = mkwH us vs ∧ allV (mkwH us vs) = true ∧ okL us = true ∧ okL vs = true ∧ 0 < us.length ∧ 0 < vs.length := by
  unfold mkwV
  have h' := h
  unfold mkwB at h'
  simp only [Bool.and_eq_true, decide_eq_true_eq] at h'
  rw [h]
  exact ⟨rfl, h'.2, h'.1.1.1.1, h'.1.1.1.2, h'.1.1.2, h'.1.2⟩
end Go.Proofs.Ytbfoheblcoakiaa
namespace Go.Proofs.Ytbfoheblcoakiaa
set_option linter.all false
open Go.RowKit
/-- The point at j is not near. -/
def nrQ (ps : List Pt) (j : Nat) : Bool := decide ((ps.getD j (0, 0)).1 ≤ 900) && decide (-900 ≤ (ps.getD j (0, 0)).1) && decide ((ps.getD j (0, 0)).2 ≤ 900) && decide (-900 ≤ (ps.getD j (0, 0)).2)
noncomputable def c_near : Code := ((loopsOf (codeOf Try.f19))[0]?).getD .skip
def k_near : Ex → List Nat := keeps [0, 3] [(0, [])] [2]
def s_near (ps : List Pt) : Nat → St := fun i => ⟨(.slice (some ⟨0, 0, none⟩) ps.length ps.length :: topV :: topV :: .int .i64 i :: topV :: topV :: topV :: topV :: topV :: topV :: topV :: topV :: topV :: topV :: topV :: topV :: topV :: topV :: topV :: topV :: topV :: topV :: topV :: topV :: topV :: topV :: topV :: topV :: topV :: topV :: topV :: topV :: topV :: topV :: topV :: topV :: topV :: topV :: topV :: topV :: []), [some ⟨.view, .ints (flat ps)⟩]⟩
def re_near (ps : List Pt) : Nat → Ex := fun i => bif allQ (nrQ ps) i (ps.length - i) then .exit 0 else .ret
def rs_near (ps : List Pt) : Nat → St := fun i => bif allQ (nrQ ps) i (ps.length - i) then ⟨(topV :: topV :: topV :: topV :: topV :: topV :: topV :: topV :: topV :: topV :: topV :: topV :: topV :: topV :: topV :: topV :: topV :: topV :: topV :: topV :: topV :: topV :: topV :: topV :: topV :: topV :: topV :: topV :: topV :: topV :: topV :: topV :: topV :: topV :: topV :: topV :: topV :: topV :: topV :: topV :: []), [some ⟨.view, .ints (flat ps)⟩]⟩ else ⟨(topV :: topV :: .bool false :: topV :: topV :: topV :: topV :: topV :: topV :: topV :: topV :: topV :: topV :: topV :: topV :: topV :: topV :: topV :: topV :: topV :: topV :: topV :: topV :: topV :: topV :: topV :: topV :: topV :: topV :: topV :: topV :: topV :: topV :: topV :: topV :: topV :: topV :: topV :: topV :: topV :: []), [some ⟨.view, .ints (flat ps)⟩]⟩
set_option maxRecDepth 100000 in
theorem tr_near (ps : List Pt) (i : Nat) : bodyL Try.prog EM 30 12 noL 1 c_near k_near 1 (s_near ps i) = brT (decide ((↑i : Int) < (↑ps.length : Int))) (.need ((0 : Int) ≤ (↑i : Int) ∧ (↑i : Int) < (↑ps.length : Int)) (.need ((0 : Nat) + (↑i : Int).toNat * (2 : Nat) + (0 : Nat) < (flat ps).length) (brT (decide (900 < (flat ps).getD (0 + (↑i : Int).toNat * 2 + 0) 0)) (.leaf .ret ⟨(topV :: topV :: .bool (false) :: topV :: topV :: topV :: topV :: topV :: topV :: topV :: topV :: topV :: topV :: topV :: topV :: topV :: topV :: topV :: topV :: topV :: topV :: topV :: topV :: topV :: topV :: topV :: topV :: topV :: topV :: topV :: topV :: topV :: topV :: topV :: topV :: topV :: topV :: topV :: topV :: topV :: []), [some ⟨.view, .ints (flat ps)⟩]⟩) (.need ((0 : Int) ≤ (↑i : Int) ∧ (↑i : Int) < (↑ps.length : Int)) (.need ((0 : Nat) + (↑i : Int).toNat * (2 : Nat) + (0 : Nat) < (flat ps).length) (brT (decide ((flat ps).getD (0 + (↑i : Int).toNat * 2 + 0) 0 < -900)) (.leaf .ret ⟨(topV :: topV :: .bool (false) :: topV :: topV :: topV :: topV :: topV :: topV :: topV :: topV :: topV :: topV :: topV :: topV :: topV :: topV :: topV :: topV :: topV :: topV :: topV :: topV :: topV :: topV :: topV :: topV :: topV :: topV :: topV :: topV :: topV :: topV :: topV :: topV :: topV :: topV :: topV :: topV :: topV :: []), [some ⟨.view, .ints (flat ps)⟩]⟩) (.need ((0 : Int) ≤ (↑i : Int) ∧ (↑i : Int) < (↑ps.length : Int)) (.need ((0 : Nat) + (↑i : Int).toNat * (2 : Nat) + (1 : Nat) < (flat ps).length) (brT (decide (900 < (flat ps).getD (0 + (↑i : Int).toNat * 2 + 1) 0)) (.leaf .ret ⟨(topV :: topV :: .bool (false) :: topV :: topV :: topV :: topV :: topV :: topV :: topV :: topV :: topV :: topV :: topV :: topV :: topV :: topV :: topV :: topV :: topV :: topV :: topV :: topV :: topV :: topV :: topV :: topV :: topV :: topV :: topV :: topV :: topV :: topV :: topV :: topV :: topV :: topV :: topV :: topV :: topV :: []), [some ⟨.view, .ints (flat ps)⟩]⟩) (.need ((0 : Int) ≤ (↑i : Int) ∧ (↑i : Int) < (↑ps.length : Int)) (.need ((0 : Nat) + (↑i : Int).toNat * (2 : Nat) + (1 : Nat) < (flat ps).length) (brT (decide ((flat ps).getD (0 + (↑i : Int).toNat * 2 + 1) 0 < -900)) (.leaf .ret ⟨(topV :: topV :: .bool (false) :: topV :: topV :: topV :: topV :: topV :: topV :: topV :: topV :: topV :: topV :: topV :: topV :: topV :: topV :: topV :: topV :: topV :: topV :: topV :: topV :: topV :: topV :: topV :: topV :: topV :: topV :: topV :: topV :: topV :: topV :: topV :: topV :: topV :: topV :: topV :: topV :: topV :: []), [some ⟨.view, .ints (flat ps)⟩]⟩) (.leaf .normal ⟨(.slice (some ⟨0, 0, none⟩) (ps.length) (ps.length) :: topV :: topV :: .int .i64 (IntKind.i64.wrap ((↑i : Int) + 1)) :: topV :: topV :: topV :: topV :: topV :: topV :: topV :: topV :: topV :: topV :: topV :: topV :: topV :: topV :: topV :: topV :: topV :: topV :: topV :: topV :: topV :: topV :: topV :: topV :: topV :: topV :: topV :: topV :: topV :: topV :: topV :: topV :: topV :: topV :: topV :: topV :: []), [some ⟨.view, .ints (flat ps)⟩]⟩))))))))))))) (.leaf (.exit 0) ⟨(topV :: topV :: topV :: topV :: topV :: topV :: topV :: topV :: topV :: topV :: topV :: topV :: topV :: topV :: topV :: topV :: topV :: topV :: topV :: topV :: topV :: topV :: topV :: topV :: topV :: topV :: topV :: topV :: topV :: topV :: topV :: topV :: topV :: topV :: topV :: topV :: topV :: topV :: topV :: topV :: []), [some ⟨.view, .ints (flat ps)⟩]⟩) := by kernel_rfl
set_option maxRecDepth 100000 in
theorem nl_near : loopsOf c_near = [] := by kernel_rfl
def inv_near (ps : List Pt) : Nat → Prop := fun i => i ≤ ps.length
def me_near (ps : List Pt) : Nat → Nat := fun i => ps.length - i
/-- A round of this loop. -/
def Round_near (ps : List Pt) : Prop := ∀ xx : Nat, inv_near ps xx → (bodyL Try.prog EM 30 12 noL 1 c_near k_near 1 (s_near ps xx)).ok (RoundEnd 1 (s_near ps) (inv_near ps) (me_near ps) (re_near ps) (rs_near ps) xx) (fun _ _ => False)
def e_near (s : St) (k : Ex → St → Tree) : Option Tree := match Nat.beq s.tmps.length 40, pickL s.tmps [0, 3], s.mem with
  | true, [.slice (some ⟨0, 0, none⟩) n _, .int .i64 i], [some ⟨.view, .ints xs⟩] => some (needs [i = 0, xs.length = n * 2, n ≤ 1000000000] (brT (allQ (nrQ (ptsA n xs)) 0 n) (k (.exit 0) ⟨(topV :: topV :: topV :: topV :: topV :: topV :: topV :: topV :: topV :: topV :: topV :: topV :: topV :: topV :: topV :: topV :: topV :: topV :: topV :: topV :: topV :: topV :: topV :: topV :: topV :: topV :: topV :: topV :: topV :: topV :: topV :: topV :: topV :: topV :: topV :: topV :: topV :: topV :: topV :: topV :: []), [some ⟨.view, .ints xs⟩]⟩) (k .ret ⟨(topV :: topV :: .bool false :: topV :: topV :: topV :: topV :: topV :: topV :: topV :: topV :: topV :: topV :: topV :: topV :: topV :: topV :: topV :: topV :: topV :: topV :: topV :: topV :: topV :: topV :: topV :: topV :: topV :: topV :: topV :: topV :: topV :: topV :: topV :: topV :: topV :: topV :: topV :: topV :: topV :: []), [some ⟨.view, .ints xs⟩]⟩)))
  | _, _, _ => none
set_option maxRecDepth 100000 in
theorem round_near (ps : List Pt) (h : ps.length ≤ 1000000000) : Round_near ps := by
  intro i h1
  have h1 : i ≤ ps.length := h1
  rw [tr_near]
  have w9 : IntKind.i64.wrap (0 - 900) = -900 := by decide
  simp only [brT_ok, Tree.ok, decide_eq_true_eq, decide_eq_false_iff_not, Int.toNat_natCast, Nat.zero_add, Nat.add_zero, flat_length, flat_get0, flat_get1, w9]
  refine ⟨fun hlt => ⟨by omega, by omega, fun g1 => ?_, fun g1 => ⟨by omega, by omega, fun g2 => ?_, fun g2 => ⟨by omega, by omega, fun g3 => ?_, fun g3 => ⟨by omega, by omega, fun g4 => ?_, fun g4 => ?_⟩⟩⟩⟩, fun hge => ?_⟩
  · have e : allQ (nrQ ps) i (ps.length - i) = false := by
      rw [allQ_step (by omega)]
      have : nrQ ps i = false := by
        rw [Bool.eq_false_iff]
        intro hh
        simp only [nrQ, Bool.and_eq_true, decide_eq_true_eq] at hh
        omega
      rw [this, Bool.false_and]
    refine ⟨by simp only [re_near, e, cond_false], [], ?_⟩
    simp only [rs_near, e, cond_false]
    repeat' (first | exact True.intro | exact rfl | exact fun _ => rfl | refine And.intro ?_ ?_)
  · have e : allQ (nrQ ps) i (ps.length - i) = false := by
      rw [allQ_step (by omega)]
      have : nrQ ps i = false := by
        rw [Bool.eq_false_iff]
        intro hh
        simp only [nrQ, Bool.and_eq_true, decide_eq_true_eq] at hh
        omega
      rw [this, Bool.false_and]
    refine ⟨by simp only [re_near, e, cond_false], [], ?_⟩
    simp only [rs_near, e, cond_false]
    repeat' (first | exact True.intro | exact rfl | exact fun _ => rfl | refine And.intro ?_ ?_)
  · have e : allQ (nrQ ps) i (ps.length - i) = false := by
      rw [allQ_step (by omega)]
      have : nrQ ps i = false := by
        rw [Bool.eq_false_iff]
        intro hh
        simp only [nrQ, Bool.and_eq_true, decide_eq_true_eq] at hh
        omega
      rw [this, Bool.false_and]
    refine ⟨by simp only [re_near, e, cond_false], [], ?_⟩
    simp only [rs_near, e, cond_false]
    repeat' (first | exact True.intro | exact rfl | exact fun _ => rfl | refine And.intro ?_ ?_)
  · have e : allQ (nrQ ps) i (ps.length - i) = false := by
      rw [allQ_step (by omega)]
      have : nrQ ps i = false := by
        rw [Bool.eq_false_iff]
        intro hh
        simp only [nrQ, Bool.and_eq_true, decide_eq_true_eq] at hh
        omega
      rw [this, Bool.false_and]
    refine ⟨by simp only [re_near, e, cond_false], [], ?_⟩
    simp only [rs_near, e, cond_false]
    repeat' (first | exact True.intro | exact rfl | exact fun _ => rfl | refine And.intro ?_ ?_)
  · have e : allQ (nrQ ps) i (ps.length - i) = allQ (nrQ ps) (i + 1) (ps.length - (i + 1)) := by
      rw [allQ_step (by omega)]
      have : nrQ ps i = true := by
        simp only [nrQ, Bool.and_eq_true, decide_eq_true_eq]
        omega
      rw [this, Bool.true_and]
    rw [wsucc (n := ps.length) (by omega) h]
    refine ⟨i + 1, [], ?_, ?_, by simp only [re_near, e], by simp only [rs_near, e], ?_⟩
    · show i + 1 ≤ ps.length; omega
    · show ps.length - (i + 1) < ps.length - i; omega
    · repeat' (first | exact True.intro | exact rfl | exact fun _ => rfl | refine And.intro ?_ ?_)
  · have e : allQ (nrQ ps) i (ps.length - i) = true := allQ_end (by omega)
    refine ⟨by simp only [re_near, e, cond_true], [], ?_⟩
    simp only [rs_near, e, cond_true]
    repeat' (first | exact True.intro | exact rfl | exact fun _ => rfl | refine And.intro ?_ ?_)
set_option maxRecDepth 100000 in
theorem lg_near : LoopE Try.prog e_near c_near := by
  intro s k t F H hlt ht
  unfold e_near at hlt
  split at hlt
  rotate_left
  · cases hlt
  rename_i hlen hpick hmem
  obtain ⟨tmps, mem⟩ := s
  simp only at hlen hpick hmem
  subst hmem
  obtain rfl := Option.some.inj hlt
  obtain ⟨⟨rfl, h1, h2, _⟩, ht2⟩ := needs_ok ht
  clear ht hlt
  obtain ⟨ps, rfl, rfl⟩ := even_flat h1
  rw [ptsA_flat] at ht2
  refine ⟨_, _, pick2k ht2, loop_run mixed EM_ok (s_near ps) (inv_near ps) (me_near ps) (re_near ps) (rs_near ps) k_near (fun _ => rfl) (noLoops nl_near) (round_near ps h2) (x := 0) (Nat.zero_le _) (π := []) rfl ?_⟩
  refine ⟨rfl, rfl, ?_, wvs_spread' [0, 3] hlen rfl ?_⟩
  · repeat' (first | exact True.intro | exact rfl | exact wv_top _ _ | exact fun _ => rfl | assumption | exact Eq.symm (by assumption) | exact vI0 rfl | refine And.intro ?_ ?_)
  · rw [hpick]
    repeat' (first | exact True.intro | exact rfl | exact wv_top _ _ | exact fun _ => rfl | assumption | exact Eq.symm (by assumption) | exact vI0 rfl | refine And.intro ?_ ?_)
theorem Lr_near {fn : Func} (hf : Try.prog.funcs[19]? = some fn) : LoopsGood Try.prog (lt1 e_near) 0 (codeOf fn) := by
  obtain rfl := fn_is Try.func19 hf
  exact lt1_good lg_near
def LNr : FuncId → LT := fun f => match f with
  | 19 => lt1 e_near
  | _ => noL
def ENr : Env := mkE B0 (fun _ _ => none) LNr
theorem ENr_ok : EnvOk Try.prog ENr := mkEOk B0_ok (fun _ _ _ _ _ h => (by cases h)) (by
  intro f fn hf
  unfold LNr
  split
  all_goals first | with_reducible exact Lr_near hf | exact noL_good)
set_option maxRecDepth 100000 in
theorem tr_nearF (ps : List Pt) : bodyV Try.prog ENr 30 12 19 [.row ps.length (.ints (flat ps))] = .need ((0 : Int) = (0 : Int)) (.need ((flat ps).length = ps.length * (2 : Nat)) (.need (ps.length ≤ (1000000000 : Nat)) (brT (allQ (nrQ (ptsA ps.length (flat ps))) 0 ps.length) (.fin (.bool (true)) []) (.fin (.bool (false)) [])))) := by kernel_rfl
theorem res_near (ps : List Pt) (h : Big ps) : Res Try.prog 19 [.row ps.length (.ints (flat ps))] (.bool (allQ (nrQ ps) 0 ps.length)) := by
  refine bodyV_res mixed ENr_ok (m := 30) (n := 12) rfl ?_
  rw [tr_nearF]
  unfold Big at h
  simp only [ptsA_flat]
  rcases hq : allQ (nrQ ps) 0 ps.length with _ | _
  all_goals exact ⟨trivial, flat_length ps, h, rfl⟩
def pNr : List DArg → Option (Value × List Prop)
  | [.row m (.ints xs)] => some (.bool (allQ (nrQ (ptsA m xs)) 0 m), [m * 2 ≤ xs.length, m ≤ 1000000000])
  | _ => none
theorem pNr_ok {ds : List DArg} {v : Value} {C : List Prop} (h : pNr ds = some (v, C)) (hC : AllP C) : Res Try.prog 19 ds v := by
  unfold pNr at h
  split at h
  · rename_i m xs
    obtain ⟨rfl, rfl⟩ : _ ∧ _ := by simpa using h
    obtain ⟨_, h2⟩ := ptsA_spec hC.1
    have h0 := res_near (ptsA m xs) (by unfold Big; rw [h2]; exact hC.2.1)
    have h7 := res_pts1 (pre := []) (post := []) hC.1 h0
    rw [h2] at h7
    exact h7
  · cases h
/-- Moved points, as numbers of the machine. -/
def mvW (dx dy : Int) (p : Pt) : Pt := (IntKind.i64.wrap (p.1 + dx), IntKind.i64.wrap (p.2 + dy))
def mvWL (dx dy : Int) (ps : List Pt) : List Pt := ps.map (mvW dx dy)
theorem mvWL_len (dx dy : Int) (ps : List Pt) : (mvWL dx dy ps).length = ps.length := by unfold mvWL; simp
theorem mvWL_step (dx dy : Int) {ps : List Pt} {i : Nat} (h : i < ps.length) : mvWL dx dy (ps.take i) ++ [mvW dx dy (ps.getD i (0, 0))] = mvWL dx dy (ps.take (i + 1)) := by
  rw [← List.take_append_getElem h]
  unfold mvWL
  rw [List.map_append, show ps.getD i (0, 0) = ps[i] by simp [h]]
  rfl
noncomputable def c_mvd : Code := ((loopsOf (codeOf Try.f20))[0]?).getD .skip
def k_mvd : Ex → List Nat := keeps [0, 1, 2, 7, 8] [(0, [7])] [6]
def s_mvd (ps : List Pt) (dx dy : Int) : Nat × (List Pt) → St := fun (i, o) => ⟨(.slice (some ⟨0, 0, none⟩) ps.length ps.length :: .int .i64 dx :: .int .i64 dy :: topV :: topV :: topV :: topV :: .slice (some ⟨4, 0, none⟩) o.length o.length :: .int .i64 i :: topV :: topV :: topV :: topV :: topV :: topV :: topV :: topV :: topV :: topV :: topV :: topV :: topV :: topV :: topV :: topV :: topV :: topV :: topV :: topV :: topV :: topV :: topV :: topV :: topV :: topV :: []), [some ⟨.view, .ints (flat ps)⟩, none, none, some ⟨.dead, .vals []⟩, some ⟨.row 32 2, .ints (flat o)⟩]⟩
def re_mvd : Nat × (List Pt) → Ex := fun _ => .exit 0
def rs_mvd (ps : List Pt) (dx dy : Int) : Nat × (List Pt) → St := fun (i, o) => ⟨(topV :: topV :: topV :: topV :: topV :: topV :: topV :: .slice (some ⟨4, 0, none⟩) (mvWL dx dy ps).length (mvWL dx dy ps).length :: topV :: topV :: topV :: topV :: topV :: topV :: topV :: topV :: topV :: topV :: topV :: topV :: topV :: topV :: topV :: topV :: topV :: topV :: topV :: topV :: topV :: topV :: topV :: topV :: topV :: topV :: topV :: []), [some ⟨.view, .ints (flat ps)⟩, none, none, some ⟨.dead, .vals []⟩, some ⟨.row 32 2, .ints (flat (mvWL dx dy ps))⟩]⟩
set_option maxRecDepth 100000 in
theorem tr_mvd (ps : List Pt) (dx dy : Int) (i : Nat) (o : List Pt) : bodyL Try.prog ERv 30 12 noL 1 c_mvd k_mvd 16 (s_mvd ps dx dy (i, o)) = brT (decide ((↑i : Int) < (↑ps.length : Int))) (.need ((0 : Int) ≤ (↑i : Int) ∧ (↑i : Int) < (↑ps.length : Int)) (.need ((0 : Nat) + (↑i : Int).toNat * (2 : Nat) + (0 : Nat) < (flat ps).length) (.need ((0 : Int) ≤ (↑i : Int) ∧ (↑i : Int) < (↑ps.length : Int)) (.need ((0 : Nat) + (↑i : Int).toNat * (2 : Nat) + (1 : Nat) < (flat ps).length) (.need ((o.length + (1 : Nat)) * (16 : Nat) ≤ (140737488355328 : Nat) ∧ o.length + (1 : Nat) ≤ (1000000 : Nat)) (.need ((0 : Nat) + o.length * (2 : Nat) ≤ (flat o).length) (.leaf .normal ⟨(.slice (some ⟨0, 0, none⟩) (ps.length) (ps.length) :: .int .i64 (dx) :: .int .i64 (dy) :: topV :: topV :: topV :: topV :: .slice (some ⟨6, 0, none⟩) (o.length + 1) (o.length + 1) :: .int .i64 (IntKind.i64.wrap ((↑i : Int) + 1)) :: topV :: topV :: topV :: topV :: topV :: topV :: topV :: topV :: topV :: topV :: topV :: topV :: topV :: topV :: topV :: topV :: topV :: topV :: topV :: topV :: topV :: topV :: topV :: topV :: topV :: topV :: []), [some ⟨.view, .ints (flat ps)⟩, none, none, some deadB, some deadB, some ⟨.row 32 2, .vals [.int .i64 (IntKind.i64.wrap ((flat ps).getD (0 + (↑i : Int).toNat * 2 + 0) 0 + dx)), .int .i64 (IntKind.i64.wrap ((flat ps).getD (0 + (↑i : Int).toNat * 2 + 1) 0 + dy))]⟩, some ⟨.row 32 2, .ints (List.take (o.length * 2) (List.drop 0 (flat o)) ++ [IntKind.i64.wrap ((flat ps).getD (0 + (↑i : Int).toNat * 2 + 0) 0 + dx), IntKind.i64.wrap ((flat ps).getD (0 + (↑i : Int).toNat * 2 + 1) 0 + dy)])⟩]⟩))))))) (.leaf (.exit 0) ⟨(topV :: topV :: topV :: topV :: topV :: topV :: topV :: .slice (some ⟨4, 0, none⟩) (o.length) (o.length) :: topV :: topV :: topV :: topV :: topV :: topV :: topV :: topV :: topV :: topV :: topV :: topV :: topV :: topV :: topV :: topV :: topV :: topV :: topV :: topV :: topV :: topV :: topV :: topV :: topV :: topV :: topV :: []), [some ⟨.view, .ints (flat ps)⟩, none, none, some deadB, some ⟨.row 32 2, .ints (flat o)⟩]⟩) := by kernel_rfl
set_option maxRecDepth 100000 in
theorem nl_mvd : loopsOf c_mvd = [] := by kernel_rfl
def inv_mvd (ps : List Pt) (dx dy : Int) : Nat × (List Pt) → Prop := fun (i, o) => i ≤ ps.length ∧ o = mvWL dx dy (ps.take i)
def me_mvd (ps : List Pt) (dx dy : Int) : Nat × (List Pt) → Nat := fun (i, o) => ps.length - i
/-- A round of this loop. -/
def Round_mvd (ps : List Pt) (dx dy : Int) : Prop := ∀ xx : Nat × (List Pt), inv_mvd ps dx dy xx → (bodyL Try.prog ERv 30 12 noL 1 c_mvd k_mvd 16 (s_mvd ps dx dy xx)).ok (RoundEnd 4 (s_mvd ps dx dy) (inv_mvd ps dx dy) (me_mvd ps dx dy) re_mvd (rs_mvd ps dx dy) xx) (fun _ _ => False)
def e_mvd (s : St) (k : Ex → St → Tree) : Option Tree := match Nat.beq s.tmps.length 35, pickL s.tmps [0, 1, 2, 7, 8], s.mem with
  | true, [.slice (some ⟨0, 0, none⟩) n _, .int .i64 dx, .int .i64 dy, .slice (some ⟨3, 0, none⟩) z _, .int .i64 i0], [some ⟨.view, .ints xs⟩, none, none, some ⟨.row 32 2, .vals []⟩] => some (needs [i0 = 0, z = 0, xs.length = n * 2, n ≤ 100000] (k (.exit 0) ⟨(topV :: topV :: topV :: topV :: topV :: topV :: topV :: .slice (some ⟨4, 0, none⟩) (mvWL dx dy (ptsA n xs)).length (mvWL dx dy (ptsA n xs)).length :: topV :: topV :: topV :: topV :: topV :: topV :: topV :: topV :: topV :: topV :: topV :: topV :: topV :: topV :: topV :: topV :: topV :: topV :: topV :: topV :: topV :: topV :: topV :: topV :: topV :: topV :: topV :: []), [some ⟨.view, .ints xs⟩, none, none, some ⟨.dead, .vals []⟩, some ⟨.row 32 2, .ints (flat (mvWL dx dy (ptsA n xs)))⟩]⟩))
  | _, _, _ => none
set_option maxRecDepth 100000 in
theorem round_mvd (ps : List Pt) (dx dy : Int) (h : ps.length ≤ 100000) : Round_mvd ps dx dy := by
  rintro ⟨i, o⟩ ⟨h1, rfl⟩
  rw [tr_mvd]
  have hl : (mvWL dx dy (ps.take i)).length = i := by rw [mvWL_len]; simp; omega
  refine brT_ok.2 ⟨fun hlt => ?_, fun hge => ?_⟩
  · have hlt := of_decide_eq_true hlt
    have hi : i < ps.length := by omega
    have hs := mvWL_step dx dy hi
    have fs : flat (mvWL dx dy (ps.take i)) ++ [IntKind.i64.wrap ((ps.getD i (0, 0)).1 + dx), IntKind.i64.wrap ((ps.getD i (0, 0)).2 + dy)] = flat (mvWL dx dy (ps.take (i + 1))) := by
      rw [flat_snoc, ← hs]
      rfl
    simp only [Int.toNat_natCast, Nat.zero_add, Nat.add_zero, flat_get0, flat_get1, flat_length, flatR, fs, wsucc (n := ps.length) hi (by omega)]
    refine ⟨by omega, by omega, by omega, by omega, ⟨by omega, by omega⟩, by omega, (i + 1, mvWL dx dy (ps.take (i + 1))), [some 6], ⟨by omega, rfl⟩, ?_, rfl, by simp only [rs_mvd], ?_⟩
    · show ps.length - (i + 1) < ps.length - i; omega
    · have e : (mvWL dx dy (ps.take i)).length + 1 = (mvWL dx dy (ps.take (i + 1))).length := by rw [← hs]; simp
      rw [e]
      repeat' (first | exact True.intro | exact rfl | exact fun _ => rfl | (simp; done) | refine And.intro ?_ ?_)
  · have hge := of_decide_eq_false hge
    obtain rfl : i = ps.length := by omega
    refine ⟨rfl, [some 4], ?_⟩
    simp only [rs_mvd, List.take_length]
    repeat' (first | exact True.intro | exact rfl | exact fun _ => rfl | (simp; done) | refine And.intro ?_ ?_)
set_option maxRecDepth 100000 in
theorem lg_mvd : LoopE Try.prog e_mvd c_mvd := by
  intro s k t F H hlt ht
  unfold e_mvd at hlt
  split at hlt
  rotate_left
  · cases hlt
  rename_i hlen hpick hmem
  obtain ⟨tmps, mem⟩ := s
  simp only at hlen hpick hmem
  subst hmem
  obtain rfl := Option.some.inj hlt
  obtain ⟨⟨rfl, rfl, h1, h3, _⟩, ht2⟩ := needs_ok ht
  clear ht hlt
  obtain ⟨ps, rfl, rfl⟩ := even_flat h1
  rw [ptsA_flat] at ht2
  refine ⟨_, _, ht2, loop_run2 mixed ERv_ok (s_mvd ps _ _) (inv_mvd ps _ _) (me_mvd ps _ _) re_mvd (rs_mvd ps _ _) k_mvd (fun _ => rfl) (noLoops nl_mvd) (round_mvd ps _ _ h3) (x := (0, [])) ⟨Nat.zero_le _, rfl⟩ (π := [some 3]) rfl ?_⟩
  refine ⟨rfl, rfl, ?_, wvs_spread' [0, 1, 2, 7, 8] hlen rfl ?_⟩
  · repeat' (first | exact True.intro | exact rfl | exact wv_top _ _ | exact fun _ => rfl | assumption | exact Eq.symm (by assumption) | exact vI0 rfl | refine And.intro ?_ ?_)
  · rw [hpick]
    repeat' (first | exact True.intro | exact rfl | exact wv_top _ _ | exact fun _ => rfl | assumption | exact Eq.symm (by assumption) | exact vI0 rfl | refine And.intro ?_ ?_)
theorem Lr_mvd {fn : Func} (hf : Try.prog.funcs[20]? = some fn) : LoopsGood Try.prog (lt1 e_mvd) 0 (codeOf fn) := by
  obtain rfl := fn_is Try.func20 hf
  exact lt1_good lg_mvd
def LBk : FuncId → LT := fun f => match f with
  | 20 => lt1 e_mvd
  | _ => noL
def EBk : Env := mkE B0 (fun _ _ => none) LBk
theorem EBk_ok : EnvOk Try.prog EBk := mkEOk B0_ok (fun _ _ _ _ _ h => (by cases h)) (by
  intro f fn hf
  unfold LBk
  split
  all_goals first | with_reducible exact Lr_bkw hf | with_reducible exact Lr_mvd hf | exact noL_good)
set_option maxRecDepth 100000 in
theorem tr_mvF (ps : List Pt) (dx dy : Int) : bodyX Try.prog EBk 30 12 20 [.row ps.length (.ints (flat ps)), .v (.int .i64 dx), .v (.int .i64 dy)] = .need ((0 : Int) = (0 : Int)) (.need ((0 : Nat) = (0 : Nat)) (.need ((flat ps).length = ps.length * (2 : Nat)) (.need (ps.length ≤ (100000 : Nat)) (.fin (.slice (some ⟨4, 0, none⟩) ((mvWL dx dy (ptsA ps.length (flat ps))).length) ((mvWL dx dy (ptsA ps.length (flat ps))).length)) [some ⟨.view, .ints (flat ps)⟩, none, none, some deadB, some ⟨.row 32 2, .ints (flat (mvWL dx dy (ptsA ps.length (flat ps))))⟩])))) := by kernel_rfl
theorem resR_mvd {ps : List Pt} {dx dy : Int} (h : ps.length ≤ 100000) : ResR Try.prog 20 [.row ps.length (.ints (flat ps)), .v (.int .i64 dx), .v (.int .i64 dy)] (rowP (mvWL dx dy ps)) (blkP (mvWL dx dy ps)) := by
  refine bodyX_resR mixed EBk_ok (m := 30) (n := 12) rfl ?_
  rw [tr_mvF]
  simp only [ptsA_flat]
  exact ⟨trivial, trivial, flat_length ps, h, some 4, ⟨rfl, rfl, rfl⟩, rfl, rfl, rfl⟩
end Go.Proofs.Ytbfoheblcoakiaa
namespace Go.Proofs.Ytbfoheblcoakiaa
set_option linter.all false
open Go.RowKit
def TLp : Tab := fun f ds => match f with
  | 19 => pNr ds
  | f => TEp f ds
theorem TLp_ok : TabOk Try.prog TLp := by
  intro f ds v C h hC
  unfold TLp at h
  (try split at h)
  all_goals first | with_reducible exact pNr_ok h hC | exact TEp_ok _ _ _ _ h hC
def RLp : TabR := fun f ds => match f, ds with
  | 14, [.row m (.ints xs), .row n (.vals [.int .i64 x, .int .i64 y])] => some (rowBK (mkwB (ptsA m xs) [(x, y)]) (mkwV (ptsA m xs) [(x, y)]), ⟨.row 32 2, .ints (flat (mkwV (ptsA m xs) [(x, y)]))⟩, [m * 2 ≤ xs.length, n = 1, m ≤ 1000000000])
  | 20, [.row m (.ints xs), .v (.int .i64 dx), .v (.int .i64 dy)] => some (rowP (mvWL dx dy (ptsA m xs)), blkP (mvWL dx dy (ptsA m xs)), [xs.length = m * 2, m ≤ 100000])
  | f, ds => RMk f ds
theorem RLp_ok : TabROk Try.prog RLp := by
  intro f ds v b C h hC
  unfold RLp at h
  split at h
  · rename_i m xs n x y
    obtain ⟨rfl, rfl, rfl⟩ : _ ∧ _ ∧ _ := by simpa using h
    obtain ⟨h1, rfl, h3, _⟩ := hC
    obtain ⟨_, h2⟩ := ptsA_spec h1
    refine resR_row2 (xs := [x, y]) rfl ?_
    exact resR_two (m := 1) h1 (Nat.le_refl _) (resR_iMs _ [(x, y)] (by unfold Big; rw [h2]; exact h3) (by unfold Big; simp))
  · rename_i m xs dx dy
    obtain ⟨rfl, rfl, rfl⟩ : _ ∧ _ ∧ _ := by simpa using h
    obtain ⟨ps, rfl, rfl⟩ := even_flat hC.1
    rw [ptsA_flat]
    exact resR_mvd hC.2.1
  · exact RMk_ok _ _ _ _ _ h hC
def ELp : Env := ⟨TLp, RLp, fun _ => noL, JDm, fun _ => noR⟩
theorem ELp_ok : EnvOk Try.prog ELp := ⟨TLp_ok, RLp_ok, fun _ _ _ => noL_good, JDm_ok, fun _ _ _ => noR_good⟩
set_option maxRecDepth 100000 in
theorem tr_lMp (bs : List Int) : bodyP Try.prog ELp 30 12 5 [.row bs.length (.bytes bs)] = brT (decide (1048576 < (↑bs.length : Int))) (.fin (.bool (true)) []) (.need (Bytes (List.drop (0 : Nat) bs)) (.need (bs.length ≤ (List.drop (0 : Nat) bs).length) (.need ((apsL (List.drop (0 : Nat) bs) (rdL bs.length) (0 : Int) (5 : Int)).length * (2 : Nat) ≤ (List.drop (0 : Nat) (flat (apsL (List.drop (0 : Nat) bs) (rdL bs.length) (0 : Int) (5 : Int)))).length) (.need ((dmQ (List.drop (0 : Nat) bs) (rdL bs.length)).length * (2 : Nat) ≤ (List.drop (0 : Nat) (flat (dmQ (List.drop (0 : Nat) bs) (rdL bs.length)))).length) (.need ((apsL (List.drop (0 : Nat) bs) (rdL bs.length) (0 : Int) (5 : Int)).length ≤ (1000000000 : Nat)) (.need ((dmQ (List.drop (0 : Nat) bs) (rdL bs.length)).length ≤ (1000000000 : Nat)) (.need ((apsL (List.drop (0 : Nat) bs) (rdL bs.length) (0 : Int) (5 : Int)).length * (2 : Nat) ≤ (List.drop (0 : Nat) (flat (apsL (List.drop (0 : Nat) bs) (rdL bs.length) (0 : Int) (5 : Int)))).length) (.need ((dmQ (List.drop (0 : Nat) bs) (rdL bs.length)).length * (2 : Nat) ≤ (List.drop (0 : Nat) (flat (dmQ (List.drop (0 : Nat) bs) (rdL bs.length)))).length) (.need ((apsL (List.drop (0 : Nat) bs) (rdL bs.length) (0 : Int) (5 : Int)).length ≤ (1000000000 : Nat)) (.need ((dmQ (List.drop (0 : Nat) bs) (rdL bs.length)).length ≤ (1000000000 : Nat)) (brT (!mkwB (ptsA (apsL (List.drop 0 bs) (rdL bs.length) 0 5).length (List.drop 0 (flat (apsL (List.drop 0 bs) (rdL bs.length) 0 5)))) (ptsA (dmQ (List.drop 0 bs) (rdL bs.length)).length (List.drop 0 (flat (dmQ (List.drop 0 bs) (rdL bs.length))))) == mkwB (ptsA (apsL (List.drop 0 bs) (rdL bs.length) 0 5).length (List.drop 0 (flat (apsL (List.drop 0 bs) (rdL bs.length) 0 5)))) (ptsA (dmQ (List.drop 0 bs) (rdL bs.length)).length (List.drop 0 (flat (dmQ (List.drop 0 bs) (rdL bs.length)))))) (brT (mkwB (ptsA (apsL (List.drop 0 bs) (rdL bs.length) 0 5).length (List.drop 0 (flat (apsL (List.drop 0 bs) (rdL bs.length) 0 5)))) (ptsA (dmQ (List.drop 0 bs) (rdL bs.length)).length (List.drop 0 (flat (dmQ (List.drop 0 bs) (rdL bs.length))))) == mkwB (ptsA (apsL (List.drop 0 bs) (rdL bs.length) 0 5).length (List.drop 0 (flat (apsL (List.drop 0 bs) (rdL bs.length) 0 5)))) (ptsA (dmQ (List.drop 0 bs) (rdL bs.length)).length (List.drop 0 (flat (dmQ (List.drop 0 bs) (rdL bs.length)))))) (.need ((mkwV (ptsA (apsL (List.drop (0 : Nat) bs) (rdL bs.length) (0 : Int) (5 : Int)).length (List.drop (0 : Nat) (flat (apsL (List.drop (0 : Nat) bs) (rdL bs.length) (0 : Int) (5 : Int))))) (ptsA (dmQ (List.drop (0 : Nat) bs) (rdL bs.length)).length (List.drop (0 : Nat) (flat (dmQ (List.drop (0 : Nat) bs) (rdL bs.length)))))).length = (mkwV (ptsA (apsL (List.drop (0 : Nat) bs) (rdL bs.length) (0 : Int) (5 : Int)).length (List.drop (0 : Nat) (flat (apsL (List.drop (0 : Nat) bs) (rdL bs.length) (0 : Int) (5 : Int))))) (ptsA (dmQ (List.drop (0 : Nat) bs) (rdL bs.length)).length (List.drop (0 : Nat) (flat (dmQ (List.drop (0 : Nat) bs) (rdL bs.length)))))).length) (.need (List.drop (0 : Nat) (flat (mkwV (ptsA (apsL (List.drop (0 : Nat) bs) (rdL bs.length) (0 : Int) (5 : Int)).length (List.drop (0 : Nat) (flat (apsL (List.drop (0 : Nat) bs) (rdL bs.length) (0 : Int) (5 : Int))))) (ptsA (dmQ (List.drop (0 : Nat) bs) (rdL bs.length)).length (List.drop (0 : Nat) (flat (dmQ (List.drop (0 : Nat) bs) (rdL bs.length))))))) = List.drop (0 : Nat) (flat (mkwV (ptsA (apsL (List.drop (0 : Nat) bs) (rdL bs.length) (0 : Int) (5 : Int)).length (List.drop (0 : Nat) (flat (apsL (List.drop (0 : Nat) bs) (rdL bs.length) (0 : Int) (5 : Int))))) (ptsA (dmQ (List.drop (0 : Nat) bs) (rdL bs.length)).length (List.drop (0 : Nat) (flat (dmQ (List.drop (0 : Nat) bs) (rdL bs.length)))))))) (.need ((List.drop (0 : Nat) (flat (mkwV (ptsA (apsL (List.drop (0 : Nat) bs) (rdL bs.length) (0 : Int) (5 : Int)).length (List.drop (0 : Nat) (flat (apsL (List.drop (0 : Nat) bs) (rdL bs.length) (0 : Int) (5 : Int))))) (ptsA (dmQ (List.drop (0 : Nat) bs) (rdL bs.length)).length (List.drop (0 : Nat) (flat (dmQ (List.drop (0 : Nat) bs) (rdL bs.length)))))))).length = (mkwV (ptsA (apsL (List.drop (0 : Nat) bs) (rdL bs.length) (0 : Int) (5 : Int)).length (List.drop (0 : Nat) (flat (apsL (List.drop (0 : Nat) bs) (rdL bs.length) (0 : Int) (5 : Int))))) (ptsA (dmQ (List.drop (0 : Nat) bs) (rdL bs.length)).length (List.drop (0 : Nat) (flat (dmQ (List.drop (0 : Nat) bs) (rdL bs.length)))))).length * (2 : Nat)) (.need ((mkwV (ptsA (apsL (List.drop (0 : Nat) bs) (rdL bs.length) (0 : Int) (5 : Int)).length (List.drop (0 : Nat) (flat (apsL (List.drop (0 : Nat) bs) (rdL bs.length) (0 : Int) (5 : Int))))) (ptsA (dmQ (List.drop (0 : Nat) bs) (rdL bs.length)).length (List.drop (0 : Nat) (flat (dmQ (List.drop (0 : Nat) bs) (rdL bs.length)))))).length ≤ (1000000000 : Nat)) (.fin (.bool (true)) []))))) (.fin (.bool (false)) [])) (.need ((mkwV (ptsA (apsL (List.drop (0 : Nat) bs) (rdL bs.length) (0 : Int) (5 : Int)).length (List.drop (0 : Nat) (flat (apsL (List.drop (0 : Nat) bs) (rdL bs.length) (0 : Int) (5 : Int))))) (ptsA (dmQ (List.drop (0 : Nat) bs) (rdL bs.length)).length (List.drop (0 : Nat) (flat (dmQ (List.drop (0 : Nat) bs) (rdL bs.length)))))).length = (mkwV (ptsA (apsL (List.drop (0 : Nat) bs) (rdL bs.length) (0 : Int) (5 : Int)).length (List.drop (0 : Nat) (flat (apsL (List.drop (0 : Nat) bs) (rdL bs.length) (0 : Int) (5 : Int))))) (ptsA (dmQ (List.drop (0 : Nat) bs) (rdL bs.length)).length (List.drop (0 : Nat) (flat (dmQ (List.drop (0 : Nat) bs) (rdL bs.length)))))).length) (.need (List.drop (0 : Nat) (flat (mkwV (ptsA (apsL (List.drop (0 : Nat) bs) (rdL bs.length) (0 : Int) (5 : Int)).length (List.drop (0 : Nat) (flat (apsL (List.drop (0 : Nat) bs) (rdL bs.length) (0 : Int) (5 : Int))))) (ptsA (dmQ (List.drop (0 : Nat) bs) (rdL bs.length)).length (List.drop (0 : Nat) (flat (dmQ (List.drop (0 : Nat) bs) (rdL bs.length))))))) = List.drop (0 : Nat) (flat (mkwV (ptsA (apsL (List.drop (0 : Nat) bs) (rdL bs.length) (0 : Int) (5 : Int)).length (List.drop (0 : Nat) (flat (apsL (List.drop (0 : Nat) bs) (rdL bs.length) (0 : Int) (5 : Int))))) (ptsA (dmQ (List.drop (0 : Nat) bs) (rdL bs.length)).length (List.drop (0 : Nat) (flat (dmQ (List.drop (0 : Nat) bs) (rdL bs.length)))))))) (.need ((List.drop (0 : Nat) (flat (mkwV (ptsA (apsL (List.drop (0 : Nat) bs) (rdL bs.length) (0 : Int) (5 : Int)).length (List.drop (0 : Nat) (flat (apsL (List.drop (0 : Nat) bs) (rdL bs.length) (0 : Int) (5 : Int))))) (ptsA (dmQ (List.drop (0 : Nat) bs) (rdL bs.length)).length (List.drop (0 : Nat) (flat (dmQ (List.drop (0 : Nat) bs) (rdL bs.length)))))))).length = (mkwV (ptsA (apsL (List.drop (0 : Nat) bs) (rdL bs.length) (0 : Int) (5 : Int)).length (List.drop (0 : Nat) (flat (apsL (List.drop (0 : Nat) bs) (rdL bs.length) (0 : Int) (5 : Int))))) (ptsA (dmQ (List.drop (0 : Nat) bs) (rdL bs.length)).length (List.drop (0 : Nat) (flat (dmQ (List.drop (0 : Nat) bs) (rdL bs.length)))))).length * (2 : Nat)) (.need ((mkwV (ptsA (apsL (List.drop (0 : Nat) bs) (rdL bs.length) (0 : Int) (5 : Int)).length (List.drop (0 : Nat) (flat (apsL (List.drop (0 : Nat) bs) (rdL bs.length) (0 : Int) (5 : Int))))) (ptsA (dmQ (List.drop (0 : Nat) bs) (rdL bs.length)).length (List.drop (0 : Nat) (flat (dmQ (List.drop (0 : Nat) bs) (rdL bs.length)))))).length ≤ (1000000000 : Nat)) (brT (!mkwB (ptsA (apsL (List.drop 0 bs) (rdL bs.length) 0 5).length (List.drop 0 (flat (apsL (List.drop 0 bs) (rdL bs.length) 0 5)))) (ptsA (dmQ (List.drop 0 bs) (rdL bs.length)).length (List.drop 0 (flat (dmQ (List.drop 0 bs) (rdL bs.length)))))) (brT (mkwB (ptsA (apsL (List.drop 0 bs) (rdL bs.length) 0 5).length (List.drop 0 (flat (apsL (List.drop 0 bs) (rdL bs.length) 0 5)))) (ptsA (dmQ (List.drop 0 bs) (rdL bs.length)).length (List.drop 0 (flat (dmQ (List.drop 0 bs) (rdL bs.length))))) == mkwB (ptsA (apsL (List.drop 0 bs) (rdL bs.length) 0 5).length (List.drop 0 (flat (apsL (List.drop 0 bs) (rdL bs.length) 0 5)))) (ptsA (dmQ (List.drop 0 bs) (rdL bs.length)).length (List.drop 0 (flat (dmQ (List.drop 0 bs) (rdL bs.length)))))) (.need ((mkwV (ptsA (apsL (List.drop (0 : Nat) bs) (rdL bs.length) (0 : Int) (5 : Int)).length (List.drop (0 : Nat) (flat (apsL (List.drop (0 : Nat) bs) (rdL bs.length) (0 : Int) (5 : Int))))) (ptsA (dmQ (List.drop (0 : Nat) bs) (rdL bs.length)).length (List.drop (0 : Nat) (flat (dmQ (List.drop (0 : Nat) bs) (rdL bs.length)))))).length = (mkwV (ptsA (apsL (List.drop (0 : Nat) bs) (rdL bs.length) (0 : Int) (5 : Int)).length (List.drop (0 : Nat) (flat (apsL (List.drop (0 : Nat) bs) (rdL bs.length) (0 : Int) (5 : Int))))) (ptsA (dmQ (List.drop (0 : Nat) bs) (rdL bs.length)).length (List.drop (0 : Nat) (flat (dmQ (List.drop (0 : Nat) bs) (rdL bs.length)))))).length) (.need (List.drop (0 : Nat) (flat (mkwV (ptsA (apsL (List.drop (0 : Nat) bs) (rdL bs.length) (0 : Int) (5 : Int)).length (List.drop (0 : Nat) (flat (apsL (List.drop (0 : Nat) bs) (rdL bs.length) (0 : Int) (5 : Int))))) (ptsA (dmQ (List.drop (0 : Nat) bs) (rdL bs.length)).length (List.drop (0 : Nat) (flat (dmQ (List.drop (0 : Nat) bs) (rdL bs.length))))))) = List.drop (0 : Nat) (flat (mkwV (ptsA (apsL (List.drop (0 : Nat) bs) (rdL bs.length) (0 : Int) (5 : Int)).length (List.drop (0 : Nat) (flat (apsL (List.drop (0 : Nat) bs) (rdL bs.length) (0 : Int) (5 : Int))))) (ptsA (dmQ (List.drop (0 : Nat) bs) (rdL bs.length)).length (List.drop (0 : Nat) (flat (dmQ (List.drop (0 : Nat) bs) (rdL bs.length)))))))) (.need ((List.drop (0 : Nat) (flat (mkwV (ptsA (apsL (List.drop (0 : Nat) bs) (rdL bs.length) (0 : Int) (5 : Int)).length (List.drop (0 : Nat) (flat (apsL (List.drop (0 : Nat) bs) (rdL bs.length) (0 : Int) (5 : Int))))) (ptsA (dmQ (List.drop (0 : Nat) bs) (rdL bs.length)).length (List.drop (0 : Nat) (flat (dmQ (List.drop (0 : Nat) bs) (rdL bs.length)))))))).length = (mkwV (ptsA (apsL (List.drop (0 : Nat) bs) (rdL bs.length) (0 : Int) (5 : Int)).length (List.drop (0 : Nat) (flat (apsL (List.drop (0 : Nat) bs) (rdL bs.length) (0 : Int) (5 : Int))))) (ptsA (dmQ (List.drop (0 : Nat) bs) (rdL bs.length)).length (List.drop (0 : Nat) (flat (dmQ (List.drop (0 : Nat) bs) (rdL bs.length)))))).length * (2 : Nat)) (.need ((mkwV (ptsA (apsL (List.drop (0 : Nat) bs) (rdL bs.length) (0 : Int) (5 : Int)).length (List.drop (0 : Nat) (flat (apsL (List.drop (0 : Nat) bs) (rdL bs.length) (0 : Int) (5 : Int))))) (ptsA (dmQ (List.drop (0 : Nat) bs) (rdL bs.length)).length (List.drop (0 : Nat) (flat (dmQ (List.drop (0 : Nat) bs) (rdL bs.length)))))).length ≤ (1000000000 : Nat)) (.fin (.bool (true)) []))))) (.fin (.bool (false)) [])) (.need ((apsL (List.drop (0 : Nat) bs) (rdL bs.length) (0 : Int) (5 : Int)).length * (2 : Nat) ≤ (List.drop (0 : Nat) (flat (apsL (List.drop (0 : Nat) bs) (rdL bs.length) (0 : Int) (5 : Int)))).length) (.need ((apsL (List.drop (0 : Nat) bs) (rdL bs.length) (0 : Int) (5 : Int)).length ≤ (1000000000 : Nat)) (brT (!allQ (nrQ (ptsA (apsL (List.drop 0 bs) (rdL bs.length) 0 5).length (List.drop 0 (flat (apsL (List.drop 0 bs) (rdL bs.length) 0 5))))) 0 (apsL (List.drop 0 bs) (rdL bs.length) 0 5).length) (brT (mkwB (ptsA (apsL (List.drop 0 bs) (rdL bs.length) 0 5).length (List.drop 0 (flat (apsL (List.drop 0 bs) (rdL bs.length) 0 5)))) (ptsA (dmQ (List.drop 0 bs) (rdL bs.length)).length (List.drop 0 (flat (dmQ (List.drop 0 bs) (rdL bs.length))))) == mkwB (ptsA (apsL (List.drop 0 bs) (rdL bs.length) 0 5).length (List.drop 0 (flat (apsL (List.drop 0 bs) (rdL bs.length) 0 5)))) (ptsA (dmQ (List.drop 0 bs) (rdL bs.length)).length (List.drop 0 (flat (dmQ (List.drop 0 bs) (rdL bs.length)))))) (.need ((mkwV (ptsA (apsL (List.drop (0 : Nat) bs) (rdL bs.length) (0 : Int) (5 : Int)).length (List.drop (0 : Nat) (flat (apsL (List.drop (0 : Nat) bs) (rdL bs.length) (0 : Int) (5 : Int))))) (ptsA (dmQ (List.drop (0 : Nat) bs) (rdL bs.length)).length (List.drop (0 : Nat) (flat (dmQ (List.drop (0 : Nat) bs) (rdL bs.length)))))).length = (mkwV (ptsA (apsL (List.drop (0 : Nat) bs) (rdL bs.length) (0 : Int) (5 : Int)).length (List.drop (0 : Nat) (flat (apsL (List.drop (0 : Nat) bs) (rdL bs.length) (0 : Int) (5 : Int))))) (ptsA (dmQ (List.drop (0 : Nat) bs) (rdL bs.length)).length (List.drop (0 : Nat) (flat (dmQ (List.drop (0 : Nat) bs) (rdL bs.length)))))).length) (.need (List.drop (0 : Nat) (flat (mkwV (ptsA (apsL (List.drop (0 : Nat) bs) (rdL bs.length) (0 : Int) (5 : Int)).length (List.drop (0 : Nat) (flat (apsL (List.drop (0 : Nat) bs) (rdL bs.length) (0 : Int) (5 : Int))))) (ptsA (dmQ (List.drop (0 : Nat) bs) (rdL bs.length)).length (List.drop (0 : Nat) (flat (dmQ (List.drop (0 : Nat) bs) (rdL bs.length))))))) = List.drop (0 : Nat) (flat (mkwV (ptsA (apsL (List.drop (0 : Nat) bs) (rdL bs.length) (0 : Int) (5 : Int)).length (List.drop (0 : Nat) (flat (apsL (List.drop (0 : Nat) bs) (rdL bs.length) (0 : Int) (5 : Int))))) (ptsA (dmQ (List.drop (0 : Nat) bs) (rdL bs.length)).length (List.drop (0 : Nat) (flat (dmQ (List.drop (0 : Nat) bs) (rdL bs.length)))))))) (.need ((List.drop (0 : Nat) (flat (mkwV (ptsA (apsL (List.drop (0 : Nat) bs) (rdL bs.length) (0 : Int) (5 : Int)).length (List.drop (0 : Nat) (flat (apsL (List.drop (0 : Nat) bs) (rdL bs.length) (0 : Int) (5 : Int))))) (ptsA (dmQ (List.drop (0 : Nat) bs) (rdL bs.length)).length (List.drop (0 : Nat) (flat (dmQ (List.drop (0 : Nat) bs) (rdL bs.length)))))))).length = (mkwV (ptsA (apsL (List.drop (0 : Nat) bs) (rdL bs.length) (0 : Int) (5 : Int)).length (List.drop (0 : Nat) (flat (apsL (List.drop (0 : Nat) bs) (rdL bs.length) (0 : Int) (5 : Int))))) (ptsA (dmQ (List.drop (0 : Nat) bs) (rdL bs.length)).length (List.drop (0 : Nat) (flat (dmQ (List.drop (0 : Nat) bs) (rdL bs.length)))))).length * (2 : Nat)) (.need ((mkwV (ptsA (apsL (List.drop (0 : Nat) bs) (rdL bs.length) (0 : Int) (5 : Int)).length (List.drop (0 : Nat) (flat (apsL (List.drop (0 : Nat) bs) (rdL bs.length) (0 : Int) (5 : Int))))) (ptsA (dmQ (List.drop (0 : Nat) bs) (rdL bs.length)).length (List.drop (0 : Nat) (flat (dmQ (List.drop (0 : Nat) bs) (rdL bs.length)))))).length ≤ (1000000000 : Nat)) (.fin (.bool (true)) []))))) (.fin (.bool (false)) [])) (.need ((apsL (List.drop (0 : Nat) bs) (rdL bs.length) (0 : Int) (5 : Int)).length * (2 : Nat) ≤ (List.drop (0 : Nat) (flat (apsL (List.drop (0 : Nat) bs) (rdL bs.length) (0 : Int) (5 : Int)))).length) (.need ((1 : Nat) = (1 : Nat)) (.need ((apsL (List.drop (0 : Nat) bs) (rdL bs.length) (0 : Int) (5 : Int)).length ≤ (1000000000 : Nat)) (brT (mkwB (ptsA (apsL (List.drop 0 bs) (rdL bs.length) 0 5).length (List.drop 0 (flat (apsL (List.drop 0 bs) (rdL bs.length) 0 5)))) [(3, -2)]) (.need ((apsL (List.drop (0 : Nat) bs) (rdL bs.length) (0 : Int) (5 : Int)).length * (2 : Nat) ≤ (List.drop (0 : Nat) (flat (apsL (List.drop (0 : Nat) bs) (rdL bs.length) (0 : Int) (5 : Int)))).length) (.need ((apsL (List.drop (0 : Nat) bs) (rdL bs.length) (0 : Int) (5 : Int)).length ≤ (1000000000 : Nat)) (.need ((List.drop (0 : Nat) (flat (hulV (ptsA (apsL (List.drop (0 : Nat) bs) (rdL bs.length) (0 : Int) (5 : Int)).length (List.drop (0 : Nat) (flat (apsL (List.drop (0 : Nat) bs) (rdL bs.length) (0 : Int) (5 : Int)))))))).length = (hulV (ptsA (apsL (List.drop (0 : Nat) bs) (rdL bs.length) (0 : Int) (5 : Int)).length (List.drop (0 : Nat) (flat (apsL (List.drop (0 : Nat) bs) (rdL bs.length) (0 : Int) (5 : Int)))))).length * (2 : Nat)) (.need ((hulV (ptsA (apsL (List.drop (0 : Nat) bs) (rdL bs.length) (0 : Int) (5 : Int)).length (List.drop (0 : Nat) (flat (apsL (List.drop (0 : Nat) bs) (rdL bs.length) (0 : Int) (5 : Int)))))).length ≤ (100000 : Nat)) (.need ((mkwV (ptsA (apsL (List.drop (0 : Nat) bs) (rdL bs.length) (0 : Int) (5 : Int)).length (List.drop (0 : Nat) (flat (apsL (List.drop (0 : Nat) bs) (rdL bs.length) (0 : Int) (5 : Int))))) [((3 : Int), (-2 : Int))]).length = (mvWL (3 : Int) (-2 : Int) (ptsA (hulV (ptsA (apsL (List.drop (0 : Nat) bs) (rdL bs.length) (0 : Int) (5 : Int)).length (List.drop (0 : Nat) (flat (apsL (List.drop (0 : Nat) bs) (rdL bs.length) (0 : Int) (5 : Int)))))).length (List.drop (0 : Nat) (flat (hulV (ptsA (apsL (List.drop (0 : Nat) bs) (rdL bs.length) (0 : Int) (5 : Int)).length (List.drop (0 : Nat) (flat (apsL (List.drop (0 : Nat) bs) (rdL bs.length) (0 : Int) (5 : Int)))))))))).length) (.need (List.drop (0 : Nat) (flat (mkwV (ptsA (apsL (List.drop (0 : Nat) bs) (rdL bs.length) (0 : Int) (5 : Int)).length (List.drop (0 : Nat) (flat (apsL (List.drop (0 : Nat) bs) (rdL bs.length) (0 : Int) (5 : Int))))) [((3 : Int), (-2 : Int))])) = List.drop (0 : Nat) (flat (mvWL (3 : Int) (-2 : Int) (ptsA (hulV (ptsA (apsL (List.drop (0 : Nat) bs) (rdL bs.length) (0 : Int) (5 : Int)).length (List.drop (0 : Nat) (flat (apsL (List.drop (0 : Nat) bs) (rdL bs.length) (0 : Int) (5 : Int)))))).length (List.drop (0 : Nat) (flat (hulV (ptsA (apsL (List.drop (0 : Nat) bs) (rdL bs.length) (0 : Int) (5 : Int)).length (List.drop (0 : Nat) (flat (apsL (List.drop (0 : Nat) bs) (rdL bs.length) (0 : Int) (5 : Int)))))))))))) (.need ((List.drop (0 : Nat) (flat (mkwV (ptsA (apsL (List.drop (0 : Nat) bs) (rdL bs.length) (0 : Int) (5 : Int)).length (List.drop (0 : Nat) (flat (apsL (List.drop (0 : Nat) bs) (rdL bs.length) (0 : Int) (5 : Int))))) [((3 : Int), (-2 : Int))]))).length = (mkwV (ptsA (apsL (List.drop (0 : Nat) bs) (rdL bs.length) (0 : Int) (5 : Int)).length (List.drop (0 : Nat) (flat (apsL (List.drop (0 : Nat) bs) (rdL bs.length) (0 : Int) (5 : Int))))) [((3 : Int), (-2 : Int))]).length * (2 : Nat)) (.need ((mkwV (ptsA (apsL (List.drop (0 : Nat) bs) (rdL bs.length) (0 : Int) (5 : Int)).length (List.drop (0 : Nat) (flat (apsL (List.drop (0 : Nat) bs) (rdL bs.length) (0 : Int) (5 : Int))))) [((3 : Int), (-2 : Int))]).length ≤ (1000000000 : Nat)) (.fin (.bool (true)) []))))))))) (.fin (.bool (false)) [])))))))))))))))))))))))) := by kernel_rfl
theorem allQ_allK {q : Nat → Bool} : ∀ {n i : Nat}, allQ q i n = true → ∀ j, i ≤ j → j < i + n → q j = true
  | 0, i, _, j, h1, h2 => by omega
  | n + 1, i, h, j, h1, h2 => by
    have h : (q i && allQ q (i + 1) n) = true := h
    rw [Bool.and_eq_true] at h
    rcases Nat.lt_or_ge i j with hj | hj
    · exact allQ_allK h.2 j hj (by omega)
    · obtain rfl : j = i := by omega
      exact h.1
theorem near_memK {ps : List Pt} (h : allQ (nrQ ps) 0 ps.length = true) {p : Pt} (hp : p ∈ ps) : -900 ≤ p.1 ∧ p.1 ≤ 900 ∧ -900 ≤ p.2 ∧ p.2 ≤ 900 := by
  obtain ⟨j, hj, rfl⟩ := List.getElem_of_mem hp
  have e := allQ_allK h j (Nat.zero_le _) (by omega)
  have g : ps.getD j (0, 0) = ps[j] := by simp [hj]
  simp only [nrQ, g, Bool.and_eq_true, decide_eq_true_eq] at e
  omega
/-- The sum with one point. -/
theorem mk_one {us : List Pt} (ho : okL us = true) (h0 : 0 < us.length) (hn : allQ (nrQ us) 0 us.length = true) : mkwB us [(3, -2)] = true ∧ mkwV us [(3, -2)] = mvWL 3 (-2) (hulV us) := by
  have op : okL [((3 : Int), (-2 : Int))] = true := rfl
  have hp : hulV [((3 : Int), (-2 : Int))] = [(3, -2)] := by rw [hulV_yes op]; rfl
  have e : mkwH us [(3, -2)] = mvWL 3 (-2) (hulV us) := by
    rw [← add_is ho op h0 (by decide), hp]
    have nd : (hulV us).Nodup := by rw [hulV_yes ho]; exact hul_nodup (srtL_asc us)
    have hm : ∀ z ∈ hulV us, z ∈ us := fun z hz => by
      rw [hulV_yes ho] at hz
      exact (srtL_mem _ _).1 (hul_in (srtL_asc us) hz)
    obtain ⟨q, B, eq⟩ : ∃ q B, hulV us = q :: B := by rw [hulV_yes ho]; exact hul_neK (srtL_neK h0) (srtL_asc us)
    rw [eq] at nd hm ⊢
    rw [add_one', add_one _ _ _ nd]
    unfold mvWL
    refine List.map_congr_left fun z hz => ?_
    have := near_memK hn (hm z hz)
    unfold adP mvW
    rw [wr (by omega), wr (by omega)]
    ext <;> simp <;> omega
  have hV : allV (mkwH us [(3, -2)]) = true := by
    rw [e]
    refine List.all_eq_true.2 fun z hz => ?_
    obtain ⟨p, hp', rfl⟩ := List.mem_map.1 hz
    rw [hulV_yes ho] at hp'
    have := near_memK hn ((srtL_mem _ _).1 (hul_in (srtL_asc us) hp'))
    unfold mvW
    simp only [vB]
    rw [wr (by omega), wr (by omega)]
    exact decide_eq_true (by omega)
  have hb : mkwB us [(3, -2)] = true := by
    unfold mkwB
    rw [ho, op, hV, decide_eq_true h0]
    rfl
  refine ⟨hb, ?_⟩
  rw [(mkwV_yes hb).1, e]
set_option maxRecDepth 100000 in
theorem law_mp (bs : List Int) (hb : Bytes bs) (_ : bs.length ≤ maxLen) : Res Try.prog 5 [.row bs.length (.bytes bs)] (.bool true) := by
  refine bodyP_res mixed ELp_ok (m := 30) (n := 12) rfl ?_
  rw [tr_lMp]
  simp only [List.drop_zero, ptsA_flat, flat_length]
  obtain ⟨_, _, _, _, k5, k6⟩ := dmKey hb (Nat.le_refl _) (l := rdL bs.length) (by unfold rdL; omega) (by unfold rdL; omega)
  rw [← dmQ_len] at k6
  generalize apsL bs (rdL bs.length) 0 5 = us at *
  generalize dmQ bs (rdL bs.length) = vs at *
  have hV := mkwV_le us vs
  simp only [beq_self_eq_true, Bool.not_true, brT_f, brT_t]
  refine brT_ok.2 ⟨fun _ => rfl, fun _ => ?_⟩
  rcases hB : mkwB us vs with _ | _
  · simp only [Bool.not_false, brT_t]
    repeat' (first | exact True.intro | assumption | omega | exact rfl | refine And.intro ?_ ?_)
  · rcases hn : allQ (nrQ us) 0 us.length with _ | _
    · simp only [Bool.not_true, Bool.not_false, brT_f, brT_t]
      repeat' (first | exact True.intro | assumption | omega | exact rfl | refine And.intro ?_ ?_)
    · obtain ⟨_, _, o1, _, l1, _⟩ := mkwV_yes hB
      obtain ⟨g1, g2⟩ := mk_one o1 l1 hn
      have hl := hulV_leK us
      have hm := mvWL_len 3 (-2) (hulV us)
      simp only [Bool.not_true, brT_f, brT_t, g1, g2]
      repeat' (first | exact True.intro | assumption | omega | exact rfl | refine And.intro ?_ ?_)
end Go.Proofs.Ytbfoheblcoakiaa
