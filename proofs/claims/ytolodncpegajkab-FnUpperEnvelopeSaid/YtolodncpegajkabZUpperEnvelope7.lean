/-
  Texts that the proof needs, merged. Written by an AI agent.
-/
import Derived.Orders
import Derived.Below
import Derived.OrdersIn
import Derived.Deep.LoopGhost
import Derived.WalkKit
import Derived.Laws.CopyRow
import Derived.Laws.AppendOwn
import Derived.Laws.Slices
import Derived.Laws.MakeOwn
import Derived.Test.YtolodncpegajkabRows
import Derived.ProofKit
import Derived.OpenShut
import Derived.Carry
import Derived.IntWalk
import Derived.Test.YtolodncpegajkabProg
import Derived.WalkSpells
import Derived.WalkLawsBesides
import Derived.Lib.Hide
import Derived.Deep.QuietTactic
import Derived.BigQuiet
import Derived.KernelRfl
import Derived.Deep.RegionHeld3
import Derived.LoopTactic
import Derived.Laws.StructEq
import Derived.Laws.Tables
import Derived.RangeFuncNested
import Derived.RangeFuncLeaves
import Derived.Deep.Slices
import Derived.Deep.Fields
import Derived.ChangeSame
import Derived.Shelf.SlSortCmp.WholeK
import Derived.Sort.Grow
import Derived.Deep.DeepCutAuto
import Derived.Shelf.SlSortCmp.NoneTotal
import Derived.Test.YtolodncpegajkabZUpperEnvelope6
namespace Go.Proofs.Ytolodncpegajkab
set_option linter.all false
open Go.RowKit
theorem Lr_gro {fn : Func} (hf : Try.prog.funcs[63]? = some fn) : LoopsGood Try.prog (lt1 e_gro) 0 (codeOf fn) := by
  obtain rfl := fn_is Try.func63 hf
  exact lt1_good lg_gro
def LGr : FuncId → LT := fun f => match f with
  | 63 => lt1 e_gro
  | _ => noL
def EGf : Env := ⟨B0, fun _ _ => none, LGr, tabJ JGr2, fun _ => noR⟩
theorem EGf_ok : EnvOk Try.prog EGf := ⟨B0_ok, fun _ _ _ _ _ h => (by cases h), (by
  intro f fn hf
  show LoopsGood Try.prog (LGr f) 0 (codeOf fn)
  unfold LGr
  split
  all_goals first | with_reducible exact Lr_gro hf | exact noL_good), tabJ_sound mixed JGr2_ok, fun _ _ _ => noR_good⟩
set_option maxRecDepth 100000 in
theorem tr_grF (bs : List Int) (l c : Nat) (p : Int) : bodyM Try.prog EGf (runM Try.prog EGf 30 12) 30 63 [.pointer (some ⟨1, 0, none⟩)] (memR bs l c p none) .fin = .need (rdC bs l p) (.need ((1 : Nat) ≤ (8 : Nat) ∧ (8 : Nat) ≤ (8 : Nat) ∧ (8 : Nat) = (8 : Nat)) (.need ((0 : Nat) = (0 : Nat)) (.need ((0 : Int) ≤ oneI bs l p (8 : Nat) [(0 : Int), (1 : Int), (2 : Int), (3 : Int), (4 : Int), (5 : Int), (6 : Int), (9 : Int)] ∧ oneI bs l p (8 : Nat) [(0 : Int), (1 : Int), (2 : Int), (3 : Int), (4 : Int), (5 : Int), (6 : Int), (9 : Int)] ≤ (100 : Int)) (.need (l ≤ bs.length ∧ l ≤ (2000 : Nat) ∧ Bytes bs) (.need ((0 : Int) ≤ p + (1 : Int) ∧ p + (1 : Int) ≤ (800000 : Int)) (brT (decide (0 < (↑(gsL bs l (oneI bs l p 8 [0, 1, 2, 3, 4, 5, 6, 9]).toNat [] (p + 1)).length : Int))) (.need (rdC bs l (gsP bs l (oneI bs l p (8 : Nat) [(0 : Int), (1 : Int), (2 : Int), (3 : Int), (4 : Int), (5 : Int), (6 : Int), (9 : Int)]).toNat [] (p + (1 : Int)))) (brT (pickI bs l (gsP bs l (oneI bs l p 8 [0, 1, 2, 3, 4, 5, 6, 9]).toNat [] (p + 1)) 14 == 0) (.need (rdK bs l (gsP bs l (oneI bs l p (8 : Nat) [(0 : Int), (1 : Int), (2 : Int), (3 : Int), (4 : Int), (5 : Int), (6 : Int), (9 : Int)]).toNat [] (p + (1 : Int)) + (1 : Int))) (.need ((0 : Int) ≤ (0 : Int) ∧ (0 : Int) < (↑(gsL bs l (oneI bs l p (8 : Nat) [(0 : Int), (1 : Int), (2 : Int), (3 : Int), (4 : Int), (5 : Int), (6 : Int), (9 : Int)]).toNat [] (p + (1 : Int))).length : Int)) (.need ((2 : Nat) ≤ (flat (gsL bs l (oneI bs l p (8 : Nat) [(0 : Int), (1 : Int), (2 : Int), (3 : Int), (4 : Int), (5 : Int), (6 : Int), (9 : Int)]).toNat [] (p + (1 : Int)))).length) (.fin (.slice (some ⟨4, 0, none⟩) ((gsL bs l (oneI bs l p 8 [0, 1, 2, 3, 4, 5, 6, 9]).toNat [] (p + 1)).length) ((gsL bs l (oneI bs l p 8 [0, 1, 2, 3, 4, 5, 6, 9]).toNat [] (p + 1)).length)) [some ⟨.view, .bytes (bs)⟩, some ⟨.box, .vals [.slice (some ⟨0, 0, none⟩) (l) (c), .int .i64 (agP bs l (gsP bs l (oneI bs l p 8 [0, 1, 2, 3, 4, 5, 6, 9]).toNat [] (p + 1) + 1))]⟩, some deadB, some deadB, some ⟨.row 36 2, .ints (setInts (flat (gsL bs l (oneI bs l p 8 [0, 1, 2, 3, 4, 5, 6, 9]).toNat [] (p + 1))) 0 [agM bs l (gsP bs l (oneI bs l p 8 [0, 1, 2, 3, 4, 5, 6, 9]).toNat [] (p + 1) + 1), agB bs l (gsP bs l (oneI bs l p 8 [0, 1, 2, 3, 4, 5, 6, 9]).toNat [] (p + 1) + 1)])⟩])))) (.fin (.slice (some ⟨4, 0, none⟩) ((gsL bs l (oneI bs l p 8 [0, 1, 2, 3, 4, 5, 6, 9]).toNat [] (p + 1)).length) ((gsL bs l (oneI bs l p 8 [0, 1, 2, 3, 4, 5, 6, 9]).toNat [] (p + 1)).length)) [some ⟨.view, .bytes (bs)⟩, some ⟨.box, .vals [.slice (some ⟨0, 0, none⟩) (l) (c), .int .i64 (gsP bs l (oneI bs l p 8 [0, 1, 2, 3, 4, 5, 6, 9]).toNat [] (p + 1) + 1)]⟩, some deadB, some deadB, some ⟨.row 36 2, .ints (flat (gsL bs l (oneI bs l p 8 [0, 1, 2, 3, 4, 5, 6, 9]).toNat [] (p + 1)))⟩]))) (.fin (.slice (some ⟨4, 0, none⟩) ((gsL bs l (oneI bs l p 8 [0, 1, 2, 3, 4, 5, 6, 9]).toNat [] (p + 1)).length) ((gsL bs l (oneI bs l p 8 [0, 1, 2, 3, 4, 5, 6, 9]).toNat [] (p + 1)).length)) [some ⟨.view, .bytes (bs)⟩, some ⟨.box, .vals [.slice (some ⟨0, 0, none⟩) (l) (c), .int .i64 (gsP bs l (oneI bs l p 8 [0, 1, 2, 3, 4, 5, 6, 9]).toNat [] (p + 1))]⟩, some deadB, some deadB, some ⟨.row 36 2, .ints (flat (gsL bs l (oneI bs l p 8 [0, 1, 2, 3, 4, 5, 6, 9]).toNat [] (p + 1)))⟩]))))))) := by kernel_rfl
def gsC : List Int := [0, 1, 2, 3, 4, 5, 6, 9]
theorem gsC_bd (k : Nat) : 0 ≤ gsC.getD k 0 ∧ gsC.getD k 0 ≤ 9 := by
  unfold gsC
  match k with
  | 0 => decide
  | 1 => decide
  | 2 => decide
  | 3 => decide
  | 4 => decide
  | 5 => decide
  | 6 => decide
  | 7 => decide
  | n + 8 => simp
def gsNn (bs : List Int) (l : Nat) (p : Int) : Nat := (oneI bs l p 8 gsC).toNat
def gsM (bs : List Int) (l : Nat) (p : Int) : List Pt := gsL bs l (gsNn bs l p) [] (p + 1)
def gsZ (bs : List Int) (l : Nat) (p : Int) : Int := gsP bs l (gsNn bs l p) [] (p + 1)
/-- A drawn list of graphs, and the place behind it. -/
def agsL (bs : List Int) (l : Nat) (p : Int) : List Pt := bif decide (0 < (gsM bs l p).length) && pickI bs l (gsZ bs l p) 14 == 0 then (gsM bs l p).set 0 (agM bs l (gsZ bs l p + 1), agB bs l (gsZ bs l p + 1)) else gsM bs l p
def agsE (bs : List Int) (l : Nat) (p : Int) : Int := bif decide (0 < (gsM bs l p).length) then (bif pickI bs l (gsZ bs l p) 14 == 0 then agP bs l (gsZ bs l p + 1) else gsZ bs l p + 1) else gsZ bs l p
theorem grs_bd (bs : List Int) (l : Nat) : ∀ (n : Nat) (o : List Pt) (p : Int), (gsL bs l n o p).length ≤ o.length + n ∧ p ≤ gsP bs l n o p ∧ gsP bs l n o p ≤ p + 3 * n
  | 0, o, p => ⟨Nat.le_refl _, Int.le_refl _, by simp [gsP]⟩
  | n + 1, o, p => by
    obtain ⟨h1, h2, h3⟩ := grs_bd bs l n (gsO bs l o p) (gsE bs l o p)
    have k1 : (gsO bs l o p).length ≤ o.length + 1 := by
      unfold gsO
      cases (gsN bs l o p || pickI bs l (p + 2) 10 == 0) <;> simp
    have k2 : p + 2 ≤ gsE bs l o p ∧ gsE bs l o p ≤ p + 3 := by
      unfold gsE
      cases gsN bs l o p <;> simp only [cond_true, cond_false] <;> omega
    simp only [gsL, gsP]
    omega
theorem gsM_bd (bs : List Int) (l : Nat) (p : Int) : (gsM bs l p).length ≤ 9 ∧ p ≤ gsZ bs l p ∧ gsZ bs l p ≤ p + 30 := by
  have := grs_bd bs l (gsNn bs l p) [] (p + 1)
  have e : gsNn bs l p ≤ 9 := by
    have := gsC_bd (pickI bs l p (8 : Nat)).toNat
    unfold gsNn oneI
    omega
  rw [List.length_nil] at this
  unfold gsM gsZ
  omega
theorem agsL_len (bs : List Int) (l : Nat) (p : Int) : (agsL bs l p).length ≤ 9 := by
  have := (gsM_bd bs l p).1
  unfold agsL
  cases (decide (0 < (gsM bs l p).length) && pickI bs l (gsZ bs l p) 14 == 0)
  · exact this
  · rw [cond_true, List.length_set]
    exact this
def agsS : RSpecR := fun bs l p rest => match rest with
  | [] => some (.slice (some ⟨0, 0, none⟩) (agsL bs l p).length (agsL bs l p).length, ⟨.row 36 2, .ints (flat (agsL bs l p))⟩, agsE bs l p, [rdC bs l p, p ≤ 700000])
  | _ => none
theorem agsS_ok : SpecROk Try.prog 63 agsS := by
  intro bs l c p rest v b p' C h hC
  unfold agsS at h
  split at h
  rotate_left
  · cases h
  obtain ⟨rfl, rfl, rfl, rfl⟩ : (.slice (some ⟨0, 0, none⟩) (agsL bs l p).length (agsL bs l p).length : Value) = v ∧ (⟨.row 36 2, .ints (flat (agsL bs l p))⟩ : Blk) = b ∧ agsE bs l p = p' ∧ [rdC bs l p, p ≤ 700000] = C := by simpa using h
  obtain ⟨h1, h2, _⟩ := hC
  refine ⟨rfl, EGf, 30, 12, EGf_ok, ?_⟩
  rw [tr_grF]
  have h0 := h1.2.2.1
  have b0 := gsC_bd (pickI bs l p (8 : Nat)).toNat
  have b1 : oneI bs l p 8 [0, 1, 2, 3, 4, 5, 6, 9] = gsC.getD (pickI bs l p (8 : Nat)).toNat 0 := rfl
  obtain ⟨m1, m2, m3⟩ := gsM_bd bs l p
  have eL : gsL bs l (oneI bs l p 8 [0, 1, 2, 3, 4, 5, 6, 9]).toNat [] (p + 1) = gsM bs l p := rfl
  have eZ : gsP bs l (oneI bs l p 8 [0, 1, 2, 3, 4, 5, 6, 9]).toNat [] (p + 1) = gsZ bs l p := rfl
  rw [eL, eZ, b1]
  have fl := flat_length (gsM bs l p)
  have rk : ∀ q : Int, p ≤ q → q ≤ p + 1000 → rdK bs l q := fun q g1 g2 => ⟨⟨h1.1, h1.2.1, by omega, by omega, h1.2.2.2.2⟩, by omega⟩
  refine ⟨h1, by decide, rfl, ⟨by omega, by omega⟩, ⟨h1.1, h1.2.1, h1.2.2.2.2⟩, ⟨by omega, by omega⟩, brT_ok.2 ⟨fun g => ?_, fun g => ?_⟩⟩
  · have g2 : 0 < (gsM bs l p).length := by have := of_decide_eq_true g; omega
    refine ⟨(rk _ (by omega) (by omega)).1, brT_ok.2 ⟨fun k => ?_, fun k => ?_⟩⟩
    · have eE : agsE bs l p = agP bs l (gsZ bs l p + 1) := by unfold agsE; rw [decide_eq_true g2, cond_true, k, cond_true]
      have eA : agsL bs l p = (gsM bs l p).set 0 (agM bs l (gsZ bs l p + 1), agB bs l (gsZ bs l p + 1)) := by unfold agsL; rw [decide_eq_true g2, k]; rfl
      have hs : setInts (flat (gsM bs l p)) 0 [agM bs l (gsZ bs l p + 1), agB bs l (gsZ bs l p + 1)] = flat ((gsM bs l p).set 0 (agM bs l (gsZ bs l p + 1), agB bs l (gsZ bs l p + 1))) := flat_set (gsM bs l p) 0 g2 _ _
      rw [eA, eE, hs]
      exact ⟨rk _ (by omega) (by omega), by omega, by omega, rfl, some 4, ⟨rfl, rfl, by rw [List.length_set]⟩, rfl, rfl, rfl⟩
    · have eE : agsE bs l p = gsZ bs l p + 1 := by unfold agsE; rw [decide_eq_true g2, cond_true, k, cond_false]
      have eA : agsL bs l p = gsM bs l p := by unfold agsL; rw [k, Bool.and_false]; rfl
      rw [eA, eE]
      exact ⟨rfl, some 4, ⟨rfl, rfl, rfl⟩, rfl, rfl, rfl⟩
  · have g2 : ¬ 0 < (gsM bs l p).length := by have := of_decide_eq_false g; omega
    have eE : agsE bs l p = gsZ bs l p := by unfold agsE; rw [decide_eq_false g2, cond_false]
    have eA : agsL bs l p = gsM bs l p := by unfold agsL; rw [decide_eq_false g2]; rfl
    rw [eA, eE]
    exact ⟨rfl, some 4, ⟨rfl, rfl, rfl⟩, rfl, rfl, rfl⟩
def JGl : TabJ := consR 63 (rdGR agsS) (tabJ J2)
theorem JGl_ok : GSound Try.prog JGl.g := consR_ok mixed (tabJ_sound mixed J2_ok) (entersB_res (by kernel_rfl)).1 agsS_ok
def EDg : Env := ⟨B0, fun _ _ => none, fun _ => noL, JGl, fun _ => noR⟩
theorem EDg_ok : EnvOk Try.prog EDg := ⟨B0_ok, fun _ _ _ _ _ h => (by cases h), fun _ _ _ => noL_good, JGl_ok, fun _ _ _ => noR_good⟩
set_option maxRecDepth 100000 in
theorem tr_dUe (bs : List Int) (n : Nat) : bodyX Try.prog EDg 30 12 24 [.row n (.bytes bs)] = brT (decide (2000 < (↑n : Int))) (.need ((0 : Int) ≤ bndI none (0 : Int) ∧ bndI none (0 : Int) ≤ bndI (some (IntKind.i64, (2000 : Int))) (↑n : Int) ∧ bndI (some (IntKind.i64, (2000 : Int))) (↑n : Int) ≤ (↑n : Int)) (.need (rdC bs (2000 : Nat) (0 : Int)) (.need ((0 : Int) ≤ (700000 : Int)) (.fin (.slice (some ⟨2, 0, none⟩) ((agsL bs 2000 0).length) ((agsL bs 2000 0).length)) [some ⟨.view, .bytes (bs)⟩, some ⟨.box, .vals [.slice (some ⟨0, 0, none⟩) (2000) (2000), .int .i64 (agsE bs 2000 0)]⟩, some ⟨.row 36 2, .ints (flat (agsL bs 2000 0))⟩])))) (.need (rdC bs n (0 : Int)) (.need ((0 : Int) ≤ (700000 : Int)) (.fin (.slice (some ⟨2, 0, none⟩) ((agsL bs n 0).length) ((agsL bs n 0).length)) [some ⟨.view, .bytes (bs)⟩, some ⟨.box, .vals [.slice (some ⟨0, 0, none⟩) (n) (n), .int .i64 (agsE bs n 0)]⟩, some ⟨.row 36 2, .ints (flat (agsL bs n 0))⟩]))) := by kernel_rfl
theorem resR_dUe (bs : List Int) (n : Nat) (hb : Bytes bs) (hn : n ≤ bs.length) : ResR Try.prog 24 [.row n (.bytes bs)] (.slice (some ⟨0, 0, none⟩) (agsL bs (rdL n) 0).length (agsL bs (rdL n) 0).length) ⟨.row 36 2, .ints (flat (agsL bs (rdL n) 0))⟩ := by
  refine bodyX_resR mixed EDg_ok (m := 30) (n := 12) rfl ?_
  rw [tr_dUe]
  refine brT_ok.2 ⟨fun h => ?_, fun h => ?_⟩
  · have h := of_decide_eq_true h
    have k1 : rdC bs 2000 0 := (rdK0 hb hn (l := 2000) (by omega) (by omega) (p := 0) (by omega) (by omega)).1
    rw [rdL_of h]
    exact ⟨bnd2000 h, k1, by omega, some 2, ⟨rfl, rfl, rfl⟩, rfl, rfl, rfl⟩
  · have h := of_decide_eq_false h
    have k1 : rdC bs n 0 := (rdK0 hb hn (l := n) (by omega) (by omega) (p := 0) (by omega) (by omega)).1
    rw [rdL_no h]
    exact ⟨k1, by omega, some 2, ⟨rfl, rfl, rfl⟩, rfl, rfl, rfl⟩
end Go.Proofs.Ytolodncpegajkab
namespace Go.Proofs.Ytolodncpegajkab
set_option linter.all false
open Go.RowKit
noncomputable def c_eqN : Code := ((loopsOf (codeOf Try.f25))[0]?).getD .skip
def k_eqN : Ex → List Nat := keeps [0, 1, 5] [(0, [])] [4]
def s_eqN (n : Nat) (xs : List Int) : Nat → St := fun i => ⟨[.slice (some ⟨0, 0, none⟩) n n, .slice (some ⟨1, 0, none⟩) n n, topV, topV, topV, .int .i64 i, topV, topV, topV, topV, topV, topV, topV, topV, topV, topV, topV, topV, topV, topV, topV, topV, topV, topV, topV, topV], [some ⟨.view, .ints xs⟩, some ⟨.view, .ints xs⟩]⟩
def re_eqN : Nat → Ex := fun _ => .exit 0
def rs_eqN (n : Nat) (xs : List Int) : Nat → St := fun i => ⟨[topV, topV, topV, topV, topV, topV, topV, topV, topV, topV, topV, topV, topV, topV, topV, topV, topV, topV, topV, topV, topV, topV, topV, topV, topV, topV], [some ⟨.view, .ints xs⟩, some ⟨.view, .ints xs⟩]⟩
set_option maxRecDepth 100000 in
theorem tr_eqN (n : Nat) (xs : List Int) (i : Nat) : bodyL Try.prog E3 30 12 noL 1 c_eqN k_eqN 2 (s_eqN n xs i) = brT (decide ((↑i : Int) < (↑n : Int))) (.need ((0 : Int) ≤ (↑i : Int) ∧ (↑i : Int) < (↑n : Int)) (.need ((0 : Nat) + (↑i : Int).toNat * (1 : Nat) < xs.length) (.need ((0 : Int) ≤ (↑i : Int) ∧ (↑i : Int) < (↑n : Int)) (.need ((0 : Nat) + (↑i : Int).toNat * (1 : Nat) < xs.length) (brT (!xs.getD (0 + (↑i : Int).toNat * 1) 0 == xs.getD (0 + (↑i : Int).toNat * 1) 0) (.leaf .ret ⟨[topV, topV, topV, topV, .bool (false), topV, topV, topV, topV, topV, topV, topV, topV, topV, topV, topV, topV, topV, topV, topV, topV, topV, topV, topV, topV, topV], [some ⟨.view, .ints (xs)⟩, some ⟨.view, .ints (xs)⟩]⟩) (.leaf .normal ⟨[.slice (some ⟨0, 0, none⟩) (n) (n), .slice (some ⟨1, 0, none⟩) (n) (n), topV, topV, topV, .int .i64 (IntKind.i64.wrap ((↑i : Int) + 1)), topV, topV, topV, topV, topV, topV, topV, topV, topV, topV, topV, topV, topV, topV, topV, topV, topV, topV, topV, topV], [some ⟨.view, .ints (xs)⟩, some ⟨.view, .ints (xs)⟩]⟩)))))) (.leaf (.exit 0) ⟨[topV, topV, topV, topV, topV, topV, topV, topV, topV, topV, topV, topV, topV, topV, topV, topV, topV, topV, topV, topV, topV, topV, topV, topV, topV, topV], [some ⟨.view, .ints (xs)⟩, some ⟨.view, .ints (xs)⟩]⟩) := by kernel_rfl
set_option maxRecDepth 100000 in
theorem nl_eqN : loopsOf c_eqN = [] := by kernel_rfl
def inv_eqN (n : Nat) (xs : List Int) : Nat → Prop := fun i => i ≤ n
def me_eqN (n : Nat) (xs : List Int) : Nat → Nat := fun i => n - i
/-- A round of this loop. -/
def Round_eqN (n : Nat) (xs : List Int) : Prop := ∀ xx : Nat, inv_eqN n xs xx → (bodyL Try.prog E3 30 12 noL 1 c_eqN k_eqN 2 (s_eqN n xs xx)).ok (RoundEnd 2 (s_eqN n xs) (inv_eqN n xs) (me_eqN n xs) re_eqN (rs_eqN n xs) xx) (fun _ _ => False)
def e_eqN (s : St) (k : Ex → St → Tree) : Option Tree := match Nat.beq s.tmps.length 26, pickL s.tmps [0, 1, 5], s.mem with
  | true, [.slice (some ⟨0, 0, none⟩) n _, .slice (some ⟨1, 0, none⟩) m _, .int .i64 i], [some ⟨.view, .ints xs⟩, some ⟨.view, .ints ys⟩] => some (needs [i = 0, m = n, ys = xs, n ≤ xs.length, n ≤ 1000000000] (k (.exit 0) ⟨[topV, topV, topV, topV, topV, topV, topV, topV, topV, topV, topV, topV, topV, topV, topV, topV, topV, topV, topV, topV, topV, topV, topV, topV, topV, topV], [some ⟨.view, .ints xs⟩, some ⟨.view, .ints xs⟩]⟩))
  | _, _, _ => none
set_option maxRecDepth 100000 in
theorem round_eqN (n : Nat) (xs : List Int) (hx : n ≤ xs.length) (h : n ≤ 1000000000) : Round_eqN n xs := by
  intro i h1
  have h1 : i ≤ n := h1
  rw [tr_eqN]
  simp only [brT_ok, Tree.ok, decide_eq_true_eq, decide_eq_false_iff_not, Int.toNat_natCast, Nat.zero_add, Nat.mul_one, Bool.not_eq_true', Bool.not_eq_false', beq_iff_eq, beq_eq_false_iff_ne]
  refine ⟨fun hlt => ?_, fun hge => ?_⟩
  · rw [wsucc (n := n) (by omega) h]
    refine ⟨by omega, by omega, by omega, by omega, fun hc => absurd rfl hc, fun _ => ⟨i + 1, [], ?_, ?_, rfl, rfl, ?_⟩⟩
    · show i + 1 ≤ n; omega
    · show n - (i + 1) < n - i; omega
    · repeat' (first | exact True.intro | exact rfl | exact fun _ => rfl | refine And.intro ?_ ?_)
  · refine ⟨rfl, [], ?_⟩
    repeat' (first | exact True.intro | exact rfl | exact fun _ => rfl | refine And.intro ?_ ?_)
set_option maxRecDepth 100000 in
theorem lg_eqN : LoopE Try.prog e_eqN c_eqN := by
  intro s k t F H hlt ht
  unfold e_eqN at hlt
  split at hlt
  rotate_left
  · cases hlt
  rename_i hlen hpick hmem
  obtain ⟨tmps, mem⟩ := s
  simp only at hlen hpick hmem
  subst hmem
  obtain rfl := Option.some.inj hlt
  obtain ⟨⟨rfl, rfl, rfl, h1, h2, _⟩, ht2⟩ := needs_ok ht
  clear ht hlt
  refine ⟨_, _, ht2, loop_run mixed E3_ok (s_eqN _ _) (inv_eqN _ _) (me_eqN _ _) re_eqN (rs_eqN _ _) k_eqN (fun _ => rfl) (noLoops nl_eqN) (round_eqN _ _ h1 h2) (x := 0) (Nat.zero_le _) (π := []) rfl ?_⟩
  refine ⟨rfl, rfl, ?_, wvs_spread' [0, 1, 5] hlen rfl ?_⟩
  · repeat' (first | exact True.intro | exact rfl | exact wv_top _ _ | exact fun _ => rfl | assumption | exact Eq.symm (by assumption) | exact vI0 rfl | refine And.intro ?_ ?_)
  · rw [hpick]
    repeat' (first | exact True.intro | exact rfl | exact wv_top _ _ | exact fun _ => rfl | assumption | exact Eq.symm (by assumption) | exact vI0 rfl | refine And.intro ?_ ?_)
/-- Not k at j. -/
def neQ (xs : List Int) (k : Int) (j : Nat) : Bool := !(xs.getD j 0 == k)
noncomputable def c_isN : Code := ((loopsOf (codeOf Try.f29))[0]?).getD .skip
def k_isN : Ex → List Nat := keeps [0, 1, 5] [(0, [])] [4]
def s_isN (n : Nat) (xs : List Int) (q : Int) : Nat → St := fun i => ⟨[.slice (some ⟨0, 0, none⟩) n n, .int .i64 q, topV, topV, topV, .int .i64 i, topV, topV, topV, topV, topV, topV, topV, topV, topV, topV, topV, topV], [some ⟨.view, .ints xs⟩, none]⟩
def re_isN (n : Nat) (xs : List Int) (q : Int) : Nat → Ex := fun i => bif allQ (neQ xs q) i (n - i) then .exit 0 else .ret
def rs_isN (n : Nat) (xs : List Int) (q : Int) : Nat → St := fun i => bif allQ (neQ xs q) i (n - i) then ⟨[topV, topV, topV, topV, topV, topV, topV, topV, topV, topV, topV, topV, topV, topV, topV, topV, topV, topV], [some ⟨.view, .ints xs⟩, none]⟩ else ⟨[topV, topV, topV, topV, .bool true, topV, topV, topV, topV, topV, topV, topV, topV, topV, topV, topV, topV, topV], [some ⟨.view, .ints xs⟩, none]⟩
set_option maxRecDepth 100000 in
theorem tr_isN (n : Nat) (xs : List Int) (q : Int) (i : Nat) : bodyL Try.prog E3 30 12 noL 1 c_isN k_isN 2 (s_isN n xs q i) = brT (decide ((↑i : Int) < (↑n : Int))) (.need ((0 : Int) ≤ (↑i : Int) ∧ (↑i : Int) < (↑n : Int)) (.need ((0 : Nat) + (↑i : Int).toNat * (1 : Nat) < xs.length) (brT (xs.getD (0 + (↑i : Int).toNat * 1) 0 == q) (.leaf .ret ⟨[topV, topV, topV, topV, .bool (true), topV, topV, topV, topV, topV, topV, topV, topV, topV, topV, topV, topV, topV], [some ⟨.view, .ints (xs)⟩, none]⟩) (.leaf .normal ⟨[.slice (some ⟨0, 0, none⟩) (n) (n), .int .i64 (q), topV, topV, topV, .int .i64 (IntKind.i64.wrap ((↑i : Int) + 1)), topV, topV, topV, topV, topV, topV, topV, topV, topV, topV, topV, topV], [some ⟨.view, .ints (xs)⟩, none]⟩)))) (.leaf (.exit 0) ⟨[topV, topV, topV, topV, topV, topV, topV, topV, topV, topV, topV, topV, topV, topV, topV, topV, topV, topV], [some ⟨.view, .ints (xs)⟩, none]⟩) := by kernel_rfl
set_option maxRecDepth 100000 in
theorem nl_isN : loopsOf c_isN = [] := by kernel_rfl
def inv_isN (n : Nat) (xs : List Int) (q : Int) : Nat → Prop := fun i => i ≤ n
def me_isN (n : Nat) (xs : List Int) (q : Int) : Nat → Nat := fun i => n - i
/-- A round of this loop. -/
def Round_isN (n : Nat) (xs : List Int) (q : Int) : Prop := ∀ xx : Nat, inv_isN n xs q xx → (bodyL Try.prog E3 30 12 noL 1 c_isN k_isN 2 (s_isN n xs q xx)).ok (RoundEnd 2 (s_isN n xs q) (inv_isN n xs q) (me_isN n xs q) (re_isN n xs q) (rs_isN n xs q) xx) (fun _ _ => False)
def e_isN (s : St) (k : Ex → St → Tree) : Option Tree := match Nat.beq s.tmps.length 18, pickL s.tmps [0, 1, 5], s.mem with
  | true, [.slice (some ⟨0, 0, none⟩) n _, .int .i64 q, .int .i64 i], [some ⟨.view, .ints xs⟩, none] => some (needs [i = 0, n ≤ xs.length, n ≤ 1000000000] (brT (allQ (neQ xs q) 0 n) (k (.exit 0) ⟨[topV, topV, topV, topV, topV, topV, topV, topV, topV, topV, topV, topV, topV, topV, topV, topV, topV, topV], [some ⟨.view, .ints xs⟩, none]⟩) (k .ret ⟨[topV, topV, topV, topV, .bool true, topV, topV, topV, topV, topV, topV, topV, topV, topV, topV, topV, topV, topV], [some ⟨.view, .ints xs⟩, none]⟩)))
  | _, _, _ => none
set_option maxRecDepth 100000 in
theorem round_isN (n : Nat) (xs : List Int) (q : Int) (hx : n ≤ xs.length) (h : n ≤ 1000000000) : Round_isN n xs q := by
  intro i h1
  have h1 : i ≤ n := h1
  rw [tr_isN]
  simp only [brT_ok, Tree.ok, decide_eq_true_eq, decide_eq_false_iff_not, Int.toNat_natCast, Nat.zero_add, Nat.mul_one, Bool.not_eq_true', Bool.not_eq_false']
  refine ⟨fun hlt => ⟨by omega, by omega, fun hv => ?_, fun hv => ?_⟩, fun hge => ?_⟩
  · have e : allQ (neQ xs q) i (n - i) = false := by rw [allQ_step (by omega)]; unfold neQ; rw [hv]; rfl
    refine ⟨by simp only [re_isN, e, cond_false], [], ?_⟩
    simp only [rs_isN, e, cond_false]
    repeat' (first | exact True.intro | exact rfl | exact fun _ => rfl | refine And.intro ?_ ?_)
  · have e : allQ (neQ xs q) i (n - i) = allQ (neQ xs q) (i + 1) (n - (i + 1)) := by
      rw [allQ_step (by omega)]
      have : neQ xs q i = true := by unfold neQ; rw [hv]; rfl
      rw [this, Bool.true_and]
    rw [wsucc (n := n) (by omega) h]
    refine ⟨i + 1, [], ?_, ?_, by simp only [re_isN, e], by simp only [rs_isN, e], ?_⟩
    · show i + 1 ≤ n; omega
    · show n - (i + 1) < n - i; omega
    · repeat' (first | exact True.intro | exact rfl | exact fun _ => rfl | refine And.intro ?_ ?_)
  · have e : allQ (neQ xs q) i (n - i) = true := allQ_end (by omega)
    refine ⟨by simp only [re_isN, e, cond_true], [], ?_⟩
    simp only [rs_isN, e, cond_true]
    repeat' (first | exact True.intro | exact rfl | exact fun _ => rfl | refine And.intro ?_ ?_)
set_option maxRecDepth 100000 in
theorem lg_isN : LoopE Try.prog e_isN c_isN := by
  intro s k t F H hlt ht
  unfold e_isN at hlt
  split at hlt
  rotate_left
  · cases hlt
  rename_i hlen hpick hmem
  obtain ⟨tmps, mem⟩ := s
  simp only at hlen hpick hmem
  subst hmem
  obtain rfl := Option.some.inj hlt
  obtain ⟨⟨rfl, h1, h2, _⟩, ht2⟩ := needs_ok ht
  clear ht hlt
  refine ⟨_, _, pick2k ht2, loop_run mixed E3_ok (s_isN _ _ _) (inv_isN _ _ _) (me_isN _ _ _) (re_isN _ _ _) (rs_isN _ _ _) k_isN (fun _ => rfl) (noLoops nl_isN) (round_isN _ _ _ h1 h2) (x := 0) (Nat.zero_le _) (π := []) rfl ?_⟩
  refine ⟨rfl, rfl, ?_, wvs_spread' [0, 1, 5] hlen rfl ?_⟩
  · repeat' (first | exact True.intro | exact rfl | exact wv_top _ _ | exact fun _ => rfl | assumption | exact Eq.symm (by assumption) | exact vI0 rfl | refine And.intro ?_ ?_)
  · rw [hpick]
    repeat' (first | exact True.intro | exact rfl | exact wv_top _ _ | exact fun _ => rfl | assumption | exact Eq.symm (by assumption) | exact vI0 rfl | refine And.intro ?_ ?_)
theorem Lr_eqN {fn : Func} (hf : Try.prog.funcs[25]? = some fn) : LoopsGood Try.prog (lt1 e_eqN) 0 (codeOf fn) := by
  obtain rfl := fn_is Try.func25 hf
  exact lt1_good lg_eqN
theorem Lr_isN {fn : Func} (hf : Try.prog.funcs[29]? = some fn) : LoopsGood Try.prog (lt1 e_isN) 0 (codeOf fn) := by
  obtain rfl := fn_is Try.func29 hf
  exact lt1_good lg_isN
def LEq : FuncId → LT := fun f => match f with
  | 25 => lt1 e_eqN
  | 29 => lt1 e_isN
  | _ => noL
def EEq : Env := mkE T2 (fun _ _ => none) LEq
theorem EEq_ok : EnvOk Try.prog EEq := mkEOk T2_ok (fun _ _ _ _ _ h => (by cases h)) (by
  intro f fn hf
  unfold LEq
  split
  all_goals first | with_reducible exact Lr_eqN hf | with_reducible exact Lr_isN hf | exact noL_good)
set_option maxRecDepth 100000 in
theorem tr_eqNF (n m : Nat) (xs ys : List Int) : bodyV Try.prog EEq 30 12 25 [.row n (.ints xs), .row m (.ints ys)] = brT (!(↑n : Int) == (↑m : Int)) (.fin (.bool (false)) []) (.need ((0 : Int) = (0 : Int)) (.need (m = n) (.need (ys = xs) (.need (n ≤ xs.length) (.need (n ≤ (1000000000 : Nat)) (.fin (.bool (true)) [])))))) := by kernel_rfl
theorem res_eqN (n : Nat) (xs : List Int) (h : n ≤ xs.length) (hn : Lim n) : Res Try.prog 25 [.row n (.ints xs), .row n (.ints xs)] (.bool true) := by
  refine bodyV_res mixed EEq_ok (m := 30) (n := 12) rfl ?_
  rw [tr_eqNF]
  simp [brT_ok, Tree.ok]
  exact ⟨h, hn⟩
def pEqN : List DArg → Option (Value × List Prop)
  | [.row n (.ints xs), .row m (.ints ys)] => some (.bool true, [n = m, xs = ys, n ≤ xs.length, Lim n])
  | _ => none
theorem pEqN_ok {ds : List DArg} {v : Value} {C : List Prop} (h : pEqN ds = some (v, C)) (hC : AllP C) : Res Try.prog 25 ds v := by
  unfold pEqN at h
  split at h
  · obtain ⟨rfl, rfl⟩ : _ ∧ _ := by simpa using h
    obtain ⟨rfl, rfl, h1, h2, _⟩ := hC
    exact res_eqN _ _ h1 h2
  · cases h
end Go.Proofs.Ytolodncpegajkab
namespace Go.Proofs.Ytolodncpegajkab
set_option linter.all false
open Go.RowKit
def TLe : Tab := fun f ds => match f with
  | 25 => pEqN ds
  | f => B0 f ds
theorem TLe_ok : TabOk Try.prog TLe := by
  intro f ds v C h hC
  unfold TLe at h
  (try split at h)
  all_goals first | with_reducible exact pEqN_ok h hC | exact B0_ok _ _ _ _ h hC
def RLe : TabR := fun f ds => match f, ds with
  | 24, [.row n (.bytes bs)] => some (.slice (some ⟨0, 0, none⟩) (agsL bs (rdL n) 0).length (agsL bs (rdL n) 0).length, ⟨.row 36 2, .ints (flat (agsL bs (rdL n) 0))⟩, [Bytes bs, n ≤ bs.length])
  | f, ds => RUe f ds
theorem RLe_ok : TabROk Try.prog RLe := by
  intro f ds v b C h hC
  unfold RLe at h
  split at h
  · obtain ⟨rfl, rfl, rfl⟩ : _ ∧ _ ∧ _ := by simpa using h
    exact resR_dUe _ _ hC.1 hC.2.1
  · exact RUe_ok _ _ _ _ _ h hC
def ELe : Env := mkE TLe RLe (fun _ => noL)
theorem ELe_ok : EnvOk Try.prog ELe := mkEOk TLe_ok RLe_ok (fun _ _ _ => noL_good)
/-- Graphs with their envelope. -/
structure UeOk (gs : List Pt) (es : List Int) : Prop where
  vg : vgB gs = true
  is : es = ueS gs
  pos : 0 < es.length
theorem UeOk.rng {gs : List Pt} {es : List Int} (h : UeOk gs es) {k : Nat} (hk : k < es.length) : 0 ≤ es.getD k 0 ∧ es.getD k 0 < gs.length := by
  have hm : ∀ x ∈ scanU gs (ordG gs) [], 0 ≤ x ∧ x < (gs.length : Int) := scanU_mem (fun x hx => by simp at hx) fun x hx => by
    obtain ⟨j, hj, rfl⟩ := List.getElem_of_mem hx
    have h1 := (ordG_in gs).1 j hj
    have e : (ordG gs).getD j 0 = (ordG gs)[j] := by simp [List.getD, hj]
    rw [e] at h1
    exact h1
  have e : es = scanU gs (ordG gs) [] := by
    rw [h.is]
    unfold ueS
    rw [h.vg]
    rfl
  refine hm _ ?_
  rw [← e]
  simp [List.getD, hk]
theorem UeOk.len {gs : List Pt} {es : List Int} (h : UeOk gs es) : (ueC gs).length = es.length := by
  have := congrArg List.length (ueS_pts h.vg)
  rw [List.length_map, ← h.is] at this
  exact this.symm
theorem UeOk.at {gs : List Pt} {es : List Int} (h : UeOk gs es) {k : Nat} (hk : k < es.length) : gs.getD (es.getD k 0).toNat (0, 0) = (ueC gs).getD k (0, 0) := by
  have e := ueS_pts h.vg
  rw [← h.is] at e
  have := gG_kI gs hk
  rw [e] at this
  exact this
theorem UeOk.bd {gs : List Pt} {es : List Int} (h : UeOk gs es) {k : Nat} (hk : k < gs.length) : -1000 ≤ (gs.getD k (0, 0)).1 ∧ (gs.getD k (0, 0)).1 ≤ 1000 ∧ -1000 ≤ (gs.getD k (0, 0)).2 ∧ (gs.getD k (0, 0)).2 ≤ 1000 := by
  have := ptB_true (allV_atU (vg_iff h.vg).1 hk)
  omega
theorem UeOk.le {gs : List Pt} {es : List Int} (h : UeOk gs es) : gs.length ≤ 8 := (vg_iff h.vg).2
theorem UeOk.el {gs : List Pt} {es : List Int} (h : UeOk gs es) : es.length ≤ 8 := by rw [h.is]; exact ueS_len gs
theorem UeOk.mem {gs : List Pt} {es : List Int} (_ : UeOk gs es) {k : Nat} (hk : k < gs.length) : gs.getD k (0, 0) ∈ gs := getD_mem' hk
end Go.Proofs.Ytolodncpegajkab
namespace Go.Proofs.Ytolodncpegajkab
set_option linter.all false
open Go.RowKit
/-- The height of a graph of the envelope. -/
def hU (gs : List Pt) (es : List Int) (t : Int) (k : Nat) : Int := (gs.getD (es.getD k 0).toNat (0, 0)).1 * t - (gs.getD (es.getD k 0).toNat (0, 0)).2
/-- The greatest height of so many more. -/
def bsU (gs : List Pt) (es : List Int) (t : Int) : Nat → Int
  | 0 => hU gs es t 0
  | k + 1 => if bsU gs es t k < hU gs es t (k + 1) then hU gs es t (k + 1) else bsU gs es t k
noncomputable def c_luA : Code := ((loopsOf (codeOf Try.f4))[0]?).getD .skip
def k_luA : Ex → List Nat := keeps [5, 6, 7, 8, 9] [(0, [5, 7, 8])] [4]
def s_luA (bs ms : List Int) (gs : List Pt) (es fs : List Int) (t : Int) : Nat → St := fun i => ⟨(topV :: topV :: topV :: topV :: topV :: .slice (some ⟨2, 0, none⟩) gs.length gs.length :: .slice (some ⟨3, 0, none⟩) es.length es.length :: .int .i64 t :: .int .i64 (bsU gs es t (i - 1)) :: .int .i64 i :: topV :: topV :: topV :: topV :: topV :: topV :: topV :: topV :: topV :: topV :: topV :: topV :: topV :: topV :: topV :: topV :: topV :: topV :: topV :: topV :: topV :: topV :: topV :: topV :: topV :: topV :: topV :: topV :: topV :: topV :: topV :: topV :: topV :: topV :: topV :: topV :: topV :: topV :: topV :: topV :: topV :: topV :: topV :: topV :: topV :: topV :: topV :: topV :: topV :: topV :: topV :: topV :: topV :: topV :: topV :: topV :: topV :: topV :: topV :: topV :: topV :: topV :: topV :: topV :: topV :: topV :: topV :: topV :: topV :: topV :: topV :: topV :: topV :: topV :: topV :: topV :: topV :: topV :: topV :: topV :: topV :: topV :: topV :: topV :: topV :: topV :: topV :: topV :: topV :: topV :: topV :: topV :: topV :: topV :: topV :: topV :: topV :: topV :: topV :: topV :: topV :: topV :: topV :: topV :: topV :: topV :: topV :: topV :: topV :: topV :: topV :: topV :: topV :: topV :: []), [some ⟨.view, .bytes bs⟩, some ⟨.view, .bytes ms⟩, some ⟨.row 36 2, .ints (flat gs)⟩, some ⟨.row 3 1, .ints es⟩, some ⟨.row 3 1, .ints fs⟩]⟩
def re_luA : Nat → Ex := fun _ => .exit 0
def rs_luA (bs ms : List Int) (gs : List Pt) (es fs : List Int) (t : Int) : Nat → St := fun i => ⟨(topV :: topV :: topV :: topV :: topV :: .slice (some ⟨2, 0, none⟩) gs.length gs.length :: topV :: .int .i64 t :: .int .i64 (bsU gs es t (es.length - 1)) :: topV :: topV :: topV :: topV :: topV :: topV :: topV :: topV :: topV :: topV :: topV :: topV :: topV :: topV :: topV :: topV :: topV :: topV :: topV :: topV :: topV :: topV :: topV :: topV :: topV :: topV :: topV :: topV :: topV :: topV :: topV :: topV :: topV :: topV :: topV :: topV :: topV :: topV :: topV :: topV :: topV :: topV :: topV :: topV :: topV :: topV :: topV :: topV :: topV :: topV :: topV :: topV :: topV :: topV :: topV :: topV :: topV :: topV :: topV :: topV :: topV :: topV :: topV :: topV :: topV :: topV :: topV :: topV :: topV :: topV :: topV :: topV :: topV :: topV :: topV :: topV :: topV :: topV :: topV :: topV :: topV :: topV :: topV :: topV :: topV :: topV :: topV :: topV :: topV :: topV :: topV :: topV :: topV :: topV :: topV :: topV :: topV :: topV :: topV :: topV :: topV :: topV :: topV :: topV :: topV :: topV :: topV :: topV :: topV :: topV :: topV :: topV :: topV :: topV :: topV :: []), [some ⟨.view, .bytes bs⟩, some ⟨.view, .bytes ms⟩, some ⟨.row 36 2, .ints (flat gs)⟩, some ⟨.row 3 1, .ints es⟩, some ⟨.row 3 1, .ints fs⟩]⟩
set_option maxRecDepth 100000 in
theorem tr_luA (bs ms : List Int) (gs : List Pt) (es fs : List Int) (t : Int) (i : Nat) : bodyL Try.prog ELe 30 12 noL 1 c_luA k_luA 5 (s_luA bs ms gs es fs t i) = brT (decide ((↑i : Int) < (↑es.length : Int))) (.need ((0 : Int) ≤ (↑i : Int) ∧ (↑i : Int) < (↑es.length : Int)) (.need ((0 : Nat) + (↑i : Int).toNat * (1 : Nat) < es.length) (.need ((0 : Int) ≤ es.getD ((0 : Nat) + (↑i : Int).toNat * (1 : Nat)) (0 : Int) ∧ es.getD ((0 : Nat) + (↑i : Int).toNat * (1 : Nat)) (0 : Int) < (↑gs.length : Int)) (.need ((0 : Nat) + (es.getD ((0 : Nat) + (↑i : Int).toNat * (1 : Nat)) (0 : Int)).toNat * (2 : Nat) + (0 : Nat) < (flat gs).length) (.need ((0 : Int) ≤ (↑i : Int) ∧ (↑i : Int) < (↑es.length : Int)) (.need ((0 : Nat) + (↑i : Int).toNat * (1 : Nat) < es.length) (.need ((0 : Int) ≤ es.getD ((0 : Nat) + (↑i : Int).toNat * (1 : Nat)) (0 : Int) ∧ es.getD ((0 : Nat) + (↑i : Int).toNat * (1 : Nat)) (0 : Int) < (↑gs.length : Int)) (.need ((0 : Nat) + (es.getD ((0 : Nat) + (↑i : Int).toNat * (1 : Nat)) (0 : Int)).toNat * (2 : Nat) + (1 : Nat) < (flat gs).length) (.need ((0 : Int) ≤ (↑i : Int) ∧ (↑i : Int) < (↑es.length : Int)) (.need ((0 : Nat) + (↑i : Int).toNat * (1 : Nat) < es.length) (.need ((0 : Int) ≤ es.getD ((0 : Nat) + (↑i : Int).toNat * (1 : Nat)) (0 : Int) ∧ es.getD ((0 : Nat) + (↑i : Int).toNat * (1 : Nat)) (0 : Int) < (↑gs.length : Int)) (.need ((0 : Nat) + (es.getD ((0 : Nat) + (↑i : Int).toNat * (1 : Nat)) (0 : Int)).toNat * (2 : Nat) + (0 : Nat) < (flat gs).length) (.need ((0 : Int) ≤ IntKind.i64.wrap ((↑i : Int) - (1 : Int)) ∧ IntKind.i64.wrap ((↑i : Int) - (1 : Int)) < (↑es.length : Int)) (.need ((0 : Nat) + (IntKind.i64.wrap ((↑i : Int) - (1 : Int))).toNat * (1 : Nat) < es.length) (.need ((0 : Int) ≤ es.getD ((0 : Nat) + (IntKind.i64.wrap ((↑i : Int) - (1 : Int))).toNat * (1 : Nat)) (0 : Int) ∧ es.getD ((0 : Nat) + (IntKind.i64.wrap ((↑i : Int) - (1 : Int))).toNat * (1 : Nat)) (0 : Int) < (↑gs.length : Int)) (.need ((0 : Nat) + (es.getD ((0 : Nat) + (IntKind.i64.wrap ((↑i : Int) - (1 : Int))).toNat * (1 : Nat)) (0 : Int)).toNat * (2 : Nat) + (0 : Nat) < (flat gs).length) (brT (decide ((flat gs).getD (0 + (es.getD (0 + (↑i : Int).toNat * 1) 0).toNat * 2 + 0) 0 ≤ (flat gs).getD (0 + (es.getD (0 + (IntKind.i64.wrap ((↑i : Int) - 1)).toNat * 1) 0).toNat * 2 + 0) 0)) (.leaf .ret ⟨(topV :: topV :: topV :: topV :: .bool (false) :: topV :: topV :: topV :: topV :: topV :: topV :: topV :: topV :: topV :: topV :: topV :: topV :: topV :: topV :: topV :: topV :: topV :: topV :: topV :: topV :: topV :: topV :: topV :: topV :: topV :: topV :: topV :: topV :: topV :: topV :: topV :: topV :: topV :: topV :: topV :: topV :: topV :: topV :: topV :: topV :: topV :: topV :: topV :: topV :: topV :: topV :: topV :: topV :: topV :: topV :: topV :: topV :: topV :: topV :: topV :: topV :: topV :: topV :: topV :: topV :: topV :: topV :: topV :: topV :: topV :: topV :: topV :: topV :: topV :: topV :: topV :: topV :: topV :: topV :: topV :: topV :: topV :: topV :: topV :: topV :: topV :: topV :: topV :: topV :: topV :: topV :: topV :: topV :: topV :: topV :: topV :: topV :: topV :: topV :: topV :: topV :: topV :: topV :: topV :: topV :: topV :: topV :: topV :: topV :: topV :: topV :: topV :: topV :: topV :: topV :: topV :: topV :: topV :: topV :: topV :: topV :: topV :: topV :: topV :: []), [some ⟨.view, .bytes (bs)⟩, some ⟨.view, .bytes (ms)⟩, some ⟨.row 36 2, .ints (flat gs)⟩, some ⟨.row 3 1, .ints (es)⟩, some ⟨.row 3 1, .ints (fs)⟩]⟩) (.leaf .normal ⟨(topV :: topV :: topV :: topV :: topV :: .slice (some ⟨2, 0, none⟩) (gs.length) (gs.length) :: .slice (some ⟨3, 0, none⟩) (es.length) (es.length) :: .int .i64 (t) :: .int .i64 (if bsU gs es t (i - 1) < IntKind.i64.wrap (IntKind.i64.wrap ((flat gs).getD (0 + (es.getD (0 + (↑i : Int).toNat * 1) 0).toNat * 2 + 0) 0 * t) - (flat gs).getD (0 + (es.getD (0 + (↑i : Int).toNat * 1) 0).toNat * 2 + 1) 0) then IntKind.i64.wrap (IntKind.i64.wrap ((flat gs).getD (0 + (es.getD (0 + (↑i : Int).toNat * 1) 0).toNat * 2 + 0) 0 * t) - (flat gs).getD (0 + (es.getD (0 + (↑i : Int).toNat * 1) 0).toNat * 2 + 1) 0) else bsU gs es t (i - 1)) :: .int .i64 (IntKind.i64.wrap ((↑i : Int) + 1)) :: topV :: topV :: topV :: topV :: topV :: topV :: topV :: topV :: topV :: topV :: topV :: topV :: topV :: topV :: topV :: topV :: topV :: topV :: topV :: topV :: topV :: topV :: topV :: topV :: topV :: topV :: topV :: topV :: topV :: topV :: topV :: topV :: topV :: topV :: topV :: topV :: topV :: topV :: topV :: topV :: topV :: topV :: topV :: topV :: topV :: topV :: topV :: topV :: topV :: topV :: topV :: topV :: topV :: topV :: topV :: topV :: topV :: topV :: topV :: topV :: topV :: topV :: topV :: topV :: topV :: topV :: topV :: topV :: topV :: topV :: topV :: topV :: topV :: topV :: topV :: topV :: topV :: topV :: topV :: topV :: topV :: topV :: topV :: topV :: topV :: topV :: topV :: topV :: topV :: topV :: topV :: topV :: topV :: topV :: topV :: topV :: topV :: topV :: topV :: topV :: topV :: topV :: topV :: topV :: topV :: topV :: topV :: topV :: topV :: topV :: topV :: topV :: topV :: topV :: []), [some ⟨.view, .bytes (bs)⟩, some ⟨.view, .bytes (ms)⟩, some ⟨.row 36 2, .ints (flat gs)⟩, some ⟨.row 3 1, .ints (es)⟩, some ⟨.row 3 1, .ints (fs)⟩]⟩)))))))))))))))))) (.leaf (.exit 0) ⟨(topV :: topV :: topV :: topV :: topV :: .slice (some ⟨2, 0, none⟩) (gs.length) (gs.length) :: topV :: .int .i64 (t) :: .int .i64 (bsU gs es t (i - 1)) :: topV :: topV :: topV :: topV :: topV :: topV :: topV :: topV :: topV :: topV :: topV :: topV :: topV :: topV :: topV :: topV :: topV :: topV :: topV :: topV :: topV :: topV :: topV :: topV :: topV :: topV :: topV :: topV :: topV :: topV :: topV :: topV :: topV :: topV :: topV :: topV :: topV :: topV :: topV :: topV :: topV :: topV :: topV :: topV :: topV :: topV :: topV :: topV :: topV :: topV :: topV :: topV :: topV :: topV :: topV :: topV :: topV :: topV :: topV :: topV :: topV :: topV :: topV :: topV :: topV :: topV :: topV :: topV :: topV :: topV :: topV :: topV :: topV :: topV :: topV :: topV :: topV :: topV :: topV :: topV :: topV :: topV :: topV :: topV :: topV :: topV :: topV :: topV :: topV :: topV :: topV :: topV :: topV :: topV :: topV :: topV :: topV :: topV :: topV :: topV :: topV :: topV :: topV :: topV :: topV :: topV :: topV :: topV :: topV :: topV :: topV :: topV :: topV :: topV :: topV :: []), [some ⟨.view, .bytes (bs)⟩, some ⟨.view, .bytes (ms)⟩, some ⟨.row 36 2, .ints (flat gs)⟩, some ⟨.row 3 1, .ints (es)⟩, some ⟨.row 3 1, .ints (fs)⟩]⟩) := by kernel_rfl
set_option maxRecDepth 100000 in
theorem nl_luA : loopsOf c_luA = [] := by kernel_rfl
def inv_luA (bs ms : List Int) (gs : List Pt) (es fs : List Int) (t : Int) : Nat → Prop := fun i => 1 ≤ i ∧ i ≤ es.length
def me_luA (bs ms : List Int) (gs : List Pt) (es fs : List Int) (t : Int) : Nat → Nat := fun i => es.length - i
/-- A round of this loop. -/
def Round_luA (bs ms : List Int) (gs : List Pt) (es fs : List Int) (t : Int) : Prop := ∀ xx : Nat, inv_luA bs ms gs es fs t xx → (bodyL Try.prog ELe 30 12 noL 1 c_luA k_luA 5 (s_luA bs ms gs es fs t xx)).ok (RoundEnd 5 (s_luA bs ms gs es fs t) (inv_luA bs ms gs es fs t) (me_luA bs ms gs es fs t) re_luA (rs_luA bs ms gs es fs t) xx) (fun _ _ => False)
def e_luA (s : St) (k : Ex → St → Tree) : Option Tree := match Nat.beq s.tmps.length 124, pickL s.tmps [5, 6, 7, 8, 9], s.mem with
  | true, [.slice (some ⟨2, 0, none⟩) n _, .slice (some ⟨3, 0, none⟩) m _, .int .i64 t, .int .i64 b0, .int .i64 ii], [some ⟨.view, .bytes bs⟩, some ⟨.view, .bytes ms⟩, some ⟨.row 36 2, .ints xs⟩, some ⟨.row 3 1, .ints es⟩, some ⟨.row 3 1, .ints fs⟩] => some (needs [ii = 1, xs.length = n * 2, m = es.length, UeOk (ptsA n xs) es, b0 = bsU (ptsA n xs) es t 0, -30 ≤ t ∧ t ≤ 30] (k (.exit 0) ⟨(topV :: topV :: topV :: topV :: topV :: .slice (some ⟨2, 0, none⟩) n n :: topV :: .int .i64 t :: .int .i64 (bsU (ptsA n xs) es t (m - 1)) :: topV :: topV :: topV :: topV :: topV :: topV :: topV :: topV :: topV :: topV :: topV :: topV :: topV :: topV :: topV :: topV :: topV :: topV :: topV :: topV :: topV :: topV :: topV :: topV :: topV :: topV :: topV :: topV :: topV :: topV :: topV :: topV :: topV :: topV :: topV :: topV :: topV :: topV :: topV :: topV :: topV :: topV :: topV :: topV :: topV :: topV :: topV :: topV :: topV :: topV :: topV :: topV :: topV :: topV :: topV :: topV :: topV :: topV :: topV :: topV :: topV :: topV :: topV :: topV :: topV :: topV :: topV :: topV :: topV :: topV :: topV :: topV :: topV :: topV :: topV :: topV :: topV :: topV :: topV :: topV :: topV :: topV :: topV :: topV :: topV :: topV :: topV :: topV :: topV :: topV :: topV :: topV :: topV :: topV :: topV :: topV :: topV :: topV :: topV :: topV :: topV :: topV :: topV :: topV :: topV :: topV :: topV :: topV :: topV :: topV :: topV :: topV :: topV :: topV :: topV :: []), [some ⟨.view, .bytes bs⟩, some ⟨.view, .bytes ms⟩, some ⟨.row 36 2, .ints xs⟩, some ⟨.row 3 1, .ints es⟩, some ⟨.row 3 1, .ints fs⟩]⟩))
  | _, _, _ => none
noncomputable def c_luB : Code := ((loopsOf (codeOf Try.f4))[1]?).getD .skip
def k_luB : Ex → List Nat := keeps [5, 7, 8, 10] [(2, [])] [4]
def s_luB (bs ms : List Int) (gs : List Pt) (es fs : List Int) (t b : Int) : Nat → St := fun i => ⟨(topV :: topV :: topV :: topV :: topV :: .slice (some ⟨2, 0, none⟩) gs.length gs.length :: topV :: .int .i64 t :: .int .i64 b :: topV :: .int .i64 i :: topV :: topV :: topV :: topV :: topV :: topV :: topV :: topV :: topV :: topV :: topV :: topV :: topV :: topV :: topV :: topV :: topV :: topV :: topV :: topV :: topV :: topV :: topV :: topV :: topV :: topV :: topV :: topV :: topV :: topV :: topV :: topV :: topV :: topV :: topV :: topV :: topV :: topV :: topV :: topV :: topV :: topV :: topV :: topV :: topV :: topV :: topV :: topV :: topV :: topV :: topV :: topV :: topV :: topV :: topV :: topV :: topV :: topV :: topV :: topV :: topV :: topV :: topV :: topV :: topV :: topV :: topV :: topV :: topV :: topV :: topV :: topV :: topV :: topV :: topV :: topV :: topV :: topV :: topV :: topV :: topV :: topV :: topV :: topV :: topV :: topV :: topV :: topV :: topV :: topV :: topV :: topV :: topV :: topV :: topV :: topV :: topV :: topV :: topV :: topV :: topV :: topV :: topV :: topV :: topV :: topV :: topV :: topV :: topV :: topV :: topV :: topV :: topV :: []), [some ⟨.view, .bytes bs⟩, some ⟨.view, .bytes ms⟩, some ⟨.row 36 2, .ints (flat gs)⟩, some ⟨.row 3 1, .ints es⟩, some ⟨.row 3 1, .ints fs⟩]⟩
def re_luB : Nat → Ex := fun _ => .exit 2
def rs_luB (bs ms : List Int) (gs : List Pt) (es fs : List Int) (t b : Int) : Nat → St := fun i => ⟨(topV :: topV :: topV :: topV :: topV :: topV :: topV :: topV :: topV :: topV :: topV :: topV :: topV :: topV :: topV :: topV :: topV :: topV :: topV :: topV :: topV :: topV :: topV :: topV :: topV :: topV :: topV :: topV :: topV :: topV :: topV :: topV :: topV :: topV :: topV :: topV :: topV :: topV :: topV :: topV :: topV :: topV :: topV :: topV :: topV :: topV :: topV :: topV :: topV :: topV :: topV :: topV :: topV :: topV :: topV :: topV :: topV :: topV :: topV :: topV :: topV :: topV :: topV :: topV :: topV :: topV :: topV :: topV :: topV :: topV :: topV :: topV :: topV :: topV :: topV :: topV :: topV :: topV :: topV :: topV :: topV :: topV :: topV :: topV :: topV :: topV :: topV :: topV :: topV :: topV :: topV :: topV :: topV :: topV :: topV :: topV :: topV :: topV :: topV :: topV :: topV :: topV :: topV :: topV :: topV :: topV :: topV :: topV :: topV :: topV :: topV :: topV :: topV :: topV :: topV :: topV :: topV :: topV :: topV :: topV :: topV :: topV :: topV :: topV :: []), [some ⟨.view, .bytes bs⟩, some ⟨.view, .bytes ms⟩, some ⟨.row 36 2, .ints (flat gs)⟩, some ⟨.row 3 1, .ints es⟩, some ⟨.row 3 1, .ints fs⟩]⟩
set_option maxRecDepth 100000 in
theorem tr_luB (bs ms : List Int) (gs : List Pt) (es fs : List Int) (t b : Int) (i : Nat) : bodyL Try.prog ELe 30 12 noL 2 c_luB k_luB 5 (s_luB bs ms gs es fs t b i) = brT (decide ((↑i : Int) < (↑gs.length : Int))) (.need ((0 : Int) ≤ (↑i : Int) ∧ (↑i : Int) < (↑gs.length : Int)) (.need ((0 : Nat) + (↑i : Int).toNat * (2 : Nat) + (0 : Nat) < (flat gs).length) (.need ((0 : Int) ≤ (↑i : Int) ∧ (↑i : Int) < (↑gs.length : Int)) (.need ((0 : Nat) + (↑i : Int).toNat * (2 : Nat) + (1 : Nat) < (flat gs).length) (brT (decide (b < IntKind.i64.wrap (IntKind.i64.wrap ((flat gs).getD (0 + (↑i : Int).toNat * 2 + 0) 0 * t) - (flat gs).getD (0 + (↑i : Int).toNat * 2 + 1) 0))) (.leaf .ret ⟨(topV :: topV :: topV :: topV :: .bool (false) :: topV :: topV :: topV :: topV :: topV :: topV :: topV :: topV :: topV :: topV :: topV :: topV :: topV :: topV :: topV :: topV :: topV :: topV :: topV :: topV :: topV :: topV :: topV :: topV :: topV :: topV :: topV :: topV :: topV :: topV :: topV :: topV :: topV :: topV :: topV :: topV :: topV :: topV :: topV :: topV :: topV :: topV :: topV :: topV :: topV :: topV :: topV :: topV :: topV :: topV :: topV :: topV :: topV :: topV :: topV :: topV :: topV :: topV :: topV :: topV :: topV :: topV :: topV :: topV :: topV :: topV :: topV :: topV :: topV :: topV :: topV :: topV :: topV :: topV :: topV :: topV :: topV :: topV :: topV :: topV :: topV :: topV :: topV :: topV :: topV :: topV :: topV :: topV :: topV :: topV :: topV :: topV :: topV :: topV :: topV :: topV :: topV :: topV :: topV :: topV :: topV :: topV :: topV :: topV :: topV :: topV :: topV :: topV :: topV :: topV :: topV :: topV :: topV :: topV :: topV :: topV :: topV :: topV :: topV :: []), [some ⟨.view, .bytes (bs)⟩, some ⟨.view, .bytes (ms)⟩, some ⟨.row 36 2, .ints (flat gs)⟩, some ⟨.row 3 1, .ints (es)⟩, some ⟨.row 3 1, .ints (fs)⟩]⟩) (.leaf .normal ⟨(topV :: topV :: topV :: topV :: topV :: .slice (some ⟨2, 0, none⟩) (gs.length) (gs.length) :: topV :: .int .i64 (t) :: .int .i64 (b) :: topV :: .int .i64 (IntKind.i64.wrap ((↑i : Int) + 1)) :: topV :: topV :: topV :: topV :: topV :: topV :: topV :: topV :: topV :: topV :: topV :: topV :: topV :: topV :: topV :: topV :: topV :: topV :: topV :: topV :: topV :: topV :: topV :: topV :: topV :: topV :: topV :: topV :: topV :: topV :: topV :: topV :: topV :: topV :: topV :: topV :: topV :: topV :: topV :: topV :: topV :: topV :: topV :: topV :: topV :: topV :: topV :: topV :: topV :: topV :: topV :: topV :: topV :: topV :: topV :: topV :: topV :: topV :: topV :: topV :: topV :: topV :: topV :: topV :: topV :: topV :: topV :: topV :: topV :: topV :: topV :: topV :: topV :: topV :: topV :: topV :: topV :: topV :: topV :: topV :: topV :: topV :: topV :: topV :: topV :: topV :: topV :: topV :: topV :: topV :: topV :: topV :: topV :: topV :: topV :: topV :: topV :: topV :: topV :: topV :: topV :: topV :: topV :: topV :: topV :: topV :: topV :: topV :: topV :: topV :: topV :: topV :: topV :: []), [some ⟨.view, .bytes (bs)⟩, some ⟨.view, .bytes (ms)⟩, some ⟨.row 36 2, .ints (flat gs)⟩, some ⟨.row 3 1, .ints (es)⟩, some ⟨.row 3 1, .ints (fs)⟩]⟩)))))) (.leaf (.exit 2) ⟨(topV :: topV :: topV :: topV :: topV :: topV :: topV :: topV :: topV :: topV :: topV :: topV :: topV :: topV :: topV :: topV :: topV :: topV :: topV :: topV :: topV :: topV :: topV :: topV :: topV :: topV :: topV :: topV :: topV :: topV :: topV :: topV :: topV :: topV :: topV :: topV :: topV :: topV :: topV :: topV :: topV :: topV :: topV :: topV :: topV :: topV :: topV :: topV :: topV :: topV :: topV :: topV :: topV :: topV :: topV :: topV :: topV :: topV :: topV :: topV :: topV :: topV :: topV :: topV :: topV :: topV :: topV :: topV :: topV :: topV :: topV :: topV :: topV :: topV :: topV :: topV :: topV :: topV :: topV :: topV :: topV :: topV :: topV :: topV :: topV :: topV :: topV :: topV :: topV :: topV :: topV :: topV :: topV :: topV :: topV :: topV :: topV :: topV :: topV :: topV :: topV :: topV :: topV :: topV :: topV :: topV :: topV :: topV :: topV :: topV :: topV :: topV :: topV :: topV :: topV :: topV :: topV :: topV :: topV :: topV :: topV :: topV :: topV :: topV :: []), [some ⟨.view, .bytes (bs)⟩, some ⟨.view, .bytes (ms)⟩, some ⟨.row 36 2, .ints (flat gs)⟩, some ⟨.row 3 1, .ints (es)⟩, some ⟨.row 3 1, .ints (fs)⟩]⟩) := by kernel_rfl
set_option maxRecDepth 100000 in
theorem nl_luB : loopsOf c_luB = [] := by kernel_rfl
def inv_luB (bs ms : List Int) (gs : List Pt) (es fs : List Int) (t b : Int) : Nat → Prop := fun i => i ≤ gs.length
def me_luB (bs ms : List Int) (gs : List Pt) (es fs : List Int) (t b : Int) : Nat → Nat := fun i => gs.length - i
/-- A round of this loop. -/
def Round_luB (bs ms : List Int) (gs : List Pt) (es fs : List Int) (t b : Int) : Prop := ∀ xx : Nat, inv_luB bs ms gs es fs t b xx → (bodyL Try.prog ELe 30 12 noL 2 c_luB k_luB 5 (s_luB bs ms gs es fs t b xx)).ok (RoundEnd 5 (s_luB bs ms gs es fs t b) (inv_luB bs ms gs es fs t b) (me_luB bs ms gs es fs t b) re_luB (rs_luB bs ms gs es fs t b) xx) (fun _ _ => False)
def e_luB (s : St) (k : Ex → St → Tree) : Option Tree := match Nat.beq s.tmps.length 124, pickL s.tmps [5, 7, 8, 10], s.mem with
  | true, [.slice (some ⟨2, 0, none⟩) n _, .int .i64 t, .int .i64 b, .int .i64 ii], [some ⟨.view, .bytes bs⟩, some ⟨.view, .bytes ms⟩, some ⟨.row 36 2, .ints xs⟩, some ⟨.row 3 1, .ints es⟩, some ⟨.row 3 1, .ints fs⟩] => some (needs [ii = 0, xs.length = n * 2, UeOk (ptsA n xs) es, b = bsU (ptsA n xs) es t (es.length - 1), -30 ≤ t ∧ t ≤ 30] (k (.exit 2) ⟨(topV :: topV :: topV :: topV :: topV :: topV :: topV :: topV :: topV :: topV :: topV :: topV :: topV :: topV :: topV :: topV :: topV :: topV :: topV :: topV :: topV :: topV :: topV :: topV :: topV :: topV :: topV :: topV :: topV :: topV :: topV :: topV :: topV :: topV :: topV :: topV :: topV :: topV :: topV :: topV :: topV :: topV :: topV :: topV :: topV :: topV :: topV :: topV :: topV :: topV :: topV :: topV :: topV :: topV :: topV :: topV :: topV :: topV :: topV :: topV :: topV :: topV :: topV :: topV :: topV :: topV :: topV :: topV :: topV :: topV :: topV :: topV :: topV :: topV :: topV :: topV :: topV :: topV :: topV :: topV :: topV :: topV :: topV :: topV :: topV :: topV :: topV :: topV :: topV :: topV :: topV :: topV :: topV :: topV :: topV :: topV :: topV :: topV :: topV :: topV :: topV :: topV :: topV :: topV :: topV :: topV :: topV :: topV :: topV :: topV :: topV :: topV :: topV :: topV :: topV :: topV :: topV :: topV :: topV :: topV :: topV :: topV :: topV :: topV :: []), [some ⟨.view, .bytes bs⟩, some ⟨.view, .bytes ms⟩, some ⟨.row 36 2, .ints xs⟩, some ⟨.row 3 1, .ints es⟩, some ⟨.row 3 1, .ints fs⟩]⟩))
  | _, _, _ => none
theorem bsU_ge {gs : List Pt} {es : List Int} {t : Int} : ∀ k j, j ≤ k → hU gs es t j ≤ bsU gs es t k
  | 0, j, h => by
    obtain rfl : j = 0 := by omega
    exact Int.le_refl _
  | k + 1, j, h => by
    simp only [bsU]
    rcases Nat.lt_or_ge j (k + 1) with g | g
    · have := bsU_ge (gs := gs) (es := es) (t := t) k j (by omega)
      split <;> omega
    · obtain rfl : j = k + 1 := by omega
      split <;> omega
theorem UeOk.h {gs : List Pt} {es : List Int} (h : UeOk gs es) {t : Int} (ht : -30 ≤ t ∧ t ≤ 30) {k : Nat} (hk : k < gs.length) : IntKind.i64.wrap (IntKind.i64.wrap ((gs.getD k (0, 0)).1 * t) - (gs.getD k (0, 0)).2) = (gs.getD k (0, 0)).1 * t - (gs.getD k (0, 0)).2 := by
  have b := h.bd hk
  have m := mul_bd 1000 30 (x := (gs.getD k (0, 0)).1) (y := t) (by omega) (by omega)
  rw [wr (x := (gs.getD k (0, 0)).1 * t) (by omega)]
  exact wr (by omega)
set_option maxRecDepth 100000 in
theorem round_luA (bs ms : List Int) (gs : List Pt) (es fs : List Int) (t : Int) (h : UeOk gs es) (ht : -30 ≤ t ∧ t ≤ 30) : Round_luA bs ms gs es fs t := by
  rintro i ⟨h1, h2⟩
  rw [tr_luA]
  have fl := flat_length gs
  have he := h.el
  have hle := h.le
  have w : IntKind.i64.wrap ((i : Int) - 1) = ((i - 1 : Nat) : Int) := by rw [wr (by omega)]; omega
  simp only [w, Int.toNat_natCast, Nat.zero_add, Nat.add_zero, Nat.mul_one, flat_get0, flat_get1]
  refine brT_ok.2 ⟨fun hlt => ?_, fun hge => ?_⟩
  · have hi : i < es.length := by have := of_decide_eq_true hlt; omega
    have hj : i - 1 < es.length := by omega
    have r0 := h.rng hi
    have r1 := h.rng hj
    have up := List.pairwise_iff_getElem.1 (ueC_up gs) (i - 1) i (by rw [h.len]; exact hj) (by rw [h.len]; exact hi) (by omega)
    have u1 : (ueC gs)[i - 1]'(by rw [h.len]; exact hj) = (ueC gs).getD (i - 1) (0, 0) := by simp [List.getD, h.len, hj]
    have u2 : (ueC gs)[i]'(by rw [h.len]; exact hi) = (ueC gs).getD i (0, 0) := by simp [List.getD, h.len, hi]
    rw [u1, u2, ← h.at hj, ← h.at hi] at up
    have c1 : decide ((gs.getD (es.getD i 0).toNat (0, 0)).1 ≤ (gs.getD (es.getD (i - 1) 0).toNat (0, 0)).1) = false := decide_eq_false (by omega)
    rw [c1, wsucc (n := es.length) hi (by omega), h.h ht (k := (es.getD i 0).toNat) (by omega)]
    have eb : bsU gs es t i = if bsU gs es t (i - 1) < hU gs es t i then hU gs es t i else bsU gs es t (i - 1) := by
      obtain ⟨j, rfl⟩ : ∃ j, i = j + 1 := ⟨i - 1, by omega⟩
      rfl
    have eh : (gs.getD (es.getD i 0).toNat (0, 0)).1 * t - (gs.getD (es.getD i 0).toNat (0, 0)).2 = hU gs es t i := rfl
    rw [eh, ← eb]
    simp only [brT_f, Tree.ok]
    repeat (refine And.intro (by omega) ?_)
    refine ⟨i + 1, [], ⟨by omega, by omega⟩, ?_, rfl, rfl, ?_⟩
    · show es.length - (i + 1) < es.length - i; omega
    · repeat' (first | exact True.intro | exact rfl | exact fun _ => rfl | (simp; done) | refine And.intro ?_ ?_)
  · have hge := of_decide_eq_false hge
    obtain rfl : i = es.length := by omega
    refine ⟨rfl, [], ?_⟩
    repeat' (first | exact True.intro | exact rfl | exact fun _ => rfl | (simp; done) | refine And.intro ?_ ?_)
set_option maxRecDepth 100000 in
theorem lg_luA : LoopE Try.prog e_luA c_luA := by
  intro s k t F H hlt ht
  unfold e_luA at hlt
  split at hlt
  rotate_left
  · cases hlt
  rename_i hlen hpick hmem
  obtain ⟨tmps, mem⟩ := s
  simp only at hlen hpick hmem
  subst hmem
  obtain rfl := Option.some.inj hlt
  obtain ⟨⟨rfl, h1, h2, h3, h4, h5, _⟩, ht2⟩ := needs_ok ht
  clear ht hlt
  subst h2
  obtain ⟨gs, rfl, rfl⟩ := even_flat h1
  rw [ptsA_flat] at h3 h4 ht2
  subst h4
  refine ⟨_, _, ht2, loop_run mixed ELe_ok (s_luA _ _ gs _ _ _) (inv_luA _ _ gs _ _ _) (me_luA _ _ gs _ _ _) re_luA (rs_luA _ _ gs _ _ _) k_luA (fun _ => rfl) (noLoops nl_luA) (round_luA _ _ gs _ _ _ h3 h5) (x := 1) ⟨Nat.le_refl _, h3.pos⟩ (π := []) rfl ?_⟩
  refine ⟨rfl, rfl, ?_, wvs_spread' [5, 6, 7, 8, 9] hlen rfl ?_⟩
  · repeat' (first | exact True.intro | exact rfl | exact wv_top _ _ | exact fun _ => rfl | assumption | exact Eq.symm (by assumption) | exact vI0 rfl | refine And.intro ?_ ?_)
  · rw [hpick]
    repeat' (first | exact True.intro | exact rfl | exact wv_top _ _ | exact fun _ => rfl | assumption | exact Eq.symm (by assumption) | exact vI0 rfl | refine And.intro ?_ ?_)
set_option maxRecDepth 100000 in
theorem round_luB (bs ms : List Int) (gs : List Pt) (es fs : List Int) (t b : Int) (h : UeOk gs es) (hb : b = bsU gs es t (es.length - 1)) (ht : -30 ≤ t ∧ t ≤ 30) : Round_luB bs ms gs es fs t b := by
  intro i h1
  have h1 : i ≤ gs.length := h1
  rw [tr_luB]
  have fl := flat_length gs
  have hle := h.le
  simp only [Int.toNat_natCast, Nat.zero_add, Nat.add_zero, Nat.mul_one, flat_get0, flat_get1]
  refine brT_ok.2 ⟨fun hlt => ?_, fun hge => ?_⟩
  · have hi : i < gs.length := by have := of_decide_eq_true hlt; omega
    obtain ⟨v, v1, v2⟩ := ue_top gs t (h.mem hi)
    obtain ⟨k, k1, k2⟩ := List.getElem_of_mem v1
    have kl : k < es.length := by rw [← h.len]; exact k1
    have g1 := bsU_ge (gs := gs) (es := es) (t := t) (es.length - 1) k (by omega)
    have g2 : hU gs es t k = fT t v := by
      unfold hU fT
      rw [h.at kl, ← k2]
      simp [List.getD, k1]
    rw [← hb, g2] at g1
    unfold fT at v2 g1
    have c1 : decide (b < (gs.getD i (0, 0)).1 * t - (gs.getD i (0, 0)).2) = false := decide_eq_false (by omega)
    rw [h.h ht hi, c1, wsucc (n := gs.length) hi (by omega)]
    simp only [brT_f, Tree.ok]
    repeat (refine And.intro (by omega) ?_)
    refine ⟨i + 1, [], ?_, ?_, rfl, rfl, ?_⟩
    · show i + 1 ≤ gs.length; omega
    · show gs.length - (i + 1) < gs.length - i; omega
    · repeat' (first | exact True.intro | exact rfl | exact fun _ => rfl | (simp; done) | refine And.intro ?_ ?_)
  · refine ⟨rfl, [], ?_⟩
    repeat' (first | exact True.intro | exact rfl | exact fun _ => rfl | (simp; done) | refine And.intro ?_ ?_)
set_option maxRecDepth 100000 in
theorem lg_luB : LoopE Try.prog e_luB c_luB := by
  intro s k t F H hlt ht
  unfold e_luB at hlt
  split at hlt
  rotate_left
  · cases hlt
  rename_i hlen hpick hmem
  obtain ⟨tmps, mem⟩ := s
  simp only at hlen hpick hmem
  subst hmem
  obtain rfl := Option.some.inj hlt
  obtain ⟨⟨rfl, h1, h3, h4, h5, _⟩, ht2⟩ := needs_ok ht
  clear ht hlt
  obtain ⟨gs, rfl, rfl⟩ := even_flat h1
  rw [ptsA_flat] at h3 h4
  refine ⟨_, _, ht2, loop_run mixed ELe_ok (s_luB _ _ gs _ _ _ _) (inv_luB _ _ gs _ _ _ _) (me_luB _ _ gs _ _ _ _) re_luB (rs_luB _ _ gs _ _ _ _) k_luB (fun _ => rfl) (noLoops nl_luB) (round_luB _ _ gs _ _ _ _ h3 h4 h5) (x := 0) (Nat.zero_le _) (π := []) rfl ?_⟩
  refine ⟨rfl, rfl, ?_, wvs_spread' [5, 7, 8, 10] hlen rfl ?_⟩
  · repeat' (first | exact True.intro | exact rfl | exact wv_top _ _ | exact fun _ => rfl | assumption | exact Eq.symm (by assumption) | exact vI0 rfl | refine And.intro ?_ ?_)
  · rw [hpick]
    repeat' (first | exact True.intro | exact rfl | exact wv_top _ _ | exact fun _ => rfl | assumption | exact Eq.symm (by assumption) | exact vI0 rfl | refine And.intro ?_ ?_)
def ltLu : LT := fun j s k => match j with
  | 0 => e_luA s k
  | 1 => e_luB s k
  | _ => none
set_option maxRecDepth 100000 in
theorem in_Lu : loopsOf (codeOf Try.f4) = [c_luA, c_luB] := by kernel_rfl
theorem ltLu_good : LoopsGood Try.prog ltLu 0 (codeOf Try.f4) := by
  intro i d hd s k t F H hlt ht
  rw [in_Lu] at hd
  match i, hd with
  | 0, hd =>
    obtain rfl : c_luA = d := by simpa using hd
    exact lg_luA s k t F H hlt ht
  | 1, hd =>
    obtain rfl : c_luB = d := by simpa using hd
    exact lg_luB s k t F H hlt ht
theorem Lr_Lu {fn : Func} (hf : Try.prog.funcs[4]? = some fn) : LoopsGood Try.prog ltLu 0 (codeOf fn) := by
  obtain rfl := fn_is Try.func4 hf
  exact ltLu_good
def LLu : FuncId → LT := fun f => match f with
  | 4 => ltLu
  | _ => noL
def ELu : Env := mkE TLe RLe LLu
theorem ELu_ok : EnvOk Try.prog ELu := mkEOk TLe_ok RLe_ok (by
  intro f fn hf
  unfold LLu
  split
  all_goals first | with_reducible exact Lr_Lu hf | exact noL_good)
end Go.Proofs.Ytolodncpegajkab
namespace Go.Proofs.Ytolodncpegajkab
set_option linter.all false
open Go.RowKit
set_option maxRecDepth 100000 in
theorem tr_luf (bs ms : List Int) : bodyV Try.prog ELu 30 12 4 [.row bs.length (.bytes bs), .row ms.length (.bytes ms)] = brT (decide (1048576 < (↑bs.length : Int))) (.fin (.bool (true)) []) (brT (decide (1048576 < (↑ms.length : Int))) (.fin (.bool (true)) []) (.need (Bytes (List.drop (0 : Nat) bs)) (.need (bs.length ≤ (List.drop (0 : Nat) bs).length) (.need ((agsL (List.drop (0 : Nat) bs) (rdL bs.length) (0 : Int)).length * (2 : Nat) ≤ (List.drop (0 : Nat) (flat (agsL (List.drop (0 : Nat) bs) (rdL bs.length) (0 : Int)))).length) (.need ((agsL (List.drop (0 : Nat) bs) (rdL bs.length) (0 : Int)).length ≤ (1000000000 : Nat)) (.need ((agsL (List.drop (0 : Nat) bs) (rdL bs.length) (0 : Int)).length * (2 : Nat) ≤ (List.drop (0 : Nat) (flat (agsL (List.drop (0 : Nat) bs) (rdL bs.length) (0 : Int)))).length) (.need ((agsL (List.drop (0 : Nat) bs) (rdL bs.length) (0 : Int)).length ≤ (1000000000 : Nat)) (.need ((ueS (ptsA (agsL (List.drop (0 : Nat) bs) (rdL bs.length) (0 : Int)).length (List.drop (0 : Nat) (flat (agsL (List.drop (0 : Nat) bs) (rdL bs.length) (0 : Int)))))).length = (ueS (ptsA (agsL (List.drop (0 : Nat) bs) (rdL bs.length) (0 : Int)).length (List.drop (0 : Nat) (flat (agsL (List.drop (0 : Nat) bs) (rdL bs.length) (0 : Int)))))).length) (.need (List.drop (0 : Nat) (ueS (ptsA (agsL (List.drop (0 : Nat) bs) (rdL bs.length) (0 : Int)).length (List.drop (0 : Nat) (flat (agsL (List.drop (0 : Nat) bs) (rdL bs.length) (0 : Int)))))) = List.drop (0 : Nat) (ueS (ptsA (agsL (List.drop (0 : Nat) bs) (rdL bs.length) (0 : Int)).length (List.drop (0 : Nat) (flat (agsL (List.drop (0 : Nat) bs) (rdL bs.length) (0 : Int))))))) (.need ((ueS (ptsA (agsL (List.drop (0 : Nat) bs) (rdL bs.length) (0 : Int)).length (List.drop (0 : Nat) (flat (agsL (List.drop (0 : Nat) bs) (rdL bs.length) (0 : Int)))))).length ≤ (List.drop (0 : Nat) (ueS (ptsA (agsL (List.drop (0 : Nat) bs) (rdL bs.length) (0 : Int)).length (List.drop (0 : Nat) (flat (agsL (List.drop (0 : Nat) bs) (rdL bs.length) (0 : Int))))))).length) (.need (Lim (ueS (ptsA (agsL (List.drop (0 : Nat) bs) (rdL bs.length) (0 : Int)).length (List.drop (0 : Nat) (flat (agsL (List.drop (0 : Nat) bs) (rdL bs.length) (0 : Int)))))).length) (brT ((↑(ueS (ptsA (agsL (List.drop 0 bs) (rdL bs.length) 0).length (List.drop 0 (flat (agsL (List.drop 0 bs) (rdL bs.length) 0))))).length : Int) == 0) (.need ((agsL (List.drop (0 : Nat) bs) (rdL bs.length) (0 : Int)).length * (2 : Nat) ≤ (List.drop (0 : Nat) (flat (agsL (List.drop (0 : Nat) bs) (rdL bs.length) (0 : Int)))).length) (.need ((agsL (List.drop (0 : Nat) bs) (rdL bs.length) (0 : Int)).length ≤ (1000000000 : Nat)) (.need ((ueS (ptsA (agsL (List.drop (0 : Nat) bs) (rdL bs.length) (0 : Int)).length (List.drop (0 : Nat) (flat (agsL (List.drop (0 : Nat) bs) (rdL bs.length) (0 : Int)))))).length = (ueS (ptsA (agsL (List.drop (0 : Nat) bs) (rdL bs.length) (0 : Int)).length (List.drop (0 : Nat) (flat (agsL (List.drop (0 : Nat) bs) (rdL bs.length) (0 : Int)))))).length) (.need (List.drop (0 : Nat) (ueS (ptsA (agsL (List.drop (0 : Nat) bs) (rdL bs.length) (0 : Int)).length (List.drop (0 : Nat) (flat (agsL (List.drop (0 : Nat) bs) (rdL bs.length) (0 : Int)))))) = List.drop (0 : Nat) (ueS (ptsA (agsL (List.drop (0 : Nat) bs) (rdL bs.length) (0 : Int)).length (List.drop (0 : Nat) (flat (agsL (List.drop (0 : Nat) bs) (rdL bs.length) (0 : Int))))))) (.need ((ueS (ptsA (agsL (List.drop (0 : Nat) bs) (rdL bs.length) (0 : Int)).length (List.drop (0 : Nat) (flat (agsL (List.drop (0 : Nat) bs) (rdL bs.length) (0 : Int)))))).length ≤ (List.drop (0 : Nat) (ueS (ptsA (agsL (List.drop (0 : Nat) bs) (rdL bs.length) (0 : Int)).length (List.drop (0 : Nat) (flat (agsL (List.drop (0 : Nat) bs) (rdL bs.length) (0 : Int))))))).length) (.need (Lim (ueS (ptsA (agsL (List.drop (0 : Nat) bs) (rdL bs.length) (0 : Int)).length (List.drop (0 : Nat) (flat (agsL (List.drop (0 : Nat) bs) (rdL bs.length) (0 : Int)))))).length) (.fin (.bool (true)) []))))))) (.need (¬(60 : Int) = (0 : Int)) (.need ((0 : Int) ≤ (0 : Int) ∧ (0 : Int) < (↑(ueS (ptsA (agsL (List.drop (0 : Nat) bs) (rdL bs.length) (0 : Int)).length (List.drop (0 : Nat) (flat (agsL (List.drop (0 : Nat) bs) (rdL bs.length) (0 : Int)))))).length : Int)) (.need ((0 : Nat) < (ueS (ptsA (agsL (List.drop (0 : Nat) bs) (rdL bs.length) (0 : Int)).length (List.drop (0 : Nat) (flat (agsL (List.drop (0 : Nat) bs) (rdL bs.length) (0 : Int)))))).length) (.need ((0 : Int) ≤ (ueS (ptsA (agsL (List.drop (0 : Nat) bs) (rdL bs.length) (0 : Int)).length (List.drop (0 : Nat) (flat (agsL (List.drop (0 : Nat) bs) (rdL bs.length) (0 : Int)))))).getD (0 : Nat) (0 : Int) ∧ (ueS (ptsA (agsL (List.drop (0 : Nat) bs) (rdL bs.length) (0 : Int)).length (List.drop (0 : Nat) (flat (agsL (List.drop (0 : Nat) bs) (rdL bs.length) (0 : Int)))))).getD (0 : Nat) (0 : Int) < (↑(agsL (List.drop (0 : Nat) bs) (rdL bs.length) (0 : Int)).length : Int)) (.need ((0 : Nat) + ((ueS (ptsA (agsL (List.drop (0 : Nat) bs) (rdL bs.length) (0 : Int)).length (List.drop (0 : Nat) (flat (agsL (List.drop (0 : Nat) bs) (rdL bs.length) (0 : Int)))))).getD (0 : Nat) (0 : Int)).toNat * (2 : Nat) + (0 : Nat) < (flat (agsL (List.drop (0 : Nat) bs) (rdL bs.length) (0 : Int))).length) (.need ((0 : Int) ≤ (0 : Int) ∧ (0 : Int) < (↑(ueS (ptsA (agsL (List.drop (0 : Nat) bs) (rdL bs.length) (0 : Int)).length (List.drop (0 : Nat) (flat (agsL (List.drop (0 : Nat) bs) (rdL bs.length) (0 : Int)))))).length : Int)) (.need ((0 : Nat) < (ueS (ptsA (agsL (List.drop (0 : Nat) bs) (rdL bs.length) (0 : Int)).length (List.drop (0 : Nat) (flat (agsL (List.drop (0 : Nat) bs) (rdL bs.length) (0 : Int)))))).length) (.need ((0 : Int) ≤ (ueS (ptsA (agsL (List.drop (0 : Nat) bs) (rdL bs.length) (0 : Int)).length (List.drop (0 : Nat) (flat (agsL (List.drop (0 : Nat) bs) (rdL bs.length) (0 : Int)))))).getD (0 : Nat) (0 : Int) ∧ (ueS (ptsA (agsL (List.drop (0 : Nat) bs) (rdL bs.length) (0 : Int)).length (List.drop (0 : Nat) (flat (agsL (List.drop (0 : Nat) bs) (rdL bs.length) (0 : Int)))))).getD (0 : Nat) (0 : Int) < (↑(agsL (List.drop (0 : Nat) bs) (rdL bs.length) (0 : Int)).length : Int)) (.need ((0 : Nat) + ((ueS (ptsA (agsL (List.drop (0 : Nat) bs) (rdL bs.length) (0 : Int)).length (List.drop (0 : Nat) (flat (agsL (List.drop (0 : Nat) bs) (rdL bs.length) (0 : Int)))))).getD (0 : Nat) (0 : Int)).toNat * (2 : Nat) + (1 : Nat) < (flat (agsL (List.drop (0 : Nat) bs) (rdL bs.length) (0 : Int))).length) (.need ((1 : Int) = (1 : Int)) (.need ((flat (agsL (List.drop (0 : Nat) bs) (rdL bs.length) (0 : Int))).length = (agsL (List.drop (0 : Nat) bs) (rdL bs.length) (0 : Int)).length * (2 : Nat)) (.need ((ueS (ptsA (agsL (List.drop (0 : Nat) bs) (rdL bs.length) (0 : Int)).length (List.drop (0 : Nat) (flat (agsL (List.drop (0 : Nat) bs) (rdL bs.length) (0 : Int)))))).length = (ueS (ptsA (agsL (List.drop (0 : Nat) bs) (rdL bs.length) (0 : Int)).length (List.drop (0 : Nat) (flat (agsL (List.drop (0 : Nat) bs) (rdL bs.length) (0 : Int)))))).length) (.need (UeOk (ptsA (agsL (List.drop (0 : Nat) bs) (rdL bs.length) (0 : Int)).length (flat (agsL (List.drop (0 : Nat) bs) (rdL bs.length) (0 : Int)))) (ueS (ptsA (agsL (List.drop (0 : Nat) bs) (rdL bs.length) (0 : Int)).length (List.drop (0 : Nat) (flat (agsL (List.drop (0 : Nat) bs) (rdL bs.length) (0 : Int))))))) (.need (IntKind.i64.wrap (IntKind.i64.wrap ((flat (agsL (List.drop (0 : Nat) bs) (rdL bs.length) (0 : Int))).getD ((0 : Nat) + ((ueS (ptsA (agsL (List.drop (0 : Nat) bs) (rdL bs.length) (0 : Int)).length (List.drop (0 : Nat) (flat (agsL (List.drop (0 : Nat) bs) (rdL bs.length) (0 : Int)))))).getD (0 : Nat) (0 : Int)).toNat * (2 : Nat) + (0 : Nat)) (0 : Int) * IntKind.i64.wrap ((↑ms.length : Int).tmod (60 : Int) - (30 : Int))) - (flat (agsL (List.drop (0 : Nat) bs) (rdL bs.length) (0 : Int))).getD ((0 : Nat) + ((ueS (ptsA (agsL (List.drop (0 : Nat) bs) (rdL bs.length) (0 : Int)).length (List.drop (0 : Nat) (flat (agsL (List.drop (0 : Nat) bs) (rdL bs.length) (0 : Int)))))).getD (0 : Nat) (0 : Int)).toNat * (2 : Nat) + (1 : Nat)) (0 : Int)) = bsU (ptsA (agsL (List.drop (0 : Nat) bs) (rdL bs.length) (0 : Int)).length (flat (agsL (List.drop (0 : Nat) bs) (rdL bs.length) (0 : Int)))) (ueS (ptsA (agsL (List.drop (0 : Nat) bs) (rdL bs.length) (0 : Int)).length (List.drop (0 : Nat) (flat (agsL (List.drop (0 : Nat) bs) (rdL bs.length) (0 : Int)))))) (IntKind.i64.wrap ((↑ms.length : Int).tmod (60 : Int) - (30 : Int))) (0 : Nat)) (.need ((-30 : Int) ≤ IntKind.i64.wrap ((↑ms.length : Int).tmod (60 : Int) - (30 : Int)) ∧ IntKind.i64.wrap ((↑ms.length : Int).tmod (60 : Int) - (30 : Int)) ≤ (30 : Int)) (.need ((0 : Int) = (0 : Int)) (.need ((flat (agsL (List.drop (0 : Nat) bs) (rdL bs.length) (0 : Int))).length = (agsL (List.drop (0 : Nat) bs) (rdL bs.length) (0 : Int)).length * (2 : Nat)) (.need (UeOk (ptsA (agsL (List.drop (0 : Nat) bs) (rdL bs.length) (0 : Int)).length (flat (agsL (List.drop (0 : Nat) bs) (rdL bs.length) (0 : Int)))) (ueS (ptsA (agsL (List.drop (0 : Nat) bs) (rdL bs.length) (0 : Int)).length (List.drop (0 : Nat) (flat (agsL (List.drop (0 : Nat) bs) (rdL bs.length) (0 : Int))))))) (.need (bsU (ptsA (agsL (List.drop (0 : Nat) bs) (rdL bs.length) (0 : Int)).length (flat (agsL (List.drop (0 : Nat) bs) (rdL bs.length) (0 : Int)))) (ueS (ptsA (agsL (List.drop (0 : Nat) bs) (rdL bs.length) (0 : Int)).length (List.drop (0 : Nat) (flat (agsL (List.drop (0 : Nat) bs) (rdL bs.length) (0 : Int)))))) (IntKind.i64.wrap ((↑ms.length : Int).tmod (60 : Int) - (30 : Int))) ((ueS (ptsA (agsL (List.drop (0 : Nat) bs) (rdL bs.length) (0 : Int)).length (List.drop (0 : Nat) (flat (agsL (List.drop (0 : Nat) bs) (rdL bs.length) (0 : Int)))))).length - (1 : Nat)) = bsU (ptsA (agsL (List.drop (0 : Nat) bs) (rdL bs.length) (0 : Int)).length (flat (agsL (List.drop (0 : Nat) bs) (rdL bs.length) (0 : Int)))) (ueS (ptsA (agsL (List.drop (0 : Nat) bs) (rdL bs.length) (0 : Int)).length (List.drop (0 : Nat) (flat (agsL (List.drop (0 : Nat) bs) (rdL bs.length) (0 : Int)))))) (IntKind.i64.wrap ((↑ms.length : Int).tmod (60 : Int) - (30 : Int))) ((ueS (ptsA (agsL (List.drop (0 : Nat) bs) (rdL bs.length) (0 : Int)).length (List.drop (0 : Nat) (flat (agsL (List.drop (0 : Nat) bs) (rdL bs.length) (0 : Int)))))).length - (1 : Nat))) (.need ((-30 : Int) ≤ IntKind.i64.wrap ((↑ms.length : Int).tmod (60 : Int) - (30 : Int)) ∧ IntKind.i64.wrap ((↑ms.length : Int).tmod (60 : Int) - (30 : Int)) ≤ (30 : Int)) (.fin (.bool (true)) []))))))))))))))))))))))))))))))))) := by kernel_rfl
theorem UpperEnvelope_res (bs ms : List Int) (hb : Bytes bs) (_ : bs.length ≤ maxLen) (_ : Bytes ms) (_ : ms.length ≤ maxLen) : Res Try.prog 4 [.row bs.length (.bytes bs), .row ms.length (.bytes ms)] (.bool true) := by
  refine bodyV_res mixed ELu_ok (m := 30) (n := 12) rfl ?_
  rw [tr_luf]
  simp only [List.drop_zero, ptsA_flat, flat_length]
  have hl := agsL_len bs (rdL bs.length) 0
  generalize agsL bs (rdL bs.length) 0 = gs at *
  have hE := ueS_len gs
  have hk : 0 < (ueS gs).length → UeOk gs (ueS gs) := fun h => ⟨by
    rcases hv : vgB gs with _ | _
    · have e : ueS gs = [] := by unfold ueS; rw [hv]; rfl
      rw [e] at h
      simp at h
    · rfl, rfl, h⟩
  generalize ueS gs = V at *
  have hL : Lim V.length := Nat.le_trans hE (by decide)
  have ht : IntKind.i64.wrap ((ms.length : Int).tmod 60 - 30) = (ms.length : Int).tmod 60 - 30 ∧ -30 ≤ (ms.length : Int).tmod 60 - 30 ∧ (ms.length : Int).tmod 60 - 30 ≤ 30 := by
    have e : (ms.length : Int).tmod 60 = (ms.length : Int) % 60 := Int.tmod_eq_emod_of_nonneg (by omega)
    rw [e]
    refine ⟨wr (by omega), by omega, by omega⟩
  obtain ⟨t1, t2, t3⟩ := ht
  rw [t1]
  generalize (ms.length : Int).tmod 60 - 30 = t at *
  refine brT_ok.2 ⟨fun _ => rfl, fun hs => brT_ok.2 ⟨fun _ => rfl, fun hs2 => ?_⟩⟩
  refine ⟨hb, Nat.le_refl _, Nat.le_refl _, by omega, Nat.le_refl _, by omega, trivial, trivial, Nat.le_refl _, hL, brT_ok.2 ⟨fun g => ?_, fun g => ?_⟩⟩
  · exact ⟨Nat.le_refl _, by omega, trivial, trivial, Nat.le_refl _, hL, rfl⟩
  · have g : ¬ (V.length : Int) = 0 := by simpa using g
    have h := hk (by omega)
    have r := h.rng (k := 0) h.pos
    have e0 := h.h (t := t) ⟨t2, t3⟩ (k := (V.getD 0 0).toNat) (by omega)
    simp only [Nat.zero_add, Nat.add_zero, flat_get0, flat_get1, e0, Tree.ok]
    exact ⟨by omega, ⟨by omega, by omega⟩, by omega, ⟨by omega, by omega⟩, by omega, ⟨by omega, by omega⟩, by omega, ⟨by omega, by omega⟩, by omega, trivial, trivial, trivial, h, rfl, ⟨t2, t3⟩, trivial, trivial, h, trivial, ⟨t2, t3⟩, trivial⟩
end Go.Proofs.Ytolodncpegajkab
