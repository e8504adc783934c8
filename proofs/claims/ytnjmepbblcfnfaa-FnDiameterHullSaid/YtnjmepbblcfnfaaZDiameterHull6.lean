/-
  Texts that the proof needs, merged. Written by an AI agent.
-/
import Derived.Orders
import Derived.Below
import Derived.OrdersIn
import Derived.Deep.LoopGhost
import Derived.WalkKit
import Derived.Laws.CopyRow
import Derived.Laws.AppendOwn
import Derived.Laws.Slices
import Derived.Laws.MakeOwn
import Derived.Test.YtnjmepbblcfnfaaRows
import Derived.ProofKit
import Derived.OpenShut
import Derived.Carry
import Derived.IntWalk
import Derived.Test.YtnjmepbblcfnfaaProg
import Derived.WalkSpells
import Derived.WalkLawsBesides
import Derived.Lib.Hide
import Derived.Deep.QuietTactic
import Derived.BigQuiet
import Derived.KernelRfl
import Derived.Deep.RegionHeld3
import Derived.LoopTactic
import Derived.Laws.StructEq
import Derived.Laws.Tables
import Derived.RangeFuncNested
import Derived.RangeFuncLeaves
import Derived.Deep.Slices
import Derived.Deep.Fields
import Derived.ChangeSame
import Derived.Deep.DeepCutAuto
import Derived.Shelf.SlSortCmp.WholeK
import Derived.Sort.Grow
import Derived.Shelf.SlSortCmp.NoneTotal
import Derived.Test.YtnjmepbblcfnfaaZDiameterHull5
namespace Go.Proofs.Ytnjmepbblcfnfaa
set_option linter.all false
open Go.RowKit
def LPw : FuncId → LT := fun f => match f with
  | 86 => lt1 e_pwo
  | _ => noL
def EPw : Env := mkE B0 (fun _ _ => none) LPw
theorem EPw_ok : EnvOk Try.prog EPw := mkEOk B0_ok (fun _ _ _ _ _ h => (by cases h)) (by
  intro f fn hf
  unfold LPw
  split
  all_goals first | with_reducible exact Lr_pwo hf | exact noL_good)
set_option maxRecDepth 100000 in
theorem tr_pw (n : Int) : bodyX Try.prog EPw 30 12 86 [.v (.int .i64 n)] = .need (n = n) (.need ((0 : Int) = (0 : Int)) (.need ((0 : Int) ≤ n ∧ n ≤ (20 : Int)) (.fin (.slice (some ⟨1, 0, none⟩) ((prI n.toNat 0).length) ((prI n.toNat 0).length)) [none, some ⟨.row 88 2, .ints (flat (prI n.toNat 0))⟩]))) := by kernel_rfl
abbrev rowQ (qs : List Pt) : Value := .slice (some ⟨0, 0, none⟩) qs.length qs.length
abbrev blkQ (qs : List Pt) : Blk := ⟨.row 88 2, .ints (flat qs)⟩
theorem resR_pw (n : Int) (h : 0 ≤ n ∧ n ≤ 20) : ResR Try.prog 86 [.v (.int .i64 n)] (rowQ (prL n.toNat)) (blkQ (prL n.toNat)) := by
  refine bodyX_resR mixed EPw_ok (m := 30) (n := 12) rfl ?_
  rw [tr_pw]
  exact ⟨rfl, rfl, h, some 1, ⟨rfl, rfl, rfl⟩, rfl, rfl, rfl⟩
def RPw : TabR := fun f ds => match f, ds with
  | 86, [.v (.int .i64 n)] => some (rowQ (prL n.toNat), blkQ (prL n.toNat), [0 ≤ n ∧ n ≤ 20])
  | _, _ => none
theorem RPw_ok : TabROk Try.prog RPw := by
  intro f ds v b C h hC
  unfold RPw at h
  split at h
  · obtain ⟨rfl, rfl, rfl⟩ : _ ∧ _ ∧ _ := by simpa using h
    exact resR_pw _ hC.1
  · cases h
def LDi : FuncId → LT := fun f => match f with
  | 82 => lt1 e_fao
  | 87 => lt1 e_fld
  | _ => noL
def ESq0 : Env := mkE T3 (fun _ _ => none) (fun _ => noL)
theorem ESq0_ok : EnvOk Try.prog ESq0 := mkEOk T3_ok (fun _ _ _ _ _ h => (by cases h)) (fun _ _ _ => noL_good)
set_option maxRecDepth 100000 in
theorem tr_dsq (xs : List Int) (n : Nat) (a b : Int) : bodyM Try.prog ESq0 (runM Try.prog ESq0 30 12) 30 85 [.agg ⟨[iv a, iv b]⟩, .pointer (some ⟨0, 0, none⟩)] [some ⟨.view, .vals [.slice (some ⟨1, 0, none⟩) n n]⟩, some ⟨.view, .ints xs⟩] .fin = brT (!(ptB (xs.getD (0 + a.toNat * 2) 0) (xs.getD (0 + a.toNat * 2 + 1) 0) && ptB (xs.getD (0 + b.toNat * 2) 0) (xs.getD (0 + b.toNat * 2 + 1) 0))) (.need ((0 : Int) ≤ a ∧ a < (↑n : Int)) (.need ((0 : Nat) + a.toNat * (2 : Nat) + (2 : Nat) ≤ xs.length) (.need ((0 : Int) ≤ b ∧ b < (↑n : Int)) (.need ((0 : Nat) + b.toNat * (2 : Nat) + (2 : Nat) ≤ xs.length) (.fin (.int .i64 (-1)) [some ⟨.view, .vals [.slice (some ⟨1, 0, none⟩) (n) (n)]⟩, some ⟨.view, .ints (xs)⟩, some ⟨.box, .vals [.int .i64 (a), .int .i64 (b)]⟩, none]))))) (.need ((0 : Int) ≤ a ∧ a < (↑n : Int)) (.need ((0 : Nat) + a.toNat * (2 : Nat) + (2 : Nat) ≤ xs.length) (.need ((0 : Int) ≤ b ∧ b < (↑n : Int)) (.need ((0 : Nat) + b.toNat * (2 : Nat) + (2 : Nat) ≤ xs.length) (.fin (.int .i64 (IntKind.i64.wrap (IntKind.i64.wrap (IntKind.i64.wrap (xs.getD (0 + a.toNat * 2) 0 - xs.getD (0 + b.toNat * 2) 0) * IntKind.i64.wrap (xs.getD (0 + a.toNat * 2) 0 - xs.getD (0 + b.toNat * 2) 0)) + IntKind.i64.wrap (IntKind.i64.wrap (xs.getD (0 + a.toNat * 2 + 1) 0 - xs.getD (0 + b.toNat * 2 + 1) 0) * IntKind.i64.wrap (xs.getD (0 + a.toNat * 2 + 1) 0 - xs.getD (0 + b.toNat * 2 + 1) 0))))) [some ⟨.view, .vals [.slice (some ⟨1, 0, none⟩) (n) (n)]⟩, some ⟨.view, .ints (xs)⟩, some ⟨.box, .vals [.int .i64 (a), .int .i64 (b)]⟩, none]))))) := by kernel_rfl
theorem dsq_run {ps : List Pt} {a b : Int} (h : ps.length ≤ 20) (hv : allV ps = true) (hi : inI ps.length (a, b)) :
    (bodyM Try.prog ESq0 (runM Try.prog ESq0 30 12) 30 85 [.agg ⟨[iv a, iv b]⟩, .pointer (some ⟨0, 0, none⟩)] [some ⟨.view, .vals [.slice (some ⟨1, 0, none⟩) ps.length ps.length]⟩, some ⟨.view, .ints (flat ps)⟩] .fin).ok (fun _ _ => False) (fun u _ => u = iv (dmV ps (a, b))) := by
  rw [tr_dsq]
  obtain ⟨q1, q2, q3, q4⟩ := hi
  simp only at q1 q2 q3 q4
  obtain ⟨u, rfl⟩ := Int.eq_ofNat_of_zero_le q1
  obtain ⟨v, rfl⟩ := Int.eq_ofNat_of_zero_le q3
  have b1 := allV_get hv u
  have b2 := allV_get hv v
  have t1 : ptB (ps.getD u (0, 0)).1 (ps.getD u (0, 0)).2 = true := by simpa [ptB] using b1
  have t2 : ptB (ps.getD v (0, 0)).1 (ps.getD v (0, 0)).2 = true := by simpa [ptB] using b2
  have m1 := mul_bd (x := (ps.getD u (0, 0)).1 - (ps.getD v (0, 0)).1) (y := (ps.getD u (0, 0)).1 - (ps.getD v (0, 0)).1) 2000 2000 (by omega) (by omega)
  have m2 := mul_bd (x := (ps.getD u (0, 0)).2 - (ps.getD v (0, 0)).2) (y := (ps.getD u (0, 0)).2 - (ps.getD v (0, 0)).2) 2000 2000 (by omega) (by omega)
  simp only [Int.toNat_natCast, Nat.zero_add, flat_get0, flat_get1, flat_length, t1, t2, Bool.and_self, Bool.not_true, brT_f]
  simp (disch := omega) only [wr]
  simp only [Tree.ok]
  repeat refine And.intro (by first | omega | exact ⟨by omega, by omega⟩) ?_
  rfl
def spDi : PSpec := fun zs css => match zs, css with
  | [.agg ⟨[.int .i64 a, .int .i64 b]⟩, .pointer (some ⟨0, 0, none⟩)], [.vals [.slice (some ⟨1, 0, none⟩) n c], .ints xs] => some (iv (dmV (ptsA n xs) (a, b)), [c = n, xs.length = n * 2, n ≤ 20, allV (ptsA n xs) = true, inI n (a, b)])
  | _, _ => none
theorem spDi_ok : PSpecOk Try.prog 85 spDi := by
  intro zs css v C h hC
  unfold spDi at h
  split at h
  rotate_left
  · cases h
  obtain ⟨rfl, rfl⟩ := Prod.mk.inj (Option.some.inj h)
  obtain ⟨rfl, h1, h2, h3, h4, _⟩ := hC
  obtain ⟨ps, rfl, rfl⟩ := even_flat h1
  rw [ptsA_flat] at h3 ⊢
  refine ⟨ESq0, 30, 12, ESq0_ok, rfl, ?_⟩
  simp only [List.map_cons, List.map_nil]
  with_reducible exact dsq_run h2 h3 h4
def JDi : TabJ := consJ 85 (fun _ => rfG spDi) noJ
theorem JDi_ok : GSound Try.prog JDi.g := consJ_rf mixed (failG_sound Try.prog) (entersB_res (by kernel_rfl)).1 spDi_ok
def EDi : Env := withT (mkE T3 RPw LDi) JDi
theorem EDi_ok : EnvOk Try.prog EDi := withT_ok (mkEOk T3_ok RPw_ok (by
  intro f fn hf
  unfold LDi
  split
  all_goals first | with_reducible exact Lr_fao hf | with_reducible exact Lr_fld hf | exact noL_good)) JDi_ok
set_option maxRecDepth 100000 in
theorem tr_iDi (ps : List Pt) : bodyV Try.prog EDi 30 12 27 [.row ps.length (.ints (flat ps))] = brT (decide ((↑ps.length : Int) ≤ 20)) (.need (ps.length * (2 : Nat) ≤ (List.drop (0 : Nat) (flat ps)).length) (.need (ps.length ≤ (1000000000 : Nat)) (brT (!allV (ptsA ps.length (List.drop 0 (flat ps)))) (.fin (.tuple #[.int .i64 (0), .int .i64 (0), .int .i64 (-1)]) []) (brT ((↑ps.length : Int) == 0) (.fin (.tuple #[.int .i64 (0), .int .i64 (0), .int .i64 (-1)]) []) (.need ((0 : Int) ≤ (↑ps.length : Int) ∧ (↑ps.length : Int) ≤ (20 : Int)) (.need ((0 : Int) = (0 : Int)) (.need ((-1 : Int) = (-1 : Int)) (.need ((0 : Int) = (0 : Int)) (.need ((↑(prL (↑ps.length : Int).toNat).length : Int) = (↑(prL (↑ps.length : Int).toNat).length : Int)) (.need ((flat ps).length = ps.length * (2 : Nat)) (.need (ps.length ≤ (20 : Nat)) (.need (allV (ptsA ps.length (flat ps)) = true) (.need ((flat (prL (↑ps.length : Int).toNat)).length = (prL (↑ps.length : Int).toNat).length * (2 : Nat)) (.need ((prL (↑ps.length : Int).toNat).length ≤ (1000000000 : Nat)) (.need (∀ (q : Pt), q ∈ ptsA (prL (↑ps.length : Int).toNat).length (flat (prL (↑ps.length : Int).toNat)) → inI ps.length q) (.need ((0 : Int) ≤ fl (dmV (ptsA ps.length (flat ps))) (ptsA (prL (↑ps.length : Int).toNat).length (flat (prL (↑ps.length : Int).toNat))) (0 : Nat) (-1 : Int) ∧ fl (dmV (ptsA ps.length (flat ps))) (ptsA (prL (↑ps.length : Int).toNat).length (flat (prL (↑ps.length : Int).toNat))) (0 : Nat) (-1 : Int) < (↑(prL (↑ps.length : Int).toNat).length : Int)) (.need ((0 : Nat) + (fl (dmV (ptsA ps.length (flat ps))) (ptsA (prL (↑ps.length : Int).toNat).length (flat (prL (↑ps.length : Int).toNat))) (0 : Nat) (-1 : Int)).toNat * (2 : Nat) + (2 : Nat) ≤ (flat (prL (↑ps.length : Int).toNat)).length) (.need (ps.length = ps.length) (.need ((flat ps).length = ps.length * (2 : Nat)) (.need (ps.length ≤ (20 : Nat)) (.need (allV (ptsA ps.length (flat ps)) = true) (.need (inI ps.length ((flat (prL (↑ps.length : Int).toNat)).getD ((0 : Nat) + (fl (dmV (ptsA ps.length (flat ps))) (ptsA (prL (↑ps.length : Int).toNat).length (flat (prL (↑ps.length : Int).toNat))) (0 : Nat) (-1 : Int)).toNat * (2 : Nat)) (0 : Int), (flat (prL (↑ps.length : Int).toNat)).getD ((0 : Nat) + (fl (dmV (ptsA ps.length (flat ps))) (ptsA (prL (↑ps.length : Int).toNat).length (flat (prL (↑ps.length : Int).toNat))) (0 : Nat) (-1 : Int)).toNat * (2 : Nat) + (1 : Nat)) (0 : Int))) (.fin (.tuple #[.int .i64 ((flat (prL (↑ps.length : Int).toNat)).getD (0 + (fl (dmV (ptsA ps.length (flat ps))) (ptsA (prL (↑ps.length : Int).toNat).length (flat (prL (↑ps.length : Int).toNat))) 0 (-1)).toNat * 2) 0), .int .i64 ((flat (prL (↑ps.length : Int).toNat)).getD (0 + (fl (dmV (ptsA ps.length (flat ps))) (ptsA (prL (↑ps.length : Int).toNat).length (flat (prL (↑ps.length : Int).toNat))) 0 (-1)).toNat * 2 + 1) 0), .int .i64 (dmV (ptsA ps.length (flat ps)) ((flat (prL (↑ps.length : Int).toNat)).getD (0 + (fl (dmV (ptsA ps.length (flat ps))) (ptsA (prL (↑ps.length : Int).toNat).length (flat (prL (↑ps.length : Int).toNat))) 0 (-1)).toNat * (2 : Nat)) 0, (flat (prL (↑ps.length : Int).toNat)).getD (0 + (fl (dmV (ptsA ps.length (flat ps))) (ptsA (prL (↑ps.length : Int).toNat).length (flat (prL (↑ps.length : Int).toNat))) 0 (-1)).toNat * (2 : Nat) + 1) 0))]) []))))))))))))))))))))))) (.fin (.tuple #[.int .i64 (0), .int .i64 (0), .int .i64 (-1)]) []) := by kernel_rfl
set_option maxRecDepth 100000 in
theorem tr_sFa (ps : List Pt) : bodyV Try.prog EDi 30 12 82 [.row ps.length (.ints (flat ps))] = .need ((0 : Int) = (0 : Int)) (.need ((0 : Int) = (0 : Int)) (.need ((0 : Int) = (0 : Int)) (.need ((flat ps).length = ps.length * (2 : Nat)) (.need (ps.length ≤ (20 : Nat)) (.need (allV (ptsA ps.length (flat ps)) = true) (.need ((0 : Nat) < ps.length) (.fin (.tuple #[.int .i64 ((bsI (ptsA ps.length (flat ps)) 0 (0, 0)).1), .int .i64 ((bsI (ptsA ps.length (flat ps)) 0 (0, 0)).2)]) []))))))) := by kernel_rfl
theorem res_sFa {ps : List Pt} (hv : allV ps = true) (h : ps.length ≤ 20) (h0 : 0 < ps.length) : Res Try.prog 82 [.row ps.length (.ints (flat ps))] (.tuple #[iv (dmP ps).1, iv (dmP ps).2]) := by
  refine bodyV_res mixed EDi_ok (m := 30) (n := 12) rfl ?_
  rw [tr_sFa]
  simp only [ptsA_flat]
  refine ⟨?_, ?_, ?_, flat_length ps, h, hv, h0, rfl⟩ <;> first | trivial | rfl
def pFar : List DArg → Option (Value × List Prop)
  | [.row m (.ints xs)] => some (.tuple #[iv (dmP (ptsA m xs)).1, iv (dmP (ptsA m xs)).2], [m * 2 ≤ xs.length, m ≤ 20, allV (ptsA m xs) = true, 0 < m])
  | _ => none
theorem pFar_ok {ds : List DArg} {v : Value} {C : List Prop} (h : pFar ds = some (v, C)) (hC : AllP C) : Res Try.prog 82 ds v := by
  unfold pFar at h
  split at h
  · rename_i m xs
    obtain ⟨rfl, rfl⟩ := Prod.mk.inj (Option.some.inj h)
    obtain ⟨_, h2⟩ := ptsA_spec hC.1
    exact res_pts1 (pre := []) (post := []) hC.1 (res_sFa hC.2.2.1 (by rw [h2]; exact hC.2.1) (by rw [h2]; exact hC.2.2.2.1))
  · cases h
def TFa : Tab := fun f ds => match f with
  | 82 => pFar ds
  | f => T3 f ds
theorem TFa_ok : TabOk Try.prog TFa := by
  intro f ds v C h hC
  unfold TFa at h
  (try split at h)
  all_goals first | with_reducible exact pFar_ok h hC | exact T3_ok _ _ _ _ h hC
def EFa : Env := mkE TFa (fun _ _ => none) (fun _ => noL)
theorem EFa_ok : EnvOk Try.prog EFa := mkEOk TFa_ok (fun _ _ _ _ _ h => (by cases h)) (fun _ _ _ => noL_good)
set_option maxRecDepth 100000 in
theorem tr_sDi (ps : List Pt) : bodyV Try.prog EFa 30 12 25 [.row ps.length (.ints (flat ps))] = .need (ps.length * (2 : Nat) ≤ (List.drop (0 : Nat) (flat ps)).length) (.need (ps.length ≤ (1000000000 : Nat)) (brT (!okL (ptsA ps.length (List.drop 0 (flat ps)))) (.fin (.tuple #[.int .i64 (0), .int .i64 (0), .int .i64 (-1)]) []) (brT ((↑ps.length : Int) == 0) (.fin (.tuple #[.int .i64 (0), .int .i64 (0), .int .i64 (-1)]) []) (.need (ps.length * (2 : Nat) ≤ (List.drop (0 : Nat) (flat ps)).length) (.need (ps.length ≤ (20 : Nat)) (.need (allV (ptsA ps.length (List.drop (0 : Nat) (flat ps))) = true) (.need ((0 : Nat) < ps.length) (.need ((0 : Int) ≤ (dmP (ptsA ps.length (List.drop (0 : Nat) (flat ps)))).1 ∧ (dmP (ptsA ps.length (List.drop (0 : Nat) (flat ps)))).1 < (↑ps.length : Int)) (.need ((0 : Nat) + (dmP (ptsA ps.length (List.drop (0 : Nat) (flat ps)))).1.toNat * (2 : Nat) + (2 : Nat) ≤ (flat ps).length) (.need ((0 : Int) ≤ (dmP (ptsA ps.length (List.drop (0 : Nat) (flat ps)))).2 ∧ (dmP (ptsA ps.length (List.drop (0 : Nat) (flat ps)))).2 < (↑ps.length : Int)) (.need ((0 : Nat) + (dmP (ptsA ps.length (List.drop (0 : Nat) (flat ps)))).2.toNat * (2 : Nat) + (2 : Nat) ≤ (flat ps).length) (.fin (.tuple #[.int .i64 ((dmP (ptsA ps.length (List.drop 0 (flat ps)))).1), .int .i64 ((dmP (ptsA ps.length (List.drop 0 (flat ps)))).2), .int .i64 (IntKind.i64.wrap (IntKind.i64.wrap (IntKind.i64.wrap ((flat ps).getD (0 + (dmP (ptsA ps.length (List.drop 0 (flat ps)))).1.toNat * 2) 0 - (flat ps).getD (0 + (dmP (ptsA ps.length (List.drop 0 (flat ps)))).2.toNat * 2) 0) * IntKind.i64.wrap ((flat ps).getD (0 + (dmP (ptsA ps.length (List.drop 0 (flat ps)))).1.toNat * 2) 0 - (flat ps).getD (0 + (dmP (ptsA ps.length (List.drop 0 (flat ps)))).2.toNat * 2) 0)) + IntKind.i64.wrap (IntKind.i64.wrap ((flat ps).getD (0 + (dmP (ptsA ps.length (List.drop 0 (flat ps)))).1.toNat * 2 + 1) 0 - (flat ps).getD (0 + (dmP (ptsA ps.length (List.drop 0 (flat ps)))).2.toNat * 2 + 1) 0) * IntKind.i64.wrap ((flat ps).getD (0 + (dmP (ptsA ps.length (List.drop 0 (flat ps)))).1.toNat * 2 + 1) 0 - (flat ps).getD (0 + (dmP (ptsA ps.length (List.drop 0 (flat ps)))).2.toNat * 2 + 1) 0))))]) [])))))))))))) := by kernel_rfl
def diK (ps : List Pt) : Bool := okL ps && decide (0 < ps.length)
def diA (ps : List Pt) : Int := bif diK ps then (dmP ps).1 else 0
def diB (ps : List Pt) : Int := bif diK ps then (dmP ps).2 else 0
def diN (ps : List Pt) : Int := bif diK ps then dmV ps (dmP ps) else -1
abbrev diV (ps : List Pt) : Value := .tuple #[iv (diA ps), iv (diB ps), iv (diN ps)]
theorem okL_20' {ps : List Pt} (h : okL ps = true) : allV ps = true ∧ ps.length ≤ 20 := by
  simpa only [okL, Bool.and_eq_true, decide_eq_true_eq] using h
theorem res_iDi (ps : List Pt) (h : Big ps) : Res Try.prog 27 [.row ps.length (.ints (flat ps))] (diV ps) := by
  refine bodyV_res mixed EDi_ok (m := 30) (n := 12) rfl ?_
  rw [tr_iDi]
  unfold Big at h
  simp only [List.drop_zero, ptsA_flat, flat_length, Int.toNat_natCast, Nat.zero_add]
  unfold diV diA diB diN diK okL
  by_cases hl : ps.length ≤ 20
  · have hl2 : (ps.length : Int) ≤ 20 := by omega
    rw [decide_eq_true hl2, decide_eq_true hl]
    rcases hk : allV ps with _ | _
    · simp [Tree.ok, brT, h]
    · rcases Nat.eq_zero_or_pos ps.length with h0 | h0
      · simp [Tree.ok, brT, h0]
      · have hb : ((ps.length : Int) == 0) = false := beq_eq_false_iff_ne.2 (by omega)
        obtain ⟨p1, p2⟩ := prL_0 h0
        have pl : (prL ps.length).length ≤ 1000 := by
          have := prA_len ps.length ps.length 0
          have m : ps.length * ps.length ≤ 20 * 20 := Nat.mul_le_mul hl hl
          unfold prL
          omega
        have e1 : fl (dmV ps) (prL ps.length) 0 (-1) = (ag (dmV ps) (prL ps.length) (prL ps.length).length 0 0 : Nat) := by
          have e := ag_step (f := dmV ps) p2 0
          rw [Nat.sub_zero, if_neg (Int.lt_irrefl _)] at e
          unfold fl
          rw [if_pos (by omega), if_neg (by omega), e]
        have e2 := dmP_ag h0
        have jl : ag (dmV ps) (prL ps.length) (prL ps.length).length 0 0 < (prL ps.length).length := by
          have key : ∀ (n i b : Nat), b < (prL ps.length).length → i + n ≤ (prL ps.length).length → ag (dmV ps) (prL ps.length) n i b < (prL ps.length).length := by
            intro n
            induction n with
            | zero => exact fun i b h _ => h
            | succ n ih => exact fun i b h h2 => ih (i + 1) _ (by split <;> omega) (by omega)
          exact key _ _ _ p2 (by omega)
        have hin := dmP_in h0
        rw [e1]
        simp only [Int.toNat_natCast, flat_get0, flat_get1, e2, hb, decide_eq_true h0, Bool.and_self, Bool.not_true, cond_true, brT_t, brT_f, Tree.ok]
        generalize ag (dmV ps) (prL ps.length) (prL ps.length).length 0 0 = j at *
        repeat' (first | exact True.intro | exact rfl | assumption | omega | exact (fun q hq => (by have := prL_mem.1 hq; exact ⟨by omega, by omega, by omega, by omega⟩)) | exact (⟨by omega, by omega, by omega, by omega⟩ : inI ps.length _) | refine And.intro ?_ ?_)
  · have hl2 : ¬ (ps.length : Int) ≤ 20 := by omega
    rw [decide_eq_false hl2, decide_eq_false hl]
    simp [Tree.ok, brT]
theorem dm_sq {ps : List Pt} (h0 : 0 < ps.length) : (dmP ps).1 = ((dmP ps).1.toNat : Int) ∧ (dmP ps).2 = ((dmP ps).2.toNat : Int) ∧ (dmP ps).1.toNat < ps.length ∧ (dmP ps).2.toNat < ps.length := by
  have hin := dmP_in h0
  omega
theorem res_sDi (ps : List Pt) (h : Big ps) : Res Try.prog 25 [.row ps.length (.ints (flat ps))] (diV ps) := by
  refine bodyV_res mixed EFa_ok (m := 30) (n := 12) rfl ?_
  rw [tr_sDi]
  unfold Big at h
  simp only [List.drop_zero, ptsA_flat, flat_length, Nat.zero_add]
  unfold diV diA diB diN diK
  rcases ho : okL ps with _ | _
  · simp [Tree.ok, brT, h]
  · obtain ⟨hv, hl⟩ := okL_20' ho
    rcases Nat.eq_zero_or_pos ps.length with h0 | h0
    · simp [Tree.ok, brT, h0]
    · have hb : ((ps.length : Int) == 0) = false := beq_eq_false_iff_ne.2 (by omega)
      have hin := dmP_in h0
      obtain ⟨d1, d2, d3, d4⟩ := dm_sq h0
      have b1 := allV_get hv (dmP ps).1.toNat
      have b2 := allV_get hv (dmP ps).2.toNat
      have hd : dmV ps (dmP ps) = sq (ps.getD (dmP ps).1.toNat (0, 0)) (ps.getD (dmP ps).2.toNat (0, 0)) := rfl
      unfold sq at hd
      simp only [flat_get0, flat_get1]
      generalize ps.getD (dmP ps).1.toNat (0, 0) = p at *
      generalize ps.getD (dmP ps).2.toNat (0, 0) = q at *
      have m1 := mul_bd (x := p.1 - q.1) (y := p.1 - q.1) 2000 2000 (by omega) (by omega)
      have m2 := mul_bd (x := p.2 - q.2) (y := p.2 - q.2) 2000 2000 (by omega) (by omega)
      simp (disch := omega) only [wr]
      rw [hd]
      simp only [hb, decide_eq_true h0, Bool.and_self, Bool.not_true, cond_true, brT_t, brT_f, Tree.ok]
      repeat' (first | exact True.intro | exact rfl | assumption | omega | refine And.intro ?_ ?_)
def pDi : List DArg → Option (Value × List Prop)
  | [.row m (.ints xs)] => some (.tuple #[iv (diA (ptsA m xs)), iv (diB (ptsA m xs)), iv (diN (ptsA m xs))], [m * 2 ≤ xs.length, m ≤ 1000000000])
  | _ => none
theorem pDi_ok {f : FuncId} (H : ∀ ps : List Pt, Big ps → Res Try.prog f [.row ps.length (.ints (flat ps))] (diV ps)) {ds : List DArg} {v : Value} {C : List Prop} (h : pDi ds = some (v, C)) (hC : AllP C) : Res Try.prog f ds v := by
  unfold pDi at h
  split at h
  · rename_i m xs
    obtain ⟨rfl, rfl⟩ := Prod.mk.inj (Option.some.inj h)
    obtain ⟨_, h2⟩ := ptsA_spec hC.1
    exact res_pts1 (pre := []) (post := []) hC.1 (H (ptsA m xs) (by unfold Big; rw [h2]; exact hC.2.1))
  · cases h
def TDi : Tab := fun f ds => match f with
  | 27 => pDi ds
  | 25 => pDi ds
  | f => T3 f ds
theorem TDi_ok : TabOk Try.prog TDi := by
  intro f ds v C h hC
  unfold TDi at h
  (try split at h)
  all_goals first | with_reducible exact pDi_ok res_iDi h hC | with_reducible exact pDi_ok res_sDi h hC | exact T3_ok _ _ _ _ h hC
end Go.Proofs.Ytnjmepbblcfnfaa
namespace Go.Proofs.Ytnjmepbblcfnfaa
set_option linter.all false
open Go.RowKit
set_option maxRecDepth 100000 in
theorem tr_pick (bs : List Int) (l c : Nat) (p k : Int) : bodyM Try.prog (tabE B0) (runM Try.prog (tabE B0) 30 12) 30 122 [.pointer (some ⟨1, 0, none⟩), .int .i64 k] (memR bs l c p none) .fin = brT (decide (k < 1)) (.fin (.int .i64 (0)) [some ⟨.view, .bytes (bs)⟩, some ⟨.box, .vals [.slice (some ⟨0, 0, none⟩) (l) (c), .int .i64 (IntKind.i64.wrap (p + 1))]⟩]) (brT ((↑l : Int) == 0) (.fin (.int .i64 (0)) [some ⟨.view, .bytes (bs)⟩, some ⟨.box, .vals [.slice (some ⟨0, 0, none⟩) (l) (c), .int .i64 (IntKind.i64.wrap (p + 1))]⟩]) (brT (decide (IntKind.i64.wrap (IntKind.i64.wrap (p + 1) - 1) < (↑l : Int))) (.need ((0 : Int) ≤ IntKind.i64.wrap (IntKind.i64.wrap (p + (1 : Int)) - (1 : Int)) ∧ IntKind.i64.wrap (IntKind.i64.wrap (p + (1 : Int)) - (1 : Int)) < (↑l : Int)) (.need ((0 : Nat) + (IntKind.i64.wrap (IntKind.i64.wrap (p + (1 : Int)) - (1 : Int))).toNat * (1 : Nat) < bs.length) (.need (¬k = (0 : Int)) (.fin (.int .i64 ((IntKind.i64.wrap (bs.getD (0 + (IntKind.i64.wrap (IntKind.i64.wrap (p + 1) - 1)).toNat * 1) 0)).tmod k)) [some ⟨.view, .bytes (bs)⟩, some ⟨.box, .vals [.slice (some ⟨0, 0, none⟩) (l) (c), .int .i64 (IntKind.i64.wrap (p + 1))]⟩])))) (.need (¬(↑l : Int) = (0 : Int)) (.need ((0 : Int) ≤ (IntKind.i64.wrap (IntKind.i64.wrap (p + (1 : Int)) - (1 : Int))).tmod (↑l : Int) ∧ (IntKind.i64.wrap (IntKind.i64.wrap (p + (1 : Int)) - (1 : Int))).tmod (↑l : Int) < (↑l : Int)) (.need ((0 : Nat) + ((IntKind.i64.wrap (IntKind.i64.wrap (p + (1 : Int)) - (1 : Int))).tmod (↑l : Int)).toNat * (1 : Nat) < bs.length) (.need (¬(↑l : Int) = (0 : Int)) (.need ((0 : Int) ≤ (IntKind.i64.wrap (IntKind.i64.wrap (IntKind.i64.wrap (IntKind.i64.wrap (p + (1 : Int)) - (1 : Int)) * (7 : Int)) + (3 : Int))).tmod (↑l : Int) ∧ (IntKind.i64.wrap (IntKind.i64.wrap (IntKind.i64.wrap (IntKind.i64.wrap (p + (1 : Int)) - (1 : Int)) * (7 : Int)) + (3 : Int))).tmod (↑l : Int) < (↑l : Int)) (.need ((0 : Nat) + ((IntKind.i64.wrap (IntKind.i64.wrap (IntKind.i64.wrap (IntKind.i64.wrap (p + (1 : Int)) - (1 : Int)) * (7 : Int)) + (3 : Int))).tmod (↑l : Int)).toNat * (1 : Nat) < bs.length) (.need (¬(↑l : Int) = (0 : Int)) (.need (¬(64 : Int) = (0 : Int)) (.need (¬k = (0 : Int)) (.fin (.int .i64 ((IntKind.i64.wrap (↑(BitVec.ofInt IntKind.i64.bits (IntKind.i64.wrap (IntKind.i64.wrap (IntKind.i64.wrap (IntKind.i64.wrap (IntKind.i64.wrap (bs.getD (0 + ((IntKind.i64.wrap (IntKind.i64.wrap (p + 1) - 1)).tmod (↑l : Int)).toNat * (1 : Nat)) 0) * 131) + IntKind.i64.wrap (IntKind.i64.wrap (bs.getD (0 + ((IntKind.i64.wrap (IntKind.i64.wrap (IntKind.i64.wrap (IntKind.i64.wrap (p + 1) - 1) * 7) + 3)).tmod (↑l : Int)).toNat * (1 : Nat)) 0) * 1117)) + IntKind.i64.wrap (IntKind.i64.wrap (IntKind.i64.wrap (p + 1) - 1) * 29)) + IntKind.i64.wrap (IntKind.i64.wrap ((IntKind.i64.wrap (IntKind.i64.wrap (p + 1) - 1)).tdiv (↑l : Int)) * 53))) ^^^ BitVec.ofInt IntKind.i64.bits (IntKind.i64.wrap ((IntKind.i64.wrap (IntKind.i64.wrap (IntKind.i64.wrap (IntKind.i64.wrap (IntKind.i64.wrap (bs.getD (0 + ((IntKind.i64.wrap (IntKind.i64.wrap (p + 1) - 1)).tmod (↑l : Int)).toNat * (1 : Nat)) 0) * 131) + IntKind.i64.wrap (IntKind.i64.wrap (bs.getD (0 + ((IntKind.i64.wrap (IntKind.i64.wrap (IntKind.i64.wrap (IntKind.i64.wrap (p + 1) - 1) * 7) + 3)).tmod (↑l : Int)).toNat * (1 : Nat)) 0) * 1117)) + IntKind.i64.wrap (IntKind.i64.wrap (IntKind.i64.wrap (p + 1) - 1) * 29)) + IntKind.i64.wrap (IntKind.i64.wrap ((IntKind.i64.wrap (IntKind.i64.wrap (p + 1) - 1)).tdiv (↑l : Int)) * 53))).tdiv 64))).toNat : Int)).tmod k)) [some ⟨.view, .bytes (bs)⟩, some ⟨.box, .vals [.slice (some ⟨0, 0, none⟩) (l) (c), .int .i64 (IntKind.i64.wrap (p + 1))]⟩])))))))))))) := by kernel_rfl
def xorI (x : Int) : Int := IntKind.i64.wrap (↑(BitVec.ofInt IntKind.i64.bits x ^^^ BitVec.ofInt IntKind.i64.bits (IntKind.i64.wrap (x.tdiv 64))).toNat : Int)
def mixI (bs : List Int) (l : Nat) (p : Int) : Int := bs.getD (p.tmod l).toNat 0 * 131 + bs.getD ((p * 7 + 3).tmod l).toNat 0 * 1117 + p * 29 + p.tdiv l * 53
/-- What pick answers. -/
def pickI (bs : List Int) (l : Nat) (p k : Int) : Int := if k < 1 ∨ l = 0 then 0 else if p < l then (bs.getD p.toNat 0).tmod k else (xorI (mixI bs l p)).tmod k
/-- Is the reader in order? -/
def rdC (bs : List Int) (l : Nat) (p : Int) : Prop := l ≤ bs.length ∧ l ≤ 2000 ∧ 0 ≤ p ∧ p ≤ 1000000 ∧ Bytes bs
def pickS : RSpec := fun bs l p rest ex => match rest, ex with
  | [.int .i64 k], none => some (.int .i64 (pickI bs l p k), p + 1, [rdC bs l p])
  | _, _ => none
theorem Bytes.get {bs : List Int} (h : Bytes bs) (i : Nat) : 0 ≤ bs.getD i 0 ∧ bs.getD i 0 ≤ 255 := by
  rw [List.getD_eq_getElem?_getD]
  rcases hx : bs[i]? with _ | b
  · simp
  · simpa using h b (List.mem_of_getElem? hx)
theorem xorI_bd {x : Int} (h0 : 0 ≤ x) (h1 : x < 4611686018427387904) : 0 ≤ xorI x ∧ xorI x < 9223372036854775808 := by
  have hq : 0 ≤ x.tdiv 64 ∧ x.tdiv 64 ≤ x := by
    rw [Int.tdiv_eq_ediv_of_nonneg h0]
    omega
  unfold xorI
  rw [wr (x := x.tdiv 64) (by omega)]
  obtain ⟨a, rfl⟩ := Int.eq_ofNat_of_zero_le h0
  obtain ⟨b, hb⟩ := Int.eq_ofNat_of_zero_le hq.1
  rw [hb]
  have hb' : (b : Int) ≤ a := by rw [← hb]; exact hq.2
  have e : (BitVec.ofInt IntKind.i64.bits (a : Int) ^^^ BitVec.ofInt IntKind.i64.bits (b : Int)).toNat = a ^^^ b := by
    show (BitVec.ofInt 64 (a : Int) ^^^ BitVec.ofInt 64 (b : Int)).toNat = a ^^^ b
    rw [BitVec.toNat_xor]
    simp only [BitVec.ofInt_natCast, BitVec.toNat_ofNat]
    rw [Nat.mod_eq_of_lt (by omega), Nat.mod_eq_of_lt (by omega)]
  have hlt : a ^^^ b < 2 ^ 63 := Nat.xor_lt_two_pow (by omega) (by omega)
  rw [e, wr (by omega)]
  omega
theorem mixI_bd {bs : List Int} {l : Nat} {p : Int} (h : rdC bs l p) (hl : 0 < l) : 0 ≤ mixI bs l p ∧ mixI bs l p < 1000000000 := by
  obtain ⟨_, h2, h3, h4, h5⟩ := h
  have b1 := h5.get (p.tmod l).toNat
  have b2 := h5.get ((p * 7 + 3).tmod l).toNat
  have q : 0 ≤ p.tdiv l ∧ p.tdiv l ≤ p := by
    rw [Int.tdiv_eq_ediv_of_nonneg h3]
    exact ⟨Int.ediv_nonneg h3 (by omega), Int.ediv_le_self _ h3⟩
  unfold mixI
  omega
theorem pickI_bd {bs : List Int} {l : Nat} {p k : Int} (h : rdC bs l p) (hk : 1 ≤ k) : 0 ≤ pickI bs l p k ∧ pickI bs l p k < k := by
  unfold pickI
  split
  · omega
  rename_i hn
  have hl : 0 < l := by omega
  split
  · exact ⟨Int.tmod_nonneg _ (h.2.2.2.2.get _).1, Int.tmod_lt_of_pos _ (by omega)⟩
  · have hm := mixI_bd h hl
    exact ⟨Int.tmod_nonneg _ (xorI_bd hm.1 (by omega)).1, Int.tmod_lt_of_pos _ (by omega)⟩
theorem vk {k : IntKind} {a b : Int} (h : a = b) : Value.int k a = .int k b := by rw [h]
theorem pickS_ok : SpecOk Try.prog 122 pickS := by
  intro bs l c p rest0 ex v p' C h hC
  unfold pickS at h
  split at h
  rotate_left
  · cases h
  rename_i k
  obtain ⟨rfl, rfl, rfl⟩ : Value.int .i64 (pickI bs l p k) = v ∧ p + 1 = p' ∧ [rdC bs l p] = C := by simpa using h
  have hC := hC.1
  have hg := fun i => hC.2.2.2.2.get i
  have hC0 := hC
  obtain ⟨h1, h2, h3, h4, h5⟩ := hC
  refine ⟨tabE B0, 30, 12, tabE_ok B0_ok, rfl, ?_⟩
  rw [tr_pick]
  have e1 : IntKind.i64.wrap (p + 1) = p + 1 := wr (by omega)
  have e2 : IntKind.i64.wrap (p + 1 - 1) = p := by rw [wr (by omega)]; omega
  have e3 : IntKind.i64.wrap (p * 7) = p * 7 := wr (by omega)
  have e4 : IntKind.i64.wrap (p * 7 + 3) = p * 7 + 3 := wr (by omega)
  simp only [e1, e2, e3, e4, Nat.zero_add, Nat.mul_one]
  refine brT_ok.2 ⟨fun hk => ?_, fun hk => brT_ok.2 ⟨fun hl => ?_, fun hl => brT_ok.2 ⟨fun hp => ?_, fun hp => ?_⟩⟩⟩
  · have hk := of_decide_eq_true hk
    refine ⟨vk ?_, rfl⟩
    unfold pickI
    rw [if_pos (.inl hk)]
  · have hl : l = 0 := by simpa using hl
    refine ⟨vk ?_, rfl⟩
    unfold pickI
    rw [if_pos (.inr hl)]
  · have hk := of_decide_eq_false hk
    have hl : ¬ l = 0 := by simpa using hl
    have hp := of_decide_eq_true hp
    refine ⟨⟨h3, hp⟩, by omega, by omega, vk ?_, rfl⟩
    rw [wr (by have := hg p.toNat; omega)]
    unfold pickI
    rw [if_neg (by omega), if_pos hp]
  · have hk := of_decide_eq_false hk
    have hl : ¬ l = 0 := by simpa using hl
    have hp := of_decide_eq_false hp
    have hl0 : (0 : Int) < l := by omega
    have t1 : 0 ≤ p.tmod l ∧ p.tmod l < l := ⟨Int.tmod_nonneg _ h3, Int.tmod_lt_of_pos _ hl0⟩
    have t2 : 0 ≤ (p * 7 + 3).tmod l ∧ (p * 7 + 3).tmod l < l := ⟨Int.tmod_nonneg _ (by omega), Int.tmod_lt_of_pos _ hl0⟩
    have q : 0 ≤ p.tdiv l ∧ p.tdiv l ≤ p := by
      rw [Int.tdiv_eq_ediv_of_nonneg h3]
      exact ⟨Int.ediv_nonneg h3 (by omega), Int.ediv_le_self _ h3⟩
    have b1 := hg (p.tmod l).toNat
    have b2 := hg ((p * 7 + 3).tmod l).toNat
    have hm := mixI_bd hC0 (by omega)
    refine ⟨by omega, t1, by omega, by omega, t2, by omega, by omega, by omega, by omega, vk ?_, rfl⟩
    unfold pickI
    rw [if_neg (by omega), if_neg (by omega)]
    have em : IntKind.i64.wrap (IntKind.i64.wrap (IntKind.i64.wrap (IntKind.i64.wrap (IntKind.i64.wrap (bs.getD (p.tmod l).toNat 0) * 131) + IntKind.i64.wrap (IntKind.i64.wrap (bs.getD ((p * 7 + 3).tmod l).toNat 0) * 1117)) + IntKind.i64.wrap (p * 29)) + IntKind.i64.wrap (IntKind.i64.wrap (p.tdiv l) * 53)) = mixI bs l p := by
      clear hm
      unfold mixI
      generalize bs.getD (p.tmod l).toNat 0 = x1 at *
      generalize bs.getD ((p * 7 + 3).tmod l).toNat 0 = x2 at *
      generalize p.tdiv l = x3 at *
      simp (disch := omega) only [wr]
    rw [em]
    rfl
/-- The first table: pick. -/
def J1 : List (FuncId × RSpec) := [(122, pickS)]
theorem J1_ok : JOk Try.prog J1 := JOk.nil.cons (entersB_res (by kernel_rfl)).1 pickS_ok
def ER1 : Env := withJ (tabE B0) J1
theorem ER1_ok : EnvOk Try.prog ER1 := withJ_ok mixed (tabE_ok B0_ok) J1_ok
set_option maxRecDepth 100000 in
theorem tr_one (bs : List Int) (l c : Nat) (p : Int) (n : Nat) (xs : List Int) : bodyM Try.prog ER1 (runM Try.prog ER1 30 12) 30 141 [.pointer (some ⟨1, 0, none⟩), .slice (some ⟨2, 0, none⟩) n n] (memR bs l c p (some xs)) .fin = .need (rdC bs l p) (.need ((0 : Int) ≤ pickI bs l p (↑n : Int) ∧ pickI bs l p (↑n : Int) < (↑n : Int)) (.need ((0 : Nat) + (pickI bs l p (↑n : Int)).toNat * (1 : Nat) < xs.length) (.fin (.int .i64 (xs.getD (0 + (pickI bs l p (↑n : Int)).toNat * 1) 0)) [some ⟨.view, .bytes (bs)⟩, some ⟨.box, .vals [.slice (some ⟨0, 0, none⟩) (l) (c), .int .i64 (p + 1)]⟩, some ⟨.view, .ints (xs)⟩]))) := by kernel_rfl
set_option maxRecDepth 100000 in
theorem tr_rpt (bs : List Int) (l c : Nat) (p : Int) : bodyM Try.prog ER1 (runM Try.prog ER1 30 12) 30 123 [.pointer (some ⟨1, 0, none⟩)] (memR bs l c p none) .fin = .need (rdC bs l p) (.need (rdC bs l (p + (1 : Int))) (.fin (.agg #[.int .i64 (IntKind.i64.wrap (pickI bs l p 9 - 2)), .int .i64 (IntKind.i64.wrap (pickI bs l (p + 1) 9 - 2))]) [some ⟨.view, .bytes (bs)⟩, some ⟨.box, .vals [.slice (some ⟨0, 0, none⟩) (l) (c), .int .i64 (p + 1 + 1)]⟩, some ⟨.box, .vals [.int .i64 (IntKind.i64.wrap (pickI bs l p 9 - 2)), .int .i64 (IntKind.i64.wrap (pickI bs l (p + 1) 9 - 2))]⟩])) := by kernel_rfl
end Go.Proofs.Ytnjmepbblcfnfaa
namespace Go.Proofs.Ytnjmepbblcfnfaa
set_option linter.all false
open Go.RowKit
/-- The reader in order, with room for many more. -/
def rdK (bs : List Int) (l : Nat) (p : Int) : Prop := rdC bs l p ∧ p ≤ 900000
theorem rdK.at {bs : List Int} {l : Nat} {p : Int} (h : rdK bs l p) {q : Int} (h0 : p ≤ q) (h1 : q ≤ p + 90000) : rdC bs l q :=
  ⟨h.1.1, h.1.2.1, by have := h.1.2.2.1; omega, by have := h.2; omega, h.1.2.2.2.2⟩
def oneI (bs : List Int) (l : Nat) (p : Int) (n : Nat) (xs : List Int) : Int := xs.getD (pickI bs l p n).toNat 0
def oneS : RSpec := fun bs l p rest ex => match rest, ex with
  | [.slice (some ⟨2, 0, none⟩) n n'], some xs => some (.int .i64 (oneI bs l p n xs), p + 1, [rdC bs l p, 1 ≤ n ∧ n ≤ xs.length ∧ n' = n])
  | _, _ => none
theorem oneS_ok : SpecOk Try.prog 141 oneS := by
  intro bs l c p rest0 ex v p' C h hC
  unfold oneS at h
  split at h
  rotate_left
  · cases h
  rename_i n n' xs
  obtain ⟨rfl, rfl, rfl⟩ : Value.int .i64 (oneI bs l p n xs) = v ∧ p + 1 = p' ∧ [rdC bs l p, 1 ≤ n ∧ n ≤ xs.length ∧ n' = n] = C := by simpa using h
  obtain ⟨h1, ⟨h2, h3, rfl⟩, _⟩ := hC
  refine ⟨ER1, 30, 12, ER1_ok, rfl, ?_⟩
  rw [tr_one]
  have hb := pickI_bd (k := (n' : Int)) h1 (by omega)
  exact ⟨h1, hb, by omega, by simp only [oneI, Nat.zero_add, Nat.mul_one], rfl⟩
def rptS : RSpec := fun bs l p rest ex => match rest, ex with
  | [], none => some (.agg #[.int .i64 (pickI bs l p 9 - 2), .int .i64 (pickI bs l (p + 1) 9 - 2)], p + 2, [rdK bs l p])
  | _, _ => none
theorem box2 {bs : List Int} {l c : Nat} {p q : Int} (h : q = p) (r : List (Option Blk)) : (some ⟨.view, .bytes bs⟩ :: some ⟨.box, .vals [.slice (some ⟨0, 0, none⟩) l c, .int .i64 q]⟩ :: r : List (Option Blk)).getD 1 none = some (rdBox 0 l c p) := by rw [h]; rfl
theorem rptS_ok : SpecOk Try.prog 123 rptS := by
  intro bs l c p rest0 ex v p' C h hC
  unfold rptS at h
  split at h
  rotate_left
  · cases h
  obtain ⟨rfl, rfl, rfl⟩ : Value.agg #[.int .i64 (pickI bs l p 9 - 2), .int .i64 (pickI bs l (p + 1) 9 - 2)] = v ∧ p + 2 = p' ∧ [rdK bs l p] = C := by simpa using h
  have h1 := hC.1
  refine ⟨ER1, 30, 12, ER1_ok, rfl, ?_⟩
  rw [tr_rpt]
  have h2 := h1.at (q := p) (by omega) (by omega)
  have h3 := h1.at (q := p + 1) (by omega) (by omega)
  have b1 := pickI_bd (k := 9) h2 (by omega)
  have b2 := pickI_bd (k := 9) h3 (by omega)
  exact ⟨h2, h3, by rw [wr (by omega), wr (by omega)], box2 (by omega) _⟩
def J2 : List (FuncId × RSpec) := (141, oneS) :: (123, rptS) :: J1
theorem J2_ok : JOk Try.prog J2 := (J1_ok.cons (entersB_res (by kernel_rfl)).1 rptS_ok).cons (entersB_res (by kernel_rfl)).1 oneS_ok
def ER2 : Env := withJ (tabE B0) J2
theorem ER2_ok : EnvOk Try.prog ER2 := withJ_ok mixed (tabE_ok B0_ok) J2_ok
set_option maxRecDepth 100000 in
theorem tr_apt (bs : List Int) (l c : Nat) (p : Int) : bodyM Try.prog ER2 (runM Try.prog ER2 30 12) 30 106 [.pointer (some ⟨1, 0, none⟩)] (memR bs l c p none) .fin = .need (rdK bs l p) (.need (rdC bs l (p + (2 : Int))) (brT (pickI bs l (p + 2) 16 == 0) (.need (rdC bs l (p + (2 : Int) + (1 : Int))) (.need ((1 : Nat) ≤ (4 : Nat) ∧ (4 : Nat) ≤ (4 : Nat) ∧ (4 : Nat) = (4 : Nat)) (.fin (.agg #[.int .i64 (oneI bs l (p + 2 + 1) 4 [1001, -1001, 1000, -1000]), .int .i64 (pickI bs l (p + 1) 9 - 2)]) [some ⟨.view, .bytes (bs)⟩, some ⟨.box, .vals [.slice (some ⟨0, 0, none⟩) (l) (c), .int .i64 (p + 2 + 1 + 1)]⟩, some ⟨.box, .vals [.int .i64 (oneI bs l (p + 2 + 1) 4 [1001, -1001, 1000, -1000]), .int .i64 (pickI bs l (p + 1) 9 - 2)]⟩, some ⟨.box, .vals [.int .i64 (oneI bs l (p + 2 + 1) 4 [1001, -1001, 1000, -1000]), .int .i64 (pickI bs l (p + 1) 9 - 2)]⟩, some ⟨.row 3 1, .vals [.int .i64 (1001), .int .i64 (-1001), .int .i64 (1000), .int .i64 (-1000)]⟩]))) (brT (pickI bs l (p + 2) 16 == 1) (.need (rdC bs l (p + (2 : Int) + (1 : Int))) (.need ((1 : Nat) ≤ (4 : Nat) ∧ (4 : Nat) ≤ (4 : Nat) ∧ (4 : Nat) = (4 : Nat)) (.fin (.agg #[.int .i64 (pickI bs l p 9 - 2), .int .i64 (oneI bs l (p + 2 + 1) 4 [1001, -1001, 1000, -1000])]) [some ⟨.view, .bytes (bs)⟩, some ⟨.box, .vals [.slice (some ⟨0, 0, none⟩) (l) (c), .int .i64 (p + 2 + 1 + 1)]⟩, some ⟨.box, .vals [.int .i64 (pickI bs l p 9 - 2), .int .i64 (oneI bs l (p + 2 + 1) 4 [1001, -1001, 1000, -1000])]⟩, some ⟨.box, .vals [.int .i64 (pickI bs l p 9 - 2), .int .i64 (oneI bs l (p + 2 + 1) 4 [1001, -1001, 1000, -1000])]⟩, some ⟨.row 3 1, .vals [.int .i64 (1001), .int .i64 (-1001), .int .i64 (1000), .int .i64 (-1000)]⟩]))) (.fin (.agg #[.int .i64 (pickI bs l p 9 - 2), .int .i64 (pickI bs l (p + 1) 9 - 2)]) [some ⟨.view, .bytes (bs)⟩, some ⟨.box, .vals [.slice (some ⟨0, 0, none⟩) (l) (c), .int .i64 (p + 2 + 1)]⟩, some ⟨.box, .vals [.int .i64 (pickI bs l p 9 - 2), .int .i64 (pickI bs l (p + 1) 9 - 2)]⟩, some ⟨.box, .vals [.int .i64 (pickI bs l p 9 - 2), .int .i64 (pickI bs l (p + 1) 9 - 2)]⟩])))) := by kernel_rfl
def farI : List Int := [1001, -1001, 1000, -1000]
def apQ (bs : List Int) (l : Nat) (p : Int) : Int := pickI bs l (p + 2) 16
def apX (bs : List Int) (l : Nat) (p : Int) : Int := if apQ bs l p = 0 then oneI bs l (p + 3) 4 farI else pickI bs l p 9 - 2
def apY (bs : List Int) (l : Nat) (p : Int) : Int := if apQ bs l p = 1 then oneI bs l (p + 3) 4 farI else pickI bs l (p + 1) 9 - 2
def apP (bs : List Int) (l : Nat) (p : Int) : Int := if apQ bs l p = 0 ∨ apQ bs l p = 1 then p + 4 else p + 3
theorem apP_bd (bs : List Int) (l : Nat) (p : Int) : p + 3 ≤ apP bs l p ∧ apP bs l p ≤ p + 4 := by unfold apP; split <;> omega
def aptS : RSpec := fun bs l p rest ex => match rest, ex with
  | [], none => some (.agg #[.int .i64 (apX bs l p), .int .i64 (apY bs l p)], apP bs l p, [rdK bs l p])
  | _, _ => none
theorem veq2 {a a' b b' : Int} (h : a = a') (k : b = b') : Value.agg #[.int .i64 a, .int .i64 b] = .agg #[.int .i64 a', .int .i64 b'] := by rw [h, k]
theorem aptS_ok : SpecOk Try.prog 106 aptS := by
  intro bs l c p rest0 ex v p' C h hC
  unfold aptS at h
  split at h
  rotate_left
  · cases h
  obtain ⟨rfl, rfl, rfl⟩ : Value.agg #[.int .i64 (apX bs l p), .int .i64 (apY bs l p)] = v ∧ apP bs l p = p' ∧ [rdK bs l p] = C := by simpa using h
  have h1 := hC.1
  refine ⟨ER2, 30, 12, ER2_ok, rfl, ?_⟩
  rw [tr_apt]
  have e3 : p + 2 + 1 = p + 3 := by omega
  have e4 : p + 3 + 1 = p + 4 := by omega
  simp only [e3, e4]
  refine ⟨h1, h1.at (by omega) (by omega), brT_ok.2 ⟨fun hq => ?_, fun hq => brT_ok.2 ⟨fun hq' => ?_, fun hq' => ?_⟩⟩⟩
  · have hq : apQ bs l p = 0 := by simpa [apQ] using hq
    exact ⟨h1.at (by omega) (by omega), by decide, veq2 (by unfold apX; rw [if_pos hq]; rfl) (by unfold apY; rw [if_neg (by omega)]), box2 (by unfold apP; rw [if_pos (.inl hq)]) _⟩
  · have hq : ¬ apQ bs l p = 0 := by simpa [apQ] using hq
    have hq' : apQ bs l p = 1 := by simpa [apQ] using hq'
    exact ⟨h1.at (by omega) (by omega), by decide, veq2 (by unfold apX; rw [if_neg hq]) (by unfold apY; rw [if_pos hq']; rfl), box2 (by unfold apP; rw [if_pos (.inr hq')]) _⟩
  · have hq : ¬ apQ bs l p = 0 := by simpa [apQ] using hq
    have hq' : ¬ apQ bs l p = 1 := by simpa [apQ] using hq'
    exact ⟨veq2 (by unfold apX; rw [if_neg hq]) (by unfold apY; rw [if_neg hq']), box2 (by unfold apP; rw [if_neg (by omega)]) _⟩
def J3 : List (FuncId × RSpec) := (106, aptS) :: J2
theorem J3_ok : JOk Try.prog J3 := J2_ok.cons (entersB_res (by kernel_rfl)).1 aptS_ok
end Go.Proofs.Ytnjmepbblcfnfaa
namespace Go.Proofs.Ytnjmepbblcfnfaa
set_option linter.all false
open Go.RowKit
/-- How many bytes are read. -/
def rdL (n : Nat) : Nat := min n 2000
theorem rdL_of {n : Nat} (h : 2000 < (n : Int)) : rdL n = 2000 := by unfold rdL; omega
theorem rdL_no {n : Nat} (h : ¬ 2000 < (n : Int)) : rdL n = n := by unfold rdL; omega
theorem rdK0 {bs : List Int} {n : Nat} (h : Bytes bs) (hn : n ≤ bs.length) {l : Nat} (hl : l ≤ n) (h2 : l ≤ 2000) {p : Int} (h3 : 0 ≤ p) (h4 : p ≤ 900000) : rdK bs l p :=
  ⟨⟨by omega, h2, h3, by omega, h⟩, h4⟩
theorem bnd2000 {n : Nat} (h : 2000 < (n : Int)) : (0 : Int) ≤ bndI none (0 : Int) ∧ bndI none (0 : Int) ≤ bndI (some (IntKind.i64, (2000 : Int))) (↑n : Int) ∧ bndI (some (IntKind.i64, (2000 : Int))) (↑n : Int) ≤ (↑n : Int) := by
  refine ⟨Int.le_refl _, ?_, ?_⟩
  · show (0 : Int) ≤ 2000; omega
  · show (2000 : Int) ≤ n; omega
/-- The coordinates of the three points. -/
def d3 (bs : List Int) (n : Nat) : Nat → Int
  | 0 => apX bs (rdL n) 0
  | 1 => apY bs (rdL n) 0
  | 2 => apX bs (rdL n) (apP bs (rdL n) 0)
  | 3 => apY bs (rdL n) (apP bs (rdL n) 0)
  | 4 => apX bs (rdL n) (apP bs (rdL n) (apP bs (rdL n) 0))
  | _ => apY bs (rdL n) (apP bs (rdL n) (apP bs (rdL n) 0))
end Go.Proofs.Ytnjmepbblcfnfaa
namespace Go.Proofs.Ytnjmepbblcfnfaa
set_option linter.all false
open Go.RowKit
/-- One drawn point of a list of the kind k. -/
def rpt (bs : List Int) (l : Nat) (k p : Int) : Pt :=
  bif k == 0 then (pickI bs l p 9 - 2, IntKind.i64.wrap (IntKind.i64.wrap (2 * (pickI bs l p 9 - 2)) + 1))
  else bif k == 1 then (IntKind.i64.wrap ((pickI bs l p 9 - 2) * 100), IntKind.i64.wrap ((pickI bs l (p + 1) 9 - 2) * 37))
  else (pickI bs l p 9 - 2, pickI bs l (p + 1) 9 - 2)
/-- So many drawn points. -/
def rpL (bs : List Int) (l : Nat) (k : Int) : Nat → Int → List Pt
  | 0, _ => []
  | n + 1, p => rpt bs l k p :: rpL bs l k n (p + 2)
theorem rpL_len (bs : List Int) (l : Nat) (k : Int) : ∀ (n : Nat) (p : Int), (rpL bs l k n p).length = n
  | 0, _ => rfl
  | n + 1, p => by simp [rpL, rpL_len bs l k n]
theorem rpL_step (bs : List Int) (l : Nat) (k : Int) (n : Nat) (p : Int) (o : List Pt) : o ++ rpL bs l k (n + 1) p = (o ++ [rpt bs l k p]) ++ rpL bs l k n (p + 2) := by
  simp [rpL]
theorem flatA (o : List Pt) : List.take (o.length * 2) (List.drop 0 (flat o)) = flat o := by rw [List.drop_zero, flat_all]
noncomputable def c_rpts : Code := ((loopsOf (codeOf Try.f121))[0]?).getD .skip
def k_rpts : Ex → List Nat := keeps [0, 5, 6, 7] [(0, [5])] [4]
def s_rpts (bs : List Int) (l c : Nat) (k q : Int) : Nat × (List Pt) × Int → St := fun (n, o, p) => ⟨(.pointer (some ⟨1, 0, none⟩) :: topV :: topV :: topV :: topV :: .slice (some ⟨3, 0, none⟩) o.length o.length :: .int .i64 k :: .int .i64 n :: topV :: topV :: topV :: topV :: topV :: topV :: topV :: topV :: topV :: topV :: topV :: topV :: topV :: topV :: topV :: topV :: topV :: topV :: topV :: topV :: topV :: topV :: topV :: topV :: topV :: topV :: topV :: topV :: topV :: topV :: topV :: topV :: topV :: topV :: topV :: []), [some ⟨.view, .bytes bs⟩, some ⟨.box, .vals [.slice (some ⟨0, 0, none⟩) l c, .int .i64 p]⟩, some ⟨.dead, .vals []⟩, some ⟨.row 30 2, .ints (flat o)⟩]⟩
def re_rpts : Nat × (List Pt) × Int → Ex := fun _ => .exit 0
def rs_rpts (bs : List Int) (l c : Nat) (k q : Int) : Nat × (List Pt) × Int → St := fun (n, o, p) => ⟨(topV :: topV :: topV :: topV :: topV :: .slice (some ⟨3, 0, none⟩) (o ++ rpL bs l k n p).length (o ++ rpL bs l k n p).length :: topV :: topV :: topV :: topV :: topV :: topV :: topV :: topV :: topV :: topV :: topV :: topV :: topV :: topV :: topV :: topV :: topV :: topV :: topV :: topV :: topV :: topV :: topV :: topV :: topV :: topV :: topV :: topV :: topV :: topV :: topV :: topV :: topV :: topV :: topV :: topV :: topV :: []), [some ⟨.view, .bytes bs⟩, some ⟨.box, .vals [.slice (some ⟨0, 0, none⟩) l c, .int .i64 q]⟩, some ⟨.dead, .vals []⟩, some ⟨.row 30 2, .ints (flat (o ++ rpL bs l k n p))⟩]⟩
set_option maxRecDepth 100000 in
theorem tr_rpts (bs : List Int) (l c : Nat) (k q : Int) (n : Nat) (o : List Pt) (p : Int) : bodyL Try.prog ER2 30 12 noL 1 c_rpts k_rpts 16 (s_rpts bs l c k q (n, o, p)) = brT (decide (0 < (↑n : Int))) (.need (rdK bs l p) (brT (k == 0) (brT (k == 1) (.need ((o.length + (1 : Nat)) * (16 : Nat) ≤ (140737488355328 : Nat) ∧ o.length + (1 : Nat) ≤ (1000000 : Nat)) (.need ((0 : Nat) + o.length * (2 : Nat) ≤ (flat o).length) (.leaf .normal ⟨(.pointer (some ⟨1, 0, none⟩) :: topV :: topV :: topV :: topV :: .slice (some ⟨6, 0, none⟩) (o.length + 1) (o.length + 1) :: .int .i64 (k) :: .int .i64 (IntKind.i64.wrap ((↑n : Int) - 1)) :: topV :: topV :: topV :: topV :: topV :: topV :: topV :: topV :: topV :: topV :: topV :: topV :: topV :: topV :: topV :: topV :: topV :: topV :: topV :: topV :: topV :: topV :: topV :: topV :: topV :: topV :: topV :: topV :: topV :: topV :: topV :: topV :: topV :: topV :: topV :: []), [some ⟨.view, .bytes (bs)⟩, some ⟨.box, .vals [.slice (some ⟨0, 0, none⟩) (l) (c), .int .i64 (p + 2)]⟩, some deadB, some deadB, some ⟨.box, .vals [.int .i64 (IntKind.i64.wrap ((pickI bs l p 9 - 2) * 100)), .int .i64 (IntKind.i64.wrap (IntKind.i64.wrap (IntKind.i64.wrap (2 * (pickI bs l p 9 - 2)) + 1) * 37))]⟩, some ⟨.row 30 2, .vals [.int .i64 (IntKind.i64.wrap ((pickI bs l p 9 - 2) * 100)), .int .i64 (IntKind.i64.wrap (IntKind.i64.wrap (IntKind.i64.wrap (2 * (pickI bs l p 9 - 2)) + 1) * 37))]⟩, some ⟨.row 30 2, .ints (List.take (o.length * 2) (List.drop 0 (flat o)) ++ [IntKind.i64.wrap ((pickI bs l p 9 - 2) * 100), IntKind.i64.wrap (IntKind.i64.wrap (IntKind.i64.wrap (2 * (pickI bs l p 9 - 2)) + 1) * 37)])⟩]⟩))) (.need ((o.length + (1 : Nat)) * (16 : Nat) ≤ (140737488355328 : Nat) ∧ o.length + (1 : Nat) ≤ (1000000 : Nat)) (.need ((0 : Nat) + o.length * (2 : Nat) ≤ (flat o).length) (.leaf .normal ⟨(.pointer (some ⟨1, 0, none⟩) :: topV :: topV :: topV :: topV :: .slice (some ⟨6, 0, none⟩) (o.length + 1) (o.length + 1) :: .int .i64 (k) :: .int .i64 (IntKind.i64.wrap ((↑n : Int) - 1)) :: topV :: topV :: topV :: topV :: topV :: topV :: topV :: topV :: topV :: topV :: topV :: topV :: topV :: topV :: topV :: topV :: topV :: topV :: topV :: topV :: topV :: topV :: topV :: topV :: topV :: topV :: topV :: topV :: topV :: topV :: topV :: topV :: topV :: topV :: topV :: []), [some ⟨.view, .bytes (bs)⟩, some ⟨.box, .vals [.slice (some ⟨0, 0, none⟩) (l) (c), .int .i64 (p + 2)]⟩, some deadB, some deadB, some ⟨.box, .vals [.int .i64 (pickI bs l p 9 - 2), .int .i64 (IntKind.i64.wrap (IntKind.i64.wrap (2 * (pickI bs l p 9 - 2)) + 1))]⟩, some ⟨.row 30 2, .vals [.int .i64 (pickI bs l p 9 - 2), .int .i64 (IntKind.i64.wrap (IntKind.i64.wrap (2 * (pickI bs l p 9 - 2)) + 1))]⟩, some ⟨.row 30 2, .ints (List.take (o.length * 2) (List.drop 0 (flat o)) ++ [pickI bs l p 9 - 2, IntKind.i64.wrap (IntKind.i64.wrap (2 * (pickI bs l p 9 - 2)) + 1)])⟩]⟩)))) (brT (k == 1) (.need ((o.length + (1 : Nat)) * (16 : Nat) ≤ (140737488355328 : Nat) ∧ o.length + (1 : Nat) ≤ (1000000 : Nat)) (.need ((0 : Nat) + o.length * (2 : Nat) ≤ (flat o).length) (.leaf .normal ⟨(.pointer (some ⟨1, 0, none⟩) :: topV :: topV :: topV :: topV :: .slice (some ⟨6, 0, none⟩) (o.length + 1) (o.length + 1) :: .int .i64 (k) :: .int .i64 (IntKind.i64.wrap ((↑n : Int) - 1)) :: topV :: topV :: topV :: topV :: topV :: topV :: topV :: topV :: topV :: topV :: topV :: topV :: topV :: topV :: topV :: topV :: topV :: topV :: topV :: topV :: topV :: topV :: topV :: topV :: topV :: topV :: topV :: topV :: topV :: topV :: topV :: topV :: topV :: topV :: topV :: []), [some ⟨.view, .bytes (bs)⟩, some ⟨.box, .vals [.slice (some ⟨0, 0, none⟩) (l) (c), .int .i64 (p + 2)]⟩, some deadB, some deadB, some ⟨.box, .vals [.int .i64 (IntKind.i64.wrap ((pickI bs l p 9 - 2) * 100)), .int .i64 (IntKind.i64.wrap ((pickI bs l (p + 1) 9 - 2) * 37))]⟩, some ⟨.row 30 2, .vals [.int .i64 (IntKind.i64.wrap ((pickI bs l p 9 - 2) * 100)), .int .i64 (IntKind.i64.wrap ((pickI bs l (p + 1) 9 - 2) * 37))]⟩, some ⟨.row 30 2, .ints (List.take (o.length * 2) (List.drop 0 (flat o)) ++ [IntKind.i64.wrap ((pickI bs l p 9 - 2) * 100), IntKind.i64.wrap ((pickI bs l (p + 1) 9 - 2) * 37)])⟩]⟩))) (.need ((o.length + (1 : Nat)) * (16 : Nat) ≤ (140737488355328 : Nat) ∧ o.length + (1 : Nat) ≤ (1000000 : Nat)) (.need ((0 : Nat) + o.length * (2 : Nat) ≤ (flat o).length) (.leaf .normal ⟨(.pointer (some ⟨1, 0, none⟩) :: topV :: topV :: topV :: topV :: .slice (some ⟨6, 0, none⟩) (o.length + 1) (o.length + 1) :: .int .i64 (k) :: .int .i64 (IntKind.i64.wrap ((↑n : Int) - 1)) :: topV :: topV :: topV :: topV :: topV :: topV :: topV :: topV :: topV :: topV :: topV :: topV :: topV :: topV :: topV :: topV :: topV :: topV :: topV :: topV :: topV :: topV :: topV :: topV :: topV :: topV :: topV :: topV :: topV :: topV :: topV :: topV :: topV :: topV :: topV :: []), [some ⟨.view, .bytes (bs)⟩, some ⟨.box, .vals [.slice (some ⟨0, 0, none⟩) (l) (c), .int .i64 (p + 2)]⟩, some deadB, some deadB, some ⟨.box, .vals [.int .i64 (pickI bs l p 9 - 2), .int .i64 (pickI bs l (p + 1) 9 - 2)]⟩, some ⟨.row 30 2, .vals [.int .i64 (pickI bs l p 9 - 2), .int .i64 (pickI bs l (p + 1) 9 - 2)]⟩, some ⟨.row 30 2, .ints (List.take (o.length * 2) (List.drop 0 (flat o)) ++ [pickI bs l p 9 - 2, pickI bs l (p + 1) 9 - 2])⟩]⟩)))))) (.leaf (.exit 0) ⟨(topV :: topV :: topV :: topV :: topV :: .slice (some ⟨3, 0, none⟩) (o.length) (o.length) :: topV :: topV :: topV :: topV :: topV :: topV :: topV :: topV :: topV :: topV :: topV :: topV :: topV :: topV :: topV :: topV :: topV :: topV :: topV :: topV :: topV :: topV :: topV :: topV :: topV :: topV :: topV :: topV :: topV :: topV :: topV :: topV :: topV :: topV :: topV :: topV :: topV :: []), [some ⟨.view, .bytes (bs)⟩, some ⟨.box, .vals [.slice (some ⟨0, 0, none⟩) (l) (c), .int .i64 (p)]⟩, some deadB, some ⟨.row 30 2, .ints (flat o)⟩]⟩) := by kernel_rfl
set_option maxRecDepth 100000 in
theorem nl_rpts : loopsOf c_rpts = [] := by kernel_rfl
def inv_rpts (bs : List Int) (l c : Nat) (k q : Int) : Nat × (List Pt) × Int → Prop := fun (n, o, p) => o.length + n ≤ 100 ∧ q = p + 2 * n ∧ 0 ≤ p ∧ q ≤ 900000
def me_rpts (bs : List Int) (l c : Nat) (k q : Int) : Nat × (List Pt) × Int → Nat := fun (n, o, p) => n
/-- A round of this loop. -/
def Round_rpts (bs : List Int) (l c : Nat) (k q : Int) : Prop := ∀ xx : Nat × (List Pt) × Int, inv_rpts bs l c k q xx → (bodyL Try.prog ER2 30 12 noL 1 c_rpts k_rpts 16 (s_rpts bs l c k q xx)).ok (RoundEnd 3 (s_rpts bs l c k q) (inv_rpts bs l c k q) (me_rpts bs l c k q) re_rpts (rs_rpts bs l c k q) xx) (fun _ _ => False)
def e_rpts (s : St) (k : Ex → St → Tree) : Option Tree := match Nat.beq s.tmps.length 43, pickL s.tmps [0, 5, 6, 7], s.mem with
  | true, [.pointer (some ⟨1, 0, none⟩), .slice (some ⟨2, 0, none⟩) z _, .int .i64 k1, .int .i64 n1], [some ⟨.view, .bytes bs⟩, some ⟨.box, .vals [.slice (some ⟨0, 0, none⟩) l c, .int .i64 p]⟩, some ⟨.row 30 2, .vals []⟩] => some (needs [z = 0, 0 ≤ n1 ∧ n1 ≤ 100, l ≤ bs.length ∧ l ≤ 2000 ∧ Bytes bs, 0 ≤ p ∧ p ≤ 800000] (k (.exit 0) ⟨(topV :: topV :: topV :: topV :: topV :: .slice (some ⟨3, 0, none⟩) (rpL bs l k1 n1.toNat p).length (rpL bs l k1 n1.toNat p).length :: topV :: topV :: topV :: topV :: topV :: topV :: topV :: topV :: topV :: topV :: topV :: topV :: topV :: topV :: topV :: topV :: topV :: topV :: topV :: topV :: topV :: topV :: topV :: topV :: topV :: topV :: topV :: topV :: topV :: topV :: topV :: topV :: topV :: topV :: topV :: topV :: topV :: []), [some ⟨.view, .bytes bs⟩, some ⟨.box, .vals [.slice (some ⟨0, 0, none⟩) l c, .int .i64 (p + 2 * n1)]⟩, some ⟨.dead, .vals []⟩, some ⟨.row 30 2, .ints (flat (rpL bs l k1 n1.toNat p))⟩]⟩))
  | _, _, _ => none
theorem rpt0 {bs : List Int} {l : Nat} {k p : Int} (h : k = 0) : rpt bs l k p = (pickI bs l p 9 - 2, IntKind.i64.wrap (IntKind.i64.wrap (2 * (pickI bs l p 9 - 2)) + 1)) := by
  subst h; rfl
theorem rpt1 {bs : List Int} {l : Nat} {k p : Int} (h : k = 1) : rpt bs l k p = (IntKind.i64.wrap ((pickI bs l p 9 - 2) * 100), IntKind.i64.wrap ((pickI bs l (p + 1) 9 - 2) * 37)) := by
  subst h; rfl
theorem rpt2 {bs : List Int} {l : Nat} {k p : Int} (h : ¬ k = 0) (h' : ¬ k = 1) : rpt bs l k p = (pickI bs l p 9 - 2, pickI bs l (p + 1) 9 - 2) := by
  unfold rpt
  rw [beq_eq_false_iff_ne.2 h, beq_eq_false_iff_ne.2 h']
  rfl
set_option maxRecDepth 100000 in
theorem round_rpts (bs : List Int) (l c : Nat) (k q : Int) (h : l ≤ bs.length ∧ l ≤ 2000 ∧ Bytes bs) : Round_rpts bs l c k q := by
  rintro ⟨n, o, p⟩ ⟨h1, h2, h3, h4⟩
  rw [tr_rpts]
  simp only [brT_ok, Tree.ok, decide_eq_true_eq, decide_eq_false_iff_not, flatA, flat_length, Nat.zero_add, beq_iff_eq, beq_eq_false_iff_ne, ne_eq]
  have hr : rdK bs l p := ⟨⟨h.1, h.2.1, h3, by omega, h.2.2⟩, by omega⟩
  refine ⟨fun hlt => ⟨hr, ?_⟩, fun hge => ?_⟩
  · obtain ⟨n, rfl⟩ : ∃ m, n = m + 1 := ⟨n - 1, by omega⟩
    have e : IntKind.i64.wrap (((n + 1 : Nat) : Int) - 1) = (n : Int) := by rw [wr (by omega)]; omega
    rw [e]
    refine ⟨fun g0 => ⟨fun g1 => by omega, fun g1 => ?_⟩, fun g0 => ⟨fun g1 => ?_, fun g1 => ?_⟩⟩
    · rw [flat_snoc, ← rpt0 g0]
      refine ⟨by omega, by omega, (n, o ++ [rpt bs l k p], p + 2), [some 6], ⟨by simp; omega, by omega, by omega, by omega⟩, ?_, rfl, ?_, ?_⟩
      · show n < n + 1; omega
      · simp only [rs_rpts, rpL_step]
      · repeat' (first | exact True.intro | exact rfl | exact fun _ => rfl | (simp; done) | refine And.intro ?_ ?_)
    · rw [flat_snoc, ← rpt1 g1]
      refine ⟨by omega, by omega, (n, o ++ [rpt bs l k p], p + 2), [some 6], ⟨by simp; omega, by omega, by omega, by omega⟩, ?_, rfl, ?_, ?_⟩
      · show n < n + 1; omega
      · simp only [rs_rpts, rpL_step]
      · repeat' (first | exact True.intro | exact rfl | exact fun _ => rfl | (simp; done) | refine And.intro ?_ ?_)
    · rw [flat_snoc, ← rpt2 g0 g1]
      refine ⟨by omega, by omega, (n, o ++ [rpt bs l k p], p + 2), [some 6], ⟨by simp; omega, by omega, by omega, by omega⟩, ?_, rfl, ?_, ?_⟩
      · show n < n + 1; omega
      · simp only [rs_rpts, rpL_step]
      · repeat' (first | exact True.intro | exact rfl | exact fun _ => rfl | (simp; done) | refine And.intro ?_ ?_)
  · obtain rfl : n = 0 := by omega
    refine ⟨rfl, [some 3], ?_⟩
    obtain rfl : q = p := by omega
    simp only [rs_rpts, rpL, List.append_nil]
    repeat' (first | exact True.intro | exact rfl | exact fun _ => rfl | refine And.intro ?_ ?_)
set_option maxRecDepth 100000 in
theorem lg_rpts : LoopE Try.prog e_rpts c_rpts := by
  intro s k t F H hlt ht
  unfold e_rpts at hlt
  split at hlt
  rotate_left
  · cases hlt
  rename_i hlen hpick hmem
  obtain ⟨tmps, mem⟩ := s
  simp only at hlen hpick hmem
  subst hmem
  obtain rfl := Option.some.inj hlt
  obtain ⟨⟨rfl, h1, h2, h3, _⟩, ht2⟩ := needs_ok ht
  clear ht hlt
  obtain ⟨n, rfl⟩ := Int.eq_ofNat_of_zero_le h1.1
  simp only [Int.toNat_natCast] at ht2
  refine ⟨_, _, ht2, loop_run2 mixed ER2_ok (s_rpts _ _ _ _ _) (inv_rpts _ _ _ _ _) (me_rpts _ _ _ _ _) re_rpts (rs_rpts _ _ _ _ _) k_rpts (fun _ => rfl) (noLoops nl_rpts) (round_rpts _ _ _ _ _ h2) (x := (n, [], _)) ⟨by simp; omega, rfl, h3.1, by omega⟩ (π := [some 2]) rfl ?_⟩
  refine ⟨rfl, rfl, ?_, wvs_spread' [0, 5, 6, 7] hlen rfl ?_⟩
  · repeat' (first | exact True.intro | exact rfl | exact wv_top _ _ | exact fun _ => rfl | assumption | exact Eq.symm (by assumption) | exact vI0 rfl | refine And.intro ?_ ?_)
  · rw [hpick]
    repeat' (first | exact True.intro | exact rfl | exact wv_top _ _ | exact fun _ => rfl | assumption | exact Eq.symm (by assumption) | exact vI0 rfl | refine And.intro ?_ ?_)
theorem Lr_rpts {fn : Func} (hf : Try.prog.funcs[121]? = some fn) : LoopsGood Try.prog (lt1 e_rpts) 0 (codeOf fn) := by
  obtain rfl := fn_is Try.func121 hf
  exact lt1_good lg_rpts
def LRd1 : FuncId → LT := fun f => match f with
  | 121 => lt1 e_rpts
  | _ => noL
def ERL : Env := ⟨B0, fun _ _ => none, LRd1, tabJ J2, fun _ => noR⟩
theorem ERL_ok : EnvOk Try.prog ERL := ⟨B0_ok, fun _ _ _ _ _ h => (by cases h), (by
  intro f fn hf
  show LoopsGood Try.prog (LRd1 f) 0 (codeOf fn)
  unfold LRd1
  split
  all_goals first | with_reducible exact Lr_rpts hf | exact noL_good), tabJ_sound mixed J2_ok, fun _ _ _ => noR_good⟩
set_option maxRecDepth 100000 in
theorem tr_rptsF (bs : List Int) (l c : Nat) (p m : Int) : bodyM Try.prog ERL (runM Try.prog ERL 30 12) 30 121 [.pointer (some ⟨1, 0, none⟩), .int .i64 m] (memR bs l c p none) .fin = .need (rdC bs l p) (.need (rdC bs l (p + (1 : Int))) (.need ((0 : Nat) = (0 : Nat)) (.need ((0 : Int) ≤ pickI bs l (p + (1 : Int)) (IntKind.i64.wrap (m + (1 : Int))) ∧ pickI bs l (p + (1 : Int)) (IntKind.i64.wrap (m + (1 : Int))) ≤ (100 : Int)) (.need (l ≤ bs.length ∧ l ≤ (2000 : Nat) ∧ Bytes bs) (.need ((0 : Int) ≤ p + (1 : Int) + (1 : Int) ∧ p + (1 : Int) + (1 : Int) ≤ (800000 : Int)) (.fin (.slice (some ⟨3, 0, none⟩) ((rpL bs l (pickI bs l p 6) (pickI bs l (p + 1) (IntKind.i64.wrap (m + 1))).toNat (p + 1 + 1)).length) ((rpL bs l (pickI bs l p 6) (pickI bs l (p + 1) (IntKind.i64.wrap (m + 1))).toNat (p + 1 + 1)).length)) [some ⟨.view, .bytes (bs)⟩, some ⟨.box, .vals [.slice (some ⟨0, 0, none⟩) (l) (c), .int .i64 (p + 1 + 1 + 2 * pickI bs l (p + 1) (IntKind.i64.wrap (m + 1)))]⟩, some deadB, some ⟨.row 30 2, .ints (flat (rpL bs l (pickI bs l p 6) (pickI bs l (p + 1) (IntKind.i64.wrap (m + 1))).toNat (p + 1 + 1)))⟩])))))) := by kernel_rfl
def rpN (bs : List Int) (l : Nat) (p m : Int) : Int := pickI bs l (p + 1) (m + 1)
/-- A drawn list. -/
def rpsL (bs : List Int) (l : Nat) (p m : Int) : List Pt := rpL bs l (pickI bs l p 6) (rpN bs l p m).toNat (p + 2)
abbrev rowL (ps : List Pt) : Value := .slice (some ⟨0, 0, none⟩) ps.length ps.length
def rptsS : RSpecR := fun bs l p rest => match rest with
  | [.int .i64 m] => some (rowL (rpsL bs l p m), ⟨.row 30 2, .ints (flat (rpsL bs l p m))⟩, p + 2 + 2 * rpN bs l p m, [rdC bs l p, p ≤ 700000, 0 ≤ m ∧ m ≤ 90])
  | _ => none
theorem rptsS_ok : SpecROk Try.prog 121 rptsS := by
  intro bs l c p rest v b p' C h hC
  unfold rptsS at h
  split at h
  rotate_left
  · cases h
  rename_i m
  obtain ⟨rfl, rfl, rfl, rfl⟩ : rowL (rpsL bs l p m) = v ∧ (⟨.row 30 2, .ints (flat (rpsL bs l p m))⟩ : Blk) = b ∧ p + 2 + 2 * rpN bs l p m = p' ∧ [rdC bs l p, p ≤ 700000, 0 ≤ m ∧ m ≤ 90] = C := by simpa using h
  obtain ⟨h1, h2, h3, _⟩ := hC
  refine ⟨rfl, ERL, 30, 12, ERL_ok, ?_⟩
  rw [tr_rptsF]
  have w : IntKind.i64.wrap (m + 1) = m + 1 := wr (by omega)
  have r1 : rdC bs l (p + 1) := ⟨h1.1, h1.2.1, by have := h1.2.2.1; omega, by omega, h1.2.2.2.2⟩
  have b1 := pickI_bd (k := m + 1) r1 (by omega)
  have e : p + 1 + 1 = p + 2 := by omega
  have := h1.2.2.1
  rw [w, e]
  exact ⟨h1, r1, rfl, ⟨b1.1, by omega⟩, ⟨h1.1, h1.2.1, h1.2.2.2.2⟩, ⟨by omega, by omega⟩, rfl, some 3, ⟨rfl, rfl, rfl⟩, rfl, rfl, rfl⟩
def JL1 : TabJ := consR 121 (rdGR rptsS) (tabJ J2)
theorem JL1_ok : GSound Try.prog JL1.g := consR_ok mixed (tabJ_sound mixed J2_ok) (entersB_res (by kernel_rfl)).1 rptsS_ok
noncomputable def c_fill : Code := ((loopsOf (codeOf Try.f64))[0]?).getD .skip
def k_fill : Ex → List Nat := keeps [0, 5] [(1, [5]), (0, [5])] [4]
def s_fill (bs : List Int) (l c : Nat) (q : Int) : Nat × (List Pt) × Int → St := fun (n, o, p) => ⟨(.pointer (some ⟨1, 0, none⟩) :: topV :: topV :: topV :: topV :: .slice (some ⟨3, 0, none⟩) o.length o.length :: topV :: topV :: topV :: topV :: topV :: topV :: topV :: topV :: topV :: topV :: topV :: topV :: topV :: topV :: topV :: topV :: topV :: topV :: topV :: topV :: topV :: topV :: topV :: topV :: topV :: topV :: topV :: topV :: []), [some ⟨.view, .bytes bs⟩, some ⟨.box, .vals [.slice (some ⟨0, 0, none⟩) l c, .int .i64 p]⟩, some ⟨.dead, .vals []⟩, some ⟨.row 30 2, .ints (flat o)⟩]⟩
def re_fill : Nat × (List Pt) × Int → Ex := fun _ => .exit 1
def rs_fill (bs : List Int) (l c : Nat) (q : Int) : Nat × (List Pt) × Int → St := fun (n, o, p) => ⟨(topV :: topV :: topV :: topV :: topV :: .slice (some ⟨3, 0, none⟩) (o ++ rpL bs l 2 n p).length (o ++ rpL bs l 2 n p).length :: topV :: topV :: topV :: topV :: topV :: topV :: topV :: topV :: topV :: topV :: topV :: topV :: topV :: topV :: topV :: topV :: topV :: topV :: topV :: topV :: topV :: topV :: topV :: topV :: topV :: topV :: topV :: topV :: []), [some ⟨.view, .bytes bs⟩, some ⟨.box, .vals [.slice (some ⟨0, 0, none⟩) l c, .int .i64 q]⟩, some ⟨.dead, .vals []⟩, some ⟨.row 30 2, .ints (flat (o ++ rpL bs l 2 n p))⟩]⟩
set_option maxRecDepth 100000 in
theorem tr_fill (bs : List Int) (l c : Nat) (q : Int) (n : Nat) (o : List Pt) (p : Int) : bodyL Try.prog ER2 30 12 noL 1 c_fill k_fill 16 (s_fill bs l c q (n, o, p)) = brT (decide ((↑o.length : Int) < 21)) (.need (rdK bs l p) (.need ((o.length + (1 : Nat)) * (16 : Nat) ≤ (140737488355328 : Nat) ∧ o.length + (1 : Nat) ≤ (1000000 : Nat)) (.need ((0 : Nat) + o.length * (2 : Nat) ≤ (flat o).length) (.leaf .normal ⟨(.pointer (some ⟨1, 0, none⟩) :: topV :: topV :: topV :: topV :: .slice (some ⟨5, 0, none⟩) (o.length + 1) (o.length + 1) :: topV :: topV :: topV :: topV :: topV :: topV :: topV :: topV :: topV :: topV :: topV :: topV :: topV :: topV :: topV :: topV :: topV :: topV :: topV :: topV :: topV :: topV :: topV :: topV :: topV :: topV :: topV :: topV :: []), [some ⟨.view, .bytes (bs)⟩, some ⟨.box, .vals [.slice (some ⟨0, 0, none⟩) (l) (c), .int .i64 (p + 2)]⟩, some deadB, some deadB, some ⟨.row 30 2, .vals [.int .i64 (pickI bs l p 9 - 2), .int .i64 (pickI bs l (p + 1) 9 - 2)]⟩, some ⟨.row 30 2, .ints (List.take (o.length * 2) (List.drop 0 (flat o)) ++ [pickI bs l p 9 - 2, pickI bs l (p + 1) 9 - 2])⟩]⟩)))) (.leaf (.exit 1) ⟨(topV :: topV :: topV :: topV :: topV :: .slice (some ⟨3, 0, none⟩) (o.length) (o.length) :: topV :: topV :: topV :: topV :: topV :: topV :: topV :: topV :: topV :: topV :: topV :: topV :: topV :: topV :: topV :: topV :: topV :: topV :: topV :: topV :: topV :: topV :: topV :: topV :: topV :: topV :: topV :: topV :: []), [some ⟨.view, .bytes (bs)⟩, some ⟨.box, .vals [.slice (some ⟨0, 0, none⟩) (l) (c), .int .i64 (p)]⟩, some deadB, some ⟨.row 30 2, .ints (flat o)⟩]⟩) := by kernel_rfl
set_option maxRecDepth 100000 in
theorem nl_fill : loopsOf c_fill = [] := by kernel_rfl
def inv_fill (bs : List Int) (l c : Nat) (q : Int) : Nat × (List Pt) × Int → Prop := fun (n, o, p) => o.length + n = 21 ∧ q = p + 2 * n ∧ 0 ≤ p ∧ q ≤ 900000
def me_fill (bs : List Int) (l c : Nat) (q : Int) : Nat × (List Pt) × Int → Nat := fun (n, o, p) => n
/-- A round of this loop. -/
def Round_fill (bs : List Int) (l c : Nat) (q : Int) : Prop := ∀ xx : Nat × (List Pt) × Int, inv_fill bs l c q xx → (bodyL Try.prog ER2 30 12 noL 1 c_fill k_fill 16 (s_fill bs l c q xx)).ok (RoundEnd 3 (s_fill bs l c q) (inv_fill bs l c q) (me_fill bs l c q) re_fill (rs_fill bs l c q) xx) (fun _ _ => False)
def e_fill (s : St) (k : Ex → St → Tree) : Option Tree := match Nat.beq s.tmps.length 34, pickL s.tmps [0, 5], s.mem with
  | true, [.pointer (some ⟨1, 0, none⟩), .slice (some ⟨2, 0, none⟩) z _], [some ⟨.view, .bytes bs⟩, some ⟨.box, .vals [.slice (some ⟨0, 0, none⟩) l c, .int .i64 p]⟩, some ⟨.row 30 2, .ints xs⟩] => some (needs [xs.length = z * 2, z ≤ 21, l ≤ bs.length ∧ l ≤ 2000 ∧ Bytes bs, 0 ≤ p ∧ p ≤ 800000] (k (.exit 1) ⟨(topV :: topV :: topV :: topV :: topV :: .slice (some ⟨3, 0, none⟩) (ptsA z xs ++ rpL bs l 2 (21 - z) p).length (ptsA z xs ++ rpL bs l 2 (21 - z) p).length :: topV :: topV :: topV :: topV :: topV :: topV :: topV :: topV :: topV :: topV :: topV :: topV :: topV :: topV :: topV :: topV :: topV :: topV :: topV :: topV :: topV :: topV :: topV :: topV :: topV :: topV :: topV :: topV :: []), [some ⟨.view, .bytes bs⟩, some ⟨.box, .vals [.slice (some ⟨0, 0, none⟩) l c, .int .i64 (p + 2 * (21 - z : Nat))]⟩, some ⟨.dead, .vals []⟩, some ⟨.row 30 2, .ints (flat (ptsA z xs ++ rpL bs l 2 (21 - z) p))⟩]⟩))
  | _, _, _ => none
set_option maxRecDepth 100000 in
theorem round_fill (bs : List Int) (l c : Nat) (q : Int) (h : l ≤ bs.length ∧ l ≤ 2000 ∧ Bytes bs) : Round_fill bs l c q := by
  rintro ⟨n, o, p⟩ ⟨h1, h2, h3, h4⟩
  rw [tr_fill]
  simp only [brT_ok, Tree.ok, decide_eq_true_eq, decide_eq_false_iff_not, flatA, flat_length, Nat.zero_add]
  have hr : rdK bs l p := ⟨⟨h.1, h.2.1, h3, by omega, h.2.2⟩, by omega⟩
  refine ⟨fun hlt => ?_, fun hge => ?_⟩
  · obtain ⟨n, rfl⟩ : ∃ m, n = m + 1 := ⟨n - 1, by omega⟩
    rw [flat_snoc, ← rpt2 (k := 2) (by decide) (by decide)]
    refine ⟨hr, by omega, by omega, (n, o ++ [rpt bs l 2 p], p + 2), [some 5], ⟨by simp; omega, by omega, by omega, by omega⟩, ?_, rfl, ?_, ?_⟩
    · show n < n + 1; omega
    · simp only [rs_fill, rpL_step]
    · repeat' (first | exact True.intro | exact rfl | exact fun _ => rfl | (simp; done) | refine And.intro ?_ ?_)
  · obtain rfl : n = 0 := by omega
    refine ⟨rfl, [some 3], ?_⟩
    obtain rfl : q = p := by omega
    simp only [rs_fill, rpL, List.append_nil]
    repeat' (first | exact True.intro | exact rfl | exact fun _ => rfl | refine And.intro ?_ ?_)
set_option maxRecDepth 100000 in
theorem lg_fill : LoopE Try.prog e_fill c_fill := by
  intro s k t F H hlt ht
  unfold e_fill at hlt
  split at hlt
  rotate_left
  · cases hlt
  rename_i hlen hpick hmem
  obtain ⟨tmps, mem⟩ := s
  simp only at hlen hpick hmem
  subst hmem
  obtain rfl := Option.some.inj hlt
  obtain ⟨⟨h0, h1, h2, h3, _⟩, ht2⟩ := needs_ok ht
  clear ht hlt
  obtain ⟨ps, rfl, rfl⟩ := even_flat h0
  rw [ptsA_flat] at ht2
  refine ⟨_, _, ht2, loop_run2 mixed ER2_ok (s_fill _ _ _ _) (inv_fill _ _ _ _) (me_fill _ _ _ _) re_fill (rs_fill _ _ _ _) k_fill (fun _ => rfl) (noLoops nl_fill) (round_fill _ _ _ _ h2) (x := (21 - ps.length, ps, _)) ⟨by omega, rfl, h3.1, by omega⟩ (π := [some 2]) rfl ?_⟩
  refine ⟨rfl, rfl, ?_, wvs_spread' [0, 5] hlen rfl ?_⟩
  · repeat' (first | exact True.intro | exact rfl | exact wv_top _ _ | exact fun _ => rfl | assumption | exact Eq.symm (by assumption) | exact vI0 rfl | refine And.intro ?_ ?_)
  · rw [hpick]
    repeat' (first | exact True.intro | exact rfl | exact wv_top _ _ | exact fun _ => rfl | assumption | exact Eq.symm (by assumption) | exact vI0 rfl | refine And.intro ?_ ?_)
theorem Lr_fill {fn : Func} (hf : Try.prog.funcs[64]? = some fn) : LoopsGood Try.prog (lt1 e_fill) 0 (codeOf fn) := by
  obtain rfl := fn_is Try.func64 hf
  exact lt1_good lg_fill
def LRd2 : FuncId → LT := fun f => match f with
  | 64 => lt1 e_fill
  | _ => noL
def ERL2 : Env := ⟨B0, fun _ _ => none, LRd2, JL1, fun _ => noR⟩
theorem ERL2_ok : EnvOk Try.prog ERL2 := ⟨B0_ok, fun _ _ _ _ _ h => (by cases h), (by
  intro f fn hf
  show LoopsGood Try.prog (LRd2 f) 0 (codeOf fn)
  unfold LRd2
  split
  all_goals first | with_reducible exact Lr_fill hf | exact noL_good), JL1_ok, fun _ _ _ => noR_good⟩
set_option maxRecDepth 100000 in
theorem tr_aptsF (bs : List Int) (l c : Nat) (p m : Int) : bodyM Try.prog ERL2 (runM Try.prog ERL2 30 12) 30 64 [.pointer (some ⟨1, 0, none⟩), .int .i64 m] (memR bs l c p none) .fin = .need (rdC bs l p) (.need (p ≤ (700000 : Int)) (.need ((0 : Int) ≤ m ∧ m ≤ (90 : Int)) (brT (decide (0 < (↑(rpsL bs l p m).length : Int))) (.need (rdC bs l (p + (2 : Int) + (2 : Int) * rpN bs l p m)) (brT (pickI bs l (p + 2 + 2 * rpN bs l p m) 20 == 0) (.need (rdC bs l (p + (2 : Int) + (2 : Int) * rpN bs l p m + (1 : Int))) (.need ((0 : Int) ≤ pickI bs l (p + (2 : Int) + (2 : Int) * rpN bs l p m + (1 : Int)) (↑(rpsL bs l p m).length : Int) ∧ pickI bs l (p + (2 : Int) + (2 : Int) * rpN bs l p m + (1 : Int)) (↑(rpsL bs l p m).length : Int) < (↑(rpsL bs l p m).length : Int)) (.need ((0 : Nat) + (pickI bs l (p + (2 : Int) + (2 : Int) * rpN bs l p m + (1 : Int)) (↑(rpsL bs l p m).length : Int)).toNat * (2 : Nat) + (2 : Nat) ≤ (flat (rpsL bs l p m)).length) (.fin (.slice (some ⟨2, 0, none⟩) ((rpsL bs l p m).length) ((rpsL bs l p m).length)) [some ⟨.view, .bytes (bs)⟩, some ⟨.box, .vals [.slice (some ⟨0, 0, none⟩) (l) (c), .int .i64 (p + 2 + 2 * rpN bs l p m + 1 + 1)]⟩, some ⟨.row 30 2, .ints (setInts (flat (rpsL bs l p m)) (0 + (pickI bs l (p + 2 + 2 * rpN bs l p m + 1) (↑(rpsL bs l p m).length : Int)).toNat * 2) [1001, 0])⟩])))) (brT (pickI bs l (p + 2 + 2 * rpN bs l p m) 20 == 1) (.need ((flat (rpsL bs l p m)).length = (rpsL bs l p m).length * (2 : Nat)) (.need ((rpsL bs l p m).length ≤ (21 : Nat)) (.need (l ≤ bs.length ∧ l ≤ (2000 : Nat) ∧ Bytes bs) (.need ((0 : Int) ≤ p + (2 : Int) + (2 : Int) * rpN bs l p m + (1 : Int) ∧ p + (2 : Int) + (2 : Int) * rpN bs l p m + (1 : Int) ≤ (800000 : Int)) (.fin (.slice (some ⟨3, 0, none⟩) ((ptsA (rpsL bs l p m).length (flat (rpsL bs l p m)) ++ rpL bs l 2 (21 - (rpsL bs l p m).length) (p + 2 + 2 * rpN bs l p m + 1)).length) ((ptsA (rpsL bs l p m).length (flat (rpsL bs l p m)) ++ rpL bs l 2 (21 - (rpsL bs l p m).length) (p + 2 + 2 * rpN bs l p m + 1)).length)) [some ⟨.view, .bytes (bs)⟩, some ⟨.box, .vals [.slice (some ⟨0, 0, none⟩) (l) (c), .int .i64 (p + 2 + 2 * rpN bs l p m + 1 + 2 * (↑(21 - (rpsL bs l p m).length) : Int))]⟩, some deadB, some ⟨.row 30 2, .ints (flat (ptsA (rpsL bs l p m).length (flat (rpsL bs l p m)) ++ rpL bs l 2 (21 - (rpsL bs l p m).length) (p + 2 + 2 * rpN bs l p m + 1)))⟩]))))) (.fin (.slice (some ⟨2, 0, none⟩) ((rpsL bs l p m).length) ((rpsL bs l p m).length)) [some ⟨.view, .bytes (bs)⟩, some ⟨.box, .vals [.slice (some ⟨0, 0, none⟩) (l) (c), .int .i64 (p + 2 + 2 * rpN bs l p m + 1)]⟩, some ⟨.row 30 2, .ints (flat (rpsL bs l p m))⟩])))) (.fin (.slice (some ⟨2, 0, none⟩) ((rpsL bs l p m).length) ((rpsL bs l p m).length)) [some ⟨.view, .bytes (bs)⟩, some ⟨.box, .vals [.slice (some ⟨0, 0, none⟩) (l) (c), .int .i64 (p + 2 + 2 * rpN bs l p m)]⟩, some ⟨.row 30 2, .ints (flat (rpsL bs l p m))⟩])))) := by kernel_rfl
def aq1 (bs : List Int) (l : Nat) (p m : Int) : Int := p + 2 + 2 * rpN bs l p m
def aqQ (bs : List Int) (l : Nat) (p m : Int) : Int := pickI bs l (aq1 bs l p m) 20
/-- A drawn list, perhaps not valid. -/
def apsL (bs : List Int) (l : Nat) (p m : Int) : List Pt :=
  if (rpsL bs l p m).length = 0 then rpsL bs l p m
  else if aqQ bs l p m = 0 then (rpsL bs l p m).set (pickI bs l (aq1 bs l p m + 1) (rpsL bs l p m).length).toNat (1001, 0)
  else if aqQ bs l p m = 1 then rpsL bs l p m ++ rpL bs l 2 (21 - (rpsL bs l p m).length) (aq1 bs l p m + 1)
  else rpsL bs l p m
/-- The place behind it. -/
def apsP (bs : List Int) (l : Nat) (p m : Int) : Int :=
  if (rpsL bs l p m).length = 0 then aq1 bs l p m
  else if aqQ bs l p m = 0 then aq1 bs l p m + 2
  else if aqQ bs l p m = 1 then aq1 bs l p m + 1 + 2 * (21 - (rpsL bs l p m).length : Nat)
  else aq1 bs l p m + 1
theorem rpsL_len {bs : List Int} {l : Nat} {p m : Int} (h : rdC bs l (p + 1)) (hm : 0 ≤ m ∧ m ≤ 20) : (rpsL bs l p m).length ≤ 20 ∧ (rpsL bs l p m).length = (rpN bs l p m).toNat ∧ 0 ≤ rpN bs l p m ∧ rpN bs l p m ≤ 20 := by
  have b1 := pickI_bd (k := m + 1) h (by omega)
  unfold rpsL
  rw [rpL_len]
  unfold rpN
  omega
def aptsS : RSpecR := fun bs l p rest => match rest with
  | [.int .i64 m] => some (rowL (apsL bs l p m), ⟨.row 30 2, .ints (flat (apsL bs l p m))⟩, apsP bs l p m, [rdC bs l p, p ≤ 600000, 0 ≤ m ∧ m ≤ 20])
  | _ => none
theorem aptsS_ok : SpecROk Try.prog 64 aptsS := by
  intro bs l c p rest v b p' C h hC
  unfold aptsS at h
  split at h
  rotate_left
  · cases h
  rename_i m
  obtain ⟨rfl, rfl, rfl, rfl⟩ : rowL (apsL bs l p m) = v ∧ (⟨.row 30 2, .ints (flat (apsL bs l p m))⟩ : Blk) = b ∧ apsP bs l p m = p' ∧ [rdC bs l p, p ≤ 600000, 0 ≤ m ∧ m ≤ 20] = C := by simpa using h
  obtain ⟨h1, h2, h3, _⟩ := hC
  refine ⟨rfl, ERL2, 30, 12, ERL2_ok, ?_⟩
  rw [tr_aptsF]
  have h0 := h1.2.2.1
  have r1 : rdC bs l (p + 1) := ⟨h1.1, h1.2.1, by omega, by omega, h1.2.2.2.2⟩
  obtain ⟨L1, L2, L3, L4⟩ := rpsL_len (m := m) r1 h3
  have ea : p + 2 + 2 * rpN bs l p m = aq1 bs l p m := rfl
  have ba : p + 2 ≤ aq1 bs l p m ∧ aq1 bs l p m ≤ p + 42 := by unfold aq1; omega
  rw [ea]
  have ra : ∀ q : Int, aq1 bs l p m ≤ q → q ≤ p + 100 → rdC bs l q := fun q g1 g2 => ⟨h1.1, h1.2.1, by omega, by omega, h1.2.2.2.2⟩
  refine ⟨h1, by omega, ⟨by omega, by omega⟩, brT_ok.2 ⟨fun hlen => ?_, fun hlen => ?_⟩⟩
  · have hlen := of_decide_eq_true hlen
    have hne : ¬ (rpsL bs l p m).length = 0 := by omega
    refine ⟨ra _ (by omega) (by omega), brT_ok.2 ⟨fun hq => ?_, fun hq => brT_ok.2 ⟨fun hq' => ?_, fun hq' => ?_⟩⟩⟩
    · have hq : aqQ bs l p m = 0 := by simpa [aqQ] using hq
      have e1 : apsL bs l p m = (rpsL bs l p m).set (pickI bs l (aq1 bs l p m + 1) (rpsL bs l p m).length).toNat (1001, 0) := by unfold apsL; rw [if_neg hne, if_pos hq]
      have e2 : apsP bs l p m = aq1 bs l p m + 2 := by unfold apsP; rw [if_neg hne, if_pos hq]
      have rb := ra (aq1 bs l p m + 1) (by omega) (by omega)
      have pb := pickI_bd (k := ((rpsL bs l p m).length : Int)) rb (by omega)
      rw [e1, e2]
      have hs := flat_set (rpsL bs l p m) (pickI bs l (aq1 bs l p m + 1) (rpsL bs l p m).length).toNat (by omega) 1001 0
      refine ⟨rb, pb, by rw [flat_length]; omega, box2 (by omega) _, some 2, ⟨rfl, rfl, by rw [List.length_set]⟩, rfl, rfl, ?_⟩
      rw [Nat.zero_add]
      exact hs
    · have hq : ¬ aqQ bs l p m = 0 := by simpa [aqQ] using hq
      have hq' : aqQ bs l p m = 1 := by simpa [aqQ] using hq'
      have e1 : apsL bs l p m = rpsL bs l p m ++ rpL bs l 2 (21 - (rpsL bs l p m).length) (aq1 bs l p m + 1) := by unfold apsL; rw [if_neg hne, if_neg hq, if_pos hq']
      have e2 : apsP bs l p m = aq1 bs l p m + 1 + 2 * (21 - (rpsL bs l p m).length : Nat) := by unfold apsP; rw [if_neg hne, if_neg hq, if_pos hq']
      rw [e1, e2, ptsA_flat]
      exact ⟨by rw [flat_length], by omega, ⟨h1.1, h1.2.1, h1.2.2.2.2⟩, ⟨by omega, by omega⟩, rfl, some 3, ⟨rfl, rfl, rfl⟩, rfl, rfl, rfl⟩
    · have hq : ¬ aqQ bs l p m = 0 := by simpa [aqQ] using hq
      have hq' : ¬ aqQ bs l p m = 1 := by simpa [aqQ] using hq'
      have e1 : apsL bs l p m = rpsL bs l p m := by unfold apsL; rw [if_neg hne, if_neg hq, if_neg hq']
      have e2 : apsP bs l p m = aq1 bs l p m + 1 := by unfold apsP; rw [if_neg hne, if_neg hq, if_neg hq']
      rw [e1, e2]
      exact ⟨rfl, some 2, ⟨rfl, rfl, rfl⟩, rfl, rfl, rfl⟩
  · have hlen := of_decide_eq_false hlen
    have hz : (rpsL bs l p m).length = 0 := by omega
    have e1 : apsL bs l p m = rpsL bs l p m := by unfold apsL; rw [if_pos hz]
    have e2 : apsP bs l p m = aq1 bs l p m := by unfold apsP; rw [if_pos hz]
    rw [e1, e2]
    exact ⟨rfl, some 2, ⟨rfl, rfl, rfl⟩, rfl, rfl, rfl⟩
/-- The reader's operations, drawn lists among them. -/
def JL2 : TabJ := consR 64 (rdGR aptsS) (tabJ J3)
theorem JL2_ok : GSound Try.prog JL2.g := consR_ok mixed (tabJ_sound mixed J3_ok) (entersB_res (by kernel_rfl)).1 aptsS_ok
theorem apsL_len {bs : List Int} {l : Nat} {p m : Int} (h : rdC bs l (p + 1)) (hm : 0 ≤ m ∧ m ≤ 20) : (apsL bs l p m).length ≤ 21 := by
  obtain ⟨L1, _⟩ := rpsL_len (m := m) h hm
  unfold apsL
  split
  · omega
  split
  · rw [List.length_set]; omega
  split
  · rw [List.length_append, rpL_len]; omega
  · omega
theorem apsP_bd {bs : List Int} {l : Nat} {p m : Int} (h : rdC bs l (p + 1)) (hm : 0 ≤ m ∧ m ≤ 20) : p + 2 ≤ apsP bs l p m ∧ apsP bs l p m ≤ p + 100 := by
  obtain ⟨L1, L2, L3, L4⟩ := rpsL_len (m := m) h hm
  unfold apsP aq1
  split
  · omega
  split
  · omega
  split <;> omega
end Go.Proofs.Ytnjmepbblcfnfaa
namespace Go.Proofs.Ytnjmepbblcfnfaa
set_option linter.all false
open Go.RowKit
def EDr : Env := ⟨B0, fun _ _ => none, fun _ => noL, JL2, fun _ => noR⟩
theorem EDr_ok : EnvOk Try.prog EDr := ⟨B0_ok, fun _ _ _ _ _ h => (by cases h), fun _ _ _ => noL_good, JL2_ok, fun _ _ _ => noR_good⟩
theorem drKey {bs : List Int} {n : Nat} (hb : Bytes bs) (hn : n ≤ bs.length) {l : Nat} (h1 : l ≤ n) (h2 : l ≤ 2000) {m : Int} (hm : 0 ≤ m ∧ m ≤ 20) : rdC bs l 0 ∧ rdK bs l (apsP bs l 0 m) ∧ rdC bs l (apP bs l (apsP bs l 0 m)) ∧ (apsL bs l 0 m).length ≤ 21 := by
  have r0 : rdK bs l 0 := rdK0 hb hn h1 h2 (by omega) (by omega)
  have r1 : rdC bs l (0 + 1) := r0.at (by omega) (by omega)
  have b1 := apsP_bd (m := m) r1 hm
  have r2 : rdK bs l (apsP bs l 0 m) := rdK0 hb hn h1 h2 (by omega) (by omega)
  have b2 := apP_bd bs l (apsP bs l 0 m)
  exact ⟨r0.1, r2, r2.at (by omega) (by omega), apsL_len r1 hm⟩
end Go.Proofs.Ytnjmepbblcfnfaa
namespace Go.Proofs.Ytnjmepbblcfnfaa
set_option linter.all false
open Go.RowKit
theorem negT_ (b : Bool) : negB true b = !b := by cases b <;> rfl
theorem negF_ (b : Bool) : negB false b = b := by cases b <;> rfl
end Go.Proofs.Ytnjmepbblcfnfaa
namespace Go.Proofs.Ytnjmepbblcfnfaa
set_option linter.all false
open Go.RowKit
/-- The point at j is another. -/
def npQ (ps : List Pt) (x y : Int) (j : Nat) : Bool := !((ps.getD j (0, 0)).1 == x && (ps.getD j (0, 0)).2 == y)
noncomputable def c_hsp : Code := ((loopsOf (codeOf Try.f21))[0]?).getD .skip
def k_hsp : Ex → List Nat := keeps [0, 3, 5] [(0, [])] [4]
def s_hsp (ps : List Pt) (x y : Int) : Nat → St := fun i => ⟨[.slice (some ⟨0, 0, none⟩) ps.length ps.length, topV, topV, .pointer (some ⟨2, 0, none⟩), topV, .int .i64 i, topV, topV, topV, topV, topV, topV, topV, topV, topV, topV, topV, topV], [some ⟨.view, .ints (flat ps)⟩, none, some ⟨.box, .vals [.int .i64 x, .int .i64 y]⟩]⟩
def re_hsp (ps : List Pt) (x y : Int) : Nat → Ex := fun i => bif allQ (npQ ps x y) i (ps.length - i) then .exit 0 else .ret
def rs_hsp (ps : List Pt) (x y : Int) : Nat → St := fun i => bif allQ (npQ ps x y) i (ps.length - i) then ⟨[topV, topV, topV, topV, topV, topV, topV, topV, topV, topV, topV, topV, topV, topV, topV, topV, topV, topV], [some ⟨.view, .ints (flat ps)⟩, none, some ⟨.box, .vals [.int .i64 x, .int .i64 y]⟩]⟩ else ⟨[topV, topV, topV, topV, .bool true, topV, topV, topV, topV, topV, topV, topV, topV, topV, topV, topV, topV, topV], [some ⟨.view, .ints (flat ps)⟩, none, some ⟨.box, .vals [.int .i64 x, .int .i64 y]⟩]⟩
set_option maxRecDepth 100000 in
theorem tr_hsp (ps : List Pt) (x y : Int) (i : Nat) : bodyL Try.prog EM 30 12 noL 1 c_hsp k_hsp 3 (s_hsp ps x y i) = brT (decide ((↑i : Int) < (↑ps.length : Int))) (.need ((0 : Int) ≤ (↑i : Int) ∧ (↑i : Int) < (↑ps.length : Int)) (.need ((0 : Nat) + (↑i : Int).toNat * (2 : Nat) + (2 : Nat) ≤ (flat ps).length) (brT (negB false ((flat ps).getD (0 + (↑i : Int).toNat * 2) 0 == x && ((flat ps).getD (0 + (↑i : Int).toNat * 2 + 1) 0 == y && true))) (.leaf .ret ⟨[topV, topV, topV, topV, .bool (true), topV, topV, topV, topV, topV, topV, topV, topV, topV, topV, topV, topV, topV], [some ⟨.view, .ints (flat ps)⟩, none, some ⟨.box, .vals [.int .i64 (x), .int .i64 (y)]⟩]⟩) (.leaf .normal ⟨[.slice (some ⟨0, 0, none⟩) (ps.length) (ps.length), topV, topV, .pointer (some ⟨2, 0, none⟩), topV, .int .i64 (IntKind.i64.wrap ((↑i : Int) + 1)), topV, topV, topV, topV, topV, topV, topV, topV, topV, topV, topV, topV], [some ⟨.view, .ints (flat ps)⟩, none, some ⟨.box, .vals [.int .i64 (x), .int .i64 (y)]⟩]⟩)))) (.leaf (.exit 0) ⟨[topV, topV, topV, topV, topV, topV, topV, topV, topV, topV, topV, topV, topV, topV, topV, topV, topV, topV], [some ⟨.view, .ints (flat ps)⟩, none, some ⟨.box, .vals [.int .i64 (x), .int .i64 (y)]⟩]⟩) := by kernel_rfl
set_option maxRecDepth 100000 in
theorem nl_hsp : loopsOf c_hsp = [] := by kernel_rfl
def inv_hsp (ps : List Pt) (x y : Int) : Nat → Prop := fun i => i ≤ ps.length
def me_hsp (ps : List Pt) (x y : Int) : Nat → Nat := fun i => ps.length - i
/-- A round of this loop. -/
def Round_hsp (ps : List Pt) (x y : Int) : Prop := ∀ xx : Nat, inv_hsp ps x y xx → (bodyL Try.prog EM 30 12 noL 1 c_hsp k_hsp 3 (s_hsp ps x y xx)).ok (RoundEnd 3 (s_hsp ps x y) (inv_hsp ps x y) (me_hsp ps x y) (re_hsp ps x y) (rs_hsp ps x y) xx) (fun _ _ => False)
def e_hsp (s : St) (k : Ex → St → Tree) : Option Tree := match Nat.beq s.tmps.length 18, pickL s.tmps [0, 3, 5], s.mem with
  | true, [.slice (some ⟨0, 0, none⟩) n _, .pointer (some ⟨2, 0, none⟩), .int .i64 i], [some ⟨.view, .ints xs⟩, none, some ⟨.box, .vals [.int .i64 x, .int .i64 y]⟩] => some (needs [i = 0, xs.length = n * 2, n ≤ 1000000000] (brT (allQ (npQ (ptsA n xs) x y) 0 n) (k (.exit 0) ⟨[topV, topV, topV, topV, topV, topV, topV, topV, topV, topV, topV, topV, topV, topV, topV, topV, topV, topV], [some ⟨.view, .ints xs⟩, none, some ⟨.box, .vals [.int .i64 x, .int .i64 y]⟩]⟩) (k .ret ⟨[topV, topV, topV, topV, .bool true, topV, topV, topV, topV, topV, topV, topV, topV, topV, topV, topV, topV, topV], [some ⟨.view, .ints xs⟩, none, some ⟨.box, .vals [.int .i64 x, .int .i64 y]⟩]⟩)))
  | _, _, _ => none
set_option maxRecDepth 100000 in
theorem round_hsp (ps : List Pt) (x y : Int) (h : ps.length ≤ 1000000000) : Round_hsp ps x y := by
  intro i h1
  have h1 : i ≤ ps.length := h1
  rw [tr_hsp]
  simp only [Int.toNat_natCast, Nat.zero_add, Nat.add_zero, flat_length, flat_get0, flat_get1]
  refine brT_ok.2 ⟨fun hlt => ?_, fun hge => ?_⟩
  · have hlt := of_decide_eq_true hlt
    have hi : i < ps.length := by omega
    have st := allQ_step (P := npQ ps x y) (i := i) (n := ps.length) hi
    have hn : npQ ps x y i = !((ps.getD i (0, 0)).1 == x && (ps.getD i (0, 0)).2 == y) := rfl
    rw [wsucc (n := ps.length) hi h]
    generalize ps.getD i (0, 0) = p at *
    rcases g1 : p.1 == x with _ | _ <;> rcases g2 : p.2 == y with _ | _
    all_goals
      rw [g1, g2] at hn
      rw [hn] at st
      simp only [g1, g2, negT_, negF_, brT_t, brT_f, Bool.not_true, Bool.not_false, Bool.and_true, Bool.and_false, Bool.true_and, Bool.false_and, cond_true, cond_false, Tree.ok] at st ⊢
      repeat (refine And.intro (by omega) ?_)
    iterate 3
      refine ⟨i + 1, [], ?_, ?_, by simp only [re_hsp, st], by simp only [rs_hsp, st], ?_⟩
      · show i + 1 ≤ ps.length; omega
      · show ps.length - (i + 1) < ps.length - i; omega
      · repeat' (first | exact True.intro | exact rfl | exact fun _ => rfl | refine And.intro ?_ ?_)
    refine ⟨by simp only [re_hsp, st, cond_false], [], ?_⟩
    simp only [rs_hsp, st, cond_false]
    repeat' (first | exact True.intro | exact rfl | exact fun _ => rfl | refine And.intro ?_ ?_)
  · have hge := of_decide_eq_false hge
    have e : allQ (npQ ps x y) i (ps.length - i) = true := allQ_end (by omega)
    refine ⟨by simp only [re_hsp, e, cond_true], [], ?_⟩
    simp only [rs_hsp, e, cond_true]
    repeat' (first | exact True.intro | exact rfl | exact fun _ => rfl | refine And.intro ?_ ?_)
set_option maxRecDepth 100000 in
theorem lg_hsp : LoopE Try.prog e_hsp c_hsp := by
  intro s k t F H hlt ht
  unfold e_hsp at hlt
  split at hlt
  rotate_left
  · cases hlt
  rename_i hlen hpick hmem
  obtain ⟨tmps, mem⟩ := s
  simp only at hlen hpick hmem
  subst hmem
  obtain rfl := Option.some.inj hlt
  obtain ⟨⟨rfl, h1, h2, _⟩, ht2⟩ := needs_ok ht
  clear ht hlt
  obtain ⟨ps, rfl, rfl⟩ := even_flat h1
  rw [ptsA_flat] at ht2
  refine ⟨_, _, pick2k ht2, loop_run mixed EM_ok (s_hsp ps _ _) (inv_hsp ps _ _) (me_hsp ps _ _) (re_hsp ps _ _) (rs_hsp ps _ _) k_hsp (fun _ => rfl) (noLoops nl_hsp) (round_hsp ps _ _ h2) (x := 0) (Nat.zero_le _) (π := []) rfl ?_⟩
  refine ⟨rfl, rfl, ?_, wvs_spread' [0, 3, 5] hlen rfl ?_⟩
  · repeat' (first | exact True.intro | exact rfl | exact wv_top _ _ | exact fun _ => rfl | assumption | exact Eq.symm (by assumption) | exact vI0 rfl | refine And.intro ?_ ?_)
  · rw [hpick]
    repeat' (first | exact True.intro | exact rfl | exact wv_top _ _ | exact fun _ => rfl | assumption | exact Eq.symm (by assumption) | exact vI0 rfl | refine And.intro ?_ ?_)
theorem Lr_hsp {fn : Func} (hf : Try.prog.funcs[21]? = some fn) : LoopsGood Try.prog (lt1 e_hsp) 0 (codeOf fn) := by
  obtain rfl := fn_is Try.func21 hf
  exact lt1_good lg_hsp
def LHs : FuncId → LT := fun f => match f with
  | 21 => lt1 e_hsp
  | _ => noL
def EHs : Env := mkE B0 (fun _ _ => none) LHs
theorem EHs_ok : EnvOk Try.prog EHs := mkEOk B0_ok (fun _ _ _ _ _ h => (by cases h)) (by
  intro f fn hf
  unfold LHs
  split
  all_goals first | with_reducible exact Lr_hsp hf | exact noL_good)
set_option maxRecDepth 100000 in
theorem tr_hspF (ps : List Pt) (x y : Int) : bodyV Try.prog EHs 30 12 21 [.row ps.length (.ints (flat ps)), .v (.agg ⟨[.int .i64 x, .int .i64 y]⟩)] = .need ((0 : Int) = (0 : Int)) (.need ((flat ps).length = ps.length * (2 : Nat)) (.need (ps.length ≤ (1000000000 : Nat)) (brT (allQ (npQ (ptsA ps.length (flat ps)) x y) 0 ps.length) (.fin (.bool (false)) []) (.fin (.bool (true)) [])))) := by kernel_rfl
theorem res_hsp (x y : Int) (ps : List Pt) (h : Big ps) : Res Try.prog 21 [.row ps.length (.ints (flat ps)), .v (.agg ⟨[.int .i64 x, .int .i64 y]⟩)] (.bool (!allQ (npQ ps x y) 0 ps.length)) := by
  refine bodyV_res mixed EHs_ok (m := 30) (n := 12) rfl ?_
  rw [tr_hspF]
  unfold Big at h
  simp only [ptsA_flat]
  rcases hq : allQ (npQ ps x y) 0 ps.length with _ | _
  all_goals exact ⟨trivial, flat_length ps, h, rfl⟩
def pHsp : List DArg → Option (Value × List Prop)
  | [.row m (.ints xs), .v (.agg ⟨[.int .i64 x, .int .i64 y]⟩)] => some (.bool (!allQ (npQ (ptsA m xs) x y) 0 m), [m * 2 ≤ xs.length, m ≤ 1000000000])
  | _ => none
theorem pHsp_ok {ds : List DArg} {v : Value} {C : List Prop} (h : pHsp ds = some (v, C)) (hC : AllP C) : Res Try.prog 21 ds v := by
  unfold pHsp at h
  split at h
  · rename_i m xs x y
    obtain ⟨rfl, rfl⟩ : _ ∧ _ := by simpa using h
    obtain ⟨_, h2⟩ := ptsA_spec hC.1
    have h0 := res_hsp x y (ptsA m xs) (by unfold Big; rw [h2]; exact hC.2.1)
    have h7 := res_pts1 (pre := []) (post := [.v (.agg ⟨[.int .i64 x, .int .i64 y]⟩)]) hC.1 h0
    rw [h2] at h7
    exact h7
  · cases h
/-- A point that is there is found. -/
theorem np_mem {ps : List Pt} {p : Pt} (h : p ∈ ps) : allQ (npQ ps p.1 p.2) 0 ps.length = false := by
  obtain ⟨j, hj, e⟩ := List.getElem_of_mem h
  rw [Bool.eq_false_iff]
  intro hh
  have : ∀ (n i : Nat), allQ (npQ ps p.1 p.2) i n = true → i ≤ j → j < i + n → npQ ps p.1 p.2 j = true := by
    intro n
    induction n with
    | zero => intro i _ _ _; omega
    | succ n ih =>
      intro i h0 h1 h2
      have h0 : (npQ ps p.1 p.2 i && allQ (npQ ps p.1 p.2) (i + 1) n) = true := h0
      rw [Bool.and_eq_true] at h0
      rcases Nat.lt_or_ge i j with h3 | h3
      · exact ih (i + 1) h0.2 h3 (by omega)
      · obtain rfl : j = i := by omega
        exact h0.1
  have t := this _ _ hh (Nat.zero_le _) (by omega)
  have g : ps.getD j (0, 0) = p := by simp [hj, e]
  unfold npQ at t
  rw [g] at t
  simp at t
end Go.Proofs.Ytnjmepbblcfnfaa
namespace Go.Proofs.Ytnjmepbblcfnfaa
set_option linter.all false
open Go.RowKit
set_option maxRecDepth 100000 in
theorem tr_dDi (bs : List Int) (n : Nat) : bodyX Try.prog EDr 30 12 29 [.row n (.bytes bs)] = brT (decide (2000 < (↑n : Int))) (.need ((0 : Int) ≤ bndI none (0 : Int) ∧ bndI none (0 : Int) ≤ bndI (some (IntKind.i64, (2000 : Int))) (↑n : Int) ∧ bndI (some (IntKind.i64, (2000 : Int))) (↑n : Int) ≤ (↑n : Int)) (.need (rdC bs (2000 : Nat) (0 : Int)) (.need ((0 : Int) ≤ (600000 : Int)) (.need ((0 : Int) ≤ (9 : Int) ∧ (9 : Int) ≤ (20 : Int)) (.fin (.slice (some ⟨2, 0, none⟩) ((apsL bs 2000 0 9).length) ((apsL bs 2000 0 9).length)) [some ⟨.view, .bytes (bs)⟩, some ⟨.box, .vals [.slice (some ⟨0, 0, none⟩) (2000) (2000), .int .i64 (apsP bs 2000 0 9)]⟩, some ⟨.row 30 2, .ints (flat (apsL bs 2000 0 9))⟩]))))) (.need (rdC bs n (0 : Int)) (.need ((0 : Int) ≤ (600000 : Int)) (.need ((0 : Int) ≤ (9 : Int) ∧ (9 : Int) ≤ (20 : Int)) (.fin (.slice (some ⟨2, 0, none⟩) ((apsL bs n 0 9).length) ((apsL bs n 0 9).length)) [some ⟨.view, .bytes (bs)⟩, some ⟨.box, .vals [.slice (some ⟨0, 0, none⟩) (n) (n), .int .i64 (apsP bs n 0 9)]⟩, some ⟨.row 30 2, .ints (flat (apsL bs n 0 9))⟩])))) := by kernel_rfl
theorem resR_dDi (bs : List Int) (n : Nat) (hb : Bytes bs) (hn : n ≤ bs.length) : ResR Try.prog 29 [.row n (.bytes bs)] (rowP (apsL bs (rdL n) 0 9)) (blkP (apsL bs (rdL n) 0 9)) := by
  refine bodyX_resR mixed EDr_ok (m := 30) (n := 12) rfl ?_
  rw [tr_dDi]
  refine brT_ok.2 ⟨fun h => ?_, fun h => ?_⟩
  · have h := of_decide_eq_true h
    obtain ⟨k1, k2, k3, k4⟩ := drKey hb hn (l := 2000) (by omega) (by omega) (m := 9) (by omega)
    rw [rdL_of h]
    exact ⟨bnd2000 h, k1, by omega, by omega, some 2, ⟨rfl, rfl, rfl⟩, rfl, rfl, rfl⟩
  · have h := of_decide_eq_false h
    obtain ⟨k1, k2, k3, k4⟩ := drKey hb hn (l := n) (by omega) (by omega) (m := 9) (by omega)
    rw [rdL_no h]
    exact ⟨k1, by omega, by omega, some 2, ⟨rfl, rfl, rfl⟩, rfl, rfl, rfl⟩
def RLd : TabR := fun f ds => match f, ds with
  | 29, [.row n (.bytes bs)] => some (rowP (apsL bs (rdL n) 0 9), blkP (apsL bs (rdL n) 0 9), [Bytes bs, n ≤ bs.length])
  | f, ds => RHw f ds
theorem RLd_ok : TabROk Try.prog RLd := by
  intro f ds v b C h hC
  unfold RLd at h
  split at h
  · obtain ⟨rfl, rfl, rfl⟩ : _ ∧ _ ∧ _ := by simpa using h
    exact resR_dDi _ _ hC.1 hC.2.1
  · exact RHw_ok _ _ _ _ _ h hC
def TLd : Tab := fun f ds => match f with
  | 21 => pHsp ds
  | f => TDi f ds
theorem TLd_ok : TabOk Try.prog TLd := by
  intro f ds v C h hC
  unfold TLd at h
  (try split at h)
  all_goals first | with_reducible exact pHsp_ok h hC | exact TDi_ok _ _ _ _ h hC
def ELd : Env := mkE TLd RLd (fun _ => noL)
theorem ELd_ok : EnvOk Try.prog ELd := mkEOk TLd_ok RLd_ok (fun _ _ _ => noL_good)
set_option maxRecDepth 100000 in
theorem tr_lDh (bs : List Int) : bodyV Try.prog ELd 30 12 6 [.row bs.length (.bytes bs)] = brT (decide (1048576 < (↑bs.length : Int))) (.fin (.bool (true)) []) (.need (Bytes (List.drop (0 : Nat) bs)) (.need (bs.length ≤ (List.drop (0 : Nat) bs).length) (.need ((apsL (List.drop (0 : Nat) bs) (rdL bs.length) (0 : Int) (9 : Int)).length * (2 : Nat) ≤ (List.drop (0 : Nat) (flat (apsL (List.drop (0 : Nat) bs) (rdL bs.length) (0 : Int) (9 : Int)))).length) (.need ((apsL (List.drop (0 : Nat) bs) (rdL bs.length) (0 : Int) (9 : Int)).length ≤ (1000000000 : Nat)) (.need ((apsL (List.drop (0 : Nat) bs) (rdL bs.length) (0 : Int) (9 : Int)).length * (2 : Nat) ≤ (List.drop (0 : Nat) (flat (apsL (List.drop (0 : Nat) bs) (rdL bs.length) (0 : Int) (9 : Int)))).length) (.need ((apsL (List.drop (0 : Nat) bs) (rdL bs.length) (0 : Int) (9 : Int)).length ≤ (1000000000 : Nat)) (brT (!diA (ptsA (apsL (List.drop 0 bs) (rdL bs.length) 0 9).length (List.drop 0 (flat (apsL (List.drop 0 bs) (rdL bs.length) 0 9)))) == diA (ptsA (apsL (List.drop 0 bs) (rdL bs.length) 0 9).length (List.drop 0 (flat (apsL (List.drop 0 bs) (rdL bs.length) 0 9))))) (brT (diA (ptsA (apsL (List.drop 0 bs) (rdL bs.length) 0 9).length (List.drop 0 (flat (apsL (List.drop 0 bs) (rdL bs.length) 0 9)))) == diA (ptsA (apsL (List.drop 0 bs) (rdL bs.length) 0 9).length (List.drop 0 (flat (apsL (List.drop 0 bs) (rdL bs.length) 0 9))))) (brT (diB (ptsA (apsL (List.drop 0 bs) (rdL bs.length) 0 9).length (List.drop 0 (flat (apsL (List.drop 0 bs) (rdL bs.length) 0 9)))) == diB (ptsA (apsL (List.drop 0 bs) (rdL bs.length) 0 9).length (List.drop 0 (flat (apsL (List.drop 0 bs) (rdL bs.length) 0 9))))) (.fin (.bool (diN (ptsA (apsL (List.drop 0 bs) (rdL bs.length) 0 9).length (List.drop 0 (flat (apsL (List.drop 0 bs) (rdL bs.length) 0 9)))) == diN (ptsA (apsL (List.drop 0 bs) (rdL bs.length) 0 9).length (List.drop 0 (flat (apsL (List.drop 0 bs) (rdL bs.length) 0 9)))))) []) (.fin (.bool (false)) [])) (.fin (.bool (false)) [])) (brT (!diB (ptsA (apsL (List.drop 0 bs) (rdL bs.length) 0 9).length (List.drop 0 (flat (apsL (List.drop 0 bs) (rdL bs.length) 0 9)))) == diB (ptsA (apsL (List.drop 0 bs) (rdL bs.length) 0 9).length (List.drop 0 (flat (apsL (List.drop 0 bs) (rdL bs.length) 0 9))))) (brT (diA (ptsA (apsL (List.drop 0 bs) (rdL bs.length) 0 9).length (List.drop 0 (flat (apsL (List.drop 0 bs) (rdL bs.length) 0 9)))) == diA (ptsA (apsL (List.drop 0 bs) (rdL bs.length) 0 9).length (List.drop 0 (flat (apsL (List.drop 0 bs) (rdL bs.length) 0 9))))) (brT (diB (ptsA (apsL (List.drop 0 bs) (rdL bs.length) 0 9).length (List.drop 0 (flat (apsL (List.drop 0 bs) (rdL bs.length) 0 9)))) == diB (ptsA (apsL (List.drop 0 bs) (rdL bs.length) 0 9).length (List.drop 0 (flat (apsL (List.drop 0 bs) (rdL bs.length) 0 9))))) (.fin (.bool (diN (ptsA (apsL (List.drop 0 bs) (rdL bs.length) 0 9).length (List.drop 0 (flat (apsL (List.drop 0 bs) (rdL bs.length) 0 9)))) == diN (ptsA (apsL (List.drop 0 bs) (rdL bs.length) 0 9).length (List.drop 0 (flat (apsL (List.drop 0 bs) (rdL bs.length) 0 9)))))) []) (.fin (.bool (false)) [])) (.fin (.bool (false)) [])) (brT (!diN (ptsA (apsL (List.drop 0 bs) (rdL bs.length) 0 9).length (List.drop 0 (flat (apsL (List.drop 0 bs) (rdL bs.length) 0 9)))) == diN (ptsA (apsL (List.drop 0 bs) (rdL bs.length) 0 9).length (List.drop 0 (flat (apsL (List.drop 0 bs) (rdL bs.length) 0 9))))) (brT (diA (ptsA (apsL (List.drop 0 bs) (rdL bs.length) 0 9).length (List.drop 0 (flat (apsL (List.drop 0 bs) (rdL bs.length) 0 9)))) == diA (ptsA (apsL (List.drop 0 bs) (rdL bs.length) 0 9).length (List.drop 0 (flat (apsL (List.drop 0 bs) (rdL bs.length) 0 9))))) (brT (diB (ptsA (apsL (List.drop 0 bs) (rdL bs.length) 0 9).length (List.drop 0 (flat (apsL (List.drop 0 bs) (rdL bs.length) 0 9)))) == diB (ptsA (apsL (List.drop 0 bs) (rdL bs.length) 0 9).length (List.drop 0 (flat (apsL (List.drop 0 bs) (rdL bs.length) 0 9))))) (.fin (.bool (diN (ptsA (apsL (List.drop 0 bs) (rdL bs.length) 0 9).length (List.drop 0 (flat (apsL (List.drop 0 bs) (rdL bs.length) 0 9)))) == diN (ptsA (apsL (List.drop 0 bs) (rdL bs.length) 0 9).length (List.drop 0 (flat (apsL (List.drop 0 bs) (rdL bs.length) 0 9)))))) []) (.fin (.bool (false)) [])) (.fin (.bool (false)) [])) (brT (decide (diN (ptsA (apsL (List.drop 0 bs) (rdL bs.length) 0 9).length (List.drop 0 (flat (apsL (List.drop 0 bs) (rdL bs.length) 0 9)))) ≤ 0)) (brT (diA (ptsA (apsL (List.drop 0 bs) (rdL bs.length) 0 9).length (List.drop 0 (flat (apsL (List.drop 0 bs) (rdL bs.length) 0 9)))) == diA (ptsA (apsL (List.drop 0 bs) (rdL bs.length) 0 9).length (List.drop 0 (flat (apsL (List.drop 0 bs) (rdL bs.length) 0 9))))) (brT (diB (ptsA (apsL (List.drop 0 bs) (rdL bs.length) 0 9).length (List.drop 0 (flat (apsL (List.drop 0 bs) (rdL bs.length) 0 9)))) == diB (ptsA (apsL (List.drop 0 bs) (rdL bs.length) 0 9).length (List.drop 0 (flat (apsL (List.drop 0 bs) (rdL bs.length) 0 9))))) (.fin (.bool (diN (ptsA (apsL (List.drop 0 bs) (rdL bs.length) 0 9).length (List.drop 0 (flat (apsL (List.drop 0 bs) (rdL bs.length) 0 9)))) == diN (ptsA (apsL (List.drop 0 bs) (rdL bs.length) 0 9).length (List.drop 0 (flat (apsL (List.drop 0 bs) (rdL bs.length) 0 9)))))) []) (.fin (.bool (false)) [])) (.fin (.bool (false)) [])) (.need ((apsL (List.drop (0 : Nat) bs) (rdL bs.length) (0 : Int) (9 : Int)).length * (2 : Nat) ≤ (List.drop (0 : Nat) (flat (apsL (List.drop (0 : Nat) bs) (rdL bs.length) (0 : Int) (9 : Int)))).length) (.need ((apsL (List.drop (0 : Nat) bs) (rdL bs.length) (0 : Int) (9 : Int)).length ≤ (1000000000 : Nat)) (.need ((0 : Int) ≤ diA (ptsA (apsL (List.drop (0 : Nat) bs) (rdL bs.length) (0 : Int) (9 : Int)).length (List.drop (0 : Nat) (flat (apsL (List.drop (0 : Nat) bs) (rdL bs.length) (0 : Int) (9 : Int))))) ∧ diA (ptsA (apsL (List.drop (0 : Nat) bs) (rdL bs.length) (0 : Int) (9 : Int)).length (List.drop (0 : Nat) (flat (apsL (List.drop (0 : Nat) bs) (rdL bs.length) (0 : Int) (9 : Int))))) < (↑(apsL (List.drop (0 : Nat) bs) (rdL bs.length) (0 : Int) (9 : Int)).length : Int)) (.need ((0 : Nat) + (diA (ptsA (apsL (List.drop (0 : Nat) bs) (rdL bs.length) (0 : Int) (9 : Int)).length (List.drop (0 : Nat) (flat (apsL (List.drop (0 : Nat) bs) (rdL bs.length) (0 : Int) (9 : Int)))))).toNat * (2 : Nat) + (2 : Nat) ≤ (flat (apsL (List.drop (0 : Nat) bs) (rdL bs.length) (0 : Int) (9 : Int))).length) (.need ((hulV (ptsA (apsL (List.drop (0 : Nat) bs) (rdL bs.length) (0 : Int) (9 : Int)).length (List.drop (0 : Nat) (flat (apsL (List.drop (0 : Nat) bs) (rdL bs.length) (0 : Int) (9 : Int)))))).length * (2 : Nat) ≤ (List.drop (0 : Nat) (flat (hulV (ptsA (apsL (List.drop (0 : Nat) bs) (rdL bs.length) (0 : Int) (9 : Int)).length (List.drop (0 : Nat) (flat (apsL (List.drop (0 : Nat) bs) (rdL bs.length) (0 : Int) (9 : Int)))))))).length) (.need ((hulV (ptsA (apsL (List.drop (0 : Nat) bs) (rdL bs.length) (0 : Int) (9 : Int)).length (List.drop (0 : Nat) (flat (apsL (List.drop (0 : Nat) bs) (rdL bs.length) (0 : Int) (9 : Int)))))).length ≤ (1000000000 : Nat)) (brT (!allQ (npQ (ptsA (hulV (ptsA (apsL (List.drop 0 bs) (rdL bs.length) 0 9).length (List.drop 0 (flat (apsL (List.drop 0 bs) (rdL bs.length) 0 9))))).length (List.drop 0 (flat (hulV (ptsA (apsL (List.drop 0 bs) (rdL bs.length) 0 9).length (List.drop 0 (flat (apsL (List.drop 0 bs) (rdL bs.length) 0 9)))))))) ((flat (apsL (List.drop 0 bs) (rdL bs.length) 0 9)).getD (0 + (diA (ptsA (apsL (List.drop 0 bs) (rdL bs.length) 0 9).length (List.drop 0 (flat (apsL (List.drop 0 bs) (rdL bs.length) 0 9))))).toNat * 2) 0) ((flat (apsL (List.drop 0 bs) (rdL bs.length) 0 9)).getD (0 + (diA (ptsA (apsL (List.drop 0 bs) (rdL bs.length) 0 9).length (List.drop 0 (flat (apsL (List.drop 0 bs) (rdL bs.length) 0 9))))).toNat * 2 + 1) 0)) 0 (hulV (ptsA (apsL (List.drop 0 bs) (rdL bs.length) 0 9).length (List.drop 0 (flat (apsL (List.drop 0 bs) (rdL bs.length) 0 9))))).length) (.need ((0 : Int) ≤ diB (ptsA (apsL (List.drop (0 : Nat) bs) (rdL bs.length) (0 : Int) (9 : Int)).length (List.drop (0 : Nat) (flat (apsL (List.drop (0 : Nat) bs) (rdL bs.length) (0 : Int) (9 : Int))))) ∧ diB (ptsA (apsL (List.drop (0 : Nat) bs) (rdL bs.length) (0 : Int) (9 : Int)).length (List.drop (0 : Nat) (flat (apsL (List.drop (0 : Nat) bs) (rdL bs.length) (0 : Int) (9 : Int))))) < (↑(apsL (List.drop (0 : Nat) bs) (rdL bs.length) (0 : Int) (9 : Int)).length : Int)) (.need ((0 : Nat) + (diB (ptsA (apsL (List.drop (0 : Nat) bs) (rdL bs.length) (0 : Int) (9 : Int)).length (List.drop (0 : Nat) (flat (apsL (List.drop (0 : Nat) bs) (rdL bs.length) (0 : Int) (9 : Int)))))).toNat * (2 : Nat) + (2 : Nat) ≤ (flat (apsL (List.drop (0 : Nat) bs) (rdL bs.length) (0 : Int) (9 : Int))).length) (.need ((hulV (ptsA (apsL (List.drop (0 : Nat) bs) (rdL bs.length) (0 : Int) (9 : Int)).length (List.drop (0 : Nat) (flat (apsL (List.drop (0 : Nat) bs) (rdL bs.length) (0 : Int) (9 : Int)))))).length * (2 : Nat) ≤ (List.drop (0 : Nat) (flat (hulV (ptsA (apsL (List.drop (0 : Nat) bs) (rdL bs.length) (0 : Int) (9 : Int)).length (List.drop (0 : Nat) (flat (apsL (List.drop (0 : Nat) bs) (rdL bs.length) (0 : Int) (9 : Int)))))))).length) (.need ((hulV (ptsA (apsL (List.drop (0 : Nat) bs) (rdL bs.length) (0 : Int) (9 : Int)).length (List.drop (0 : Nat) (flat (apsL (List.drop (0 : Nat) bs) (rdL bs.length) (0 : Int) (9 : Int)))))).length ≤ (1000000000 : Nat)) (.fin (.bool (!allQ (npQ (ptsA (hulV (ptsA (apsL (List.drop 0 bs) (rdL bs.length) 0 9).length (List.drop 0 (flat (apsL (List.drop 0 bs) (rdL bs.length) 0 9))))).length (List.drop 0 (flat (hulV (ptsA (apsL (List.drop 0 bs) (rdL bs.length) 0 9).length (List.drop 0 (flat (apsL (List.drop 0 bs) (rdL bs.length) 0 9)))))))) ((flat (apsL (List.drop 0 bs) (rdL bs.length) 0 9)).getD (0 + (diB (ptsA (apsL (List.drop 0 bs) (rdL bs.length) 0 9).length (List.drop 0 (flat (apsL (List.drop 0 bs) (rdL bs.length) 0 9))))).toNat * 2) 0) ((flat (apsL (List.drop 0 bs) (rdL bs.length) 0 9)).getD (0 + (diB (ptsA (apsL (List.drop 0 bs) (rdL bs.length) 0 9).length (List.drop 0 (flat (apsL (List.drop 0 bs) (rdL bs.length) 0 9))))).toNat * 2 + 1) 0)) 0 (hulV (ptsA (apsL (List.drop 0 bs) (rdL bs.length) 0 9).length (List.drop 0 (flat (apsL (List.drop 0 bs) (rdL bs.length) 0 9))))).length)) []))))) (.fin (.bool (false)) [])))))))))))))))))) := by kernel_rfl
set_option maxRecDepth 100000 in
theorem law_dh (bs : List Int) (hb : Bytes bs) (_ : bs.length ≤ maxLen) : Res Try.prog 6 [.row bs.length (.bytes bs)] (.bool true) := by
  refine bodyV_res mixed ELd_ok (m := 30) (n := 12) rfl ?_
  rw [tr_lDh]
  simp only [List.drop_zero, ptsA_flat, flat_length]
  obtain ⟨_, _, _, hL⟩ := drKey hb (Nat.le_refl _) (l := rdL bs.length) (by unfold rdL; omega) (by unfold rdL; omega) (m := 9) (by omega)
  generalize apsL bs (rdL bs.length) 0 9 = ps at *
  have hl : ps.length ≤ 1000000000 := by omega
  have hh : (hulV ps).length ≤ 1000000000 := Nat.le_trans (hulV_len ps) (by decide)
  have cl : decide ((1048576 : Int) < bs.length) = true ∨ decide ((1048576 : Int) < bs.length) = false := by cases decide ((1048576 : Int) < bs.length) <;> simp
  rcases cl with cl | cl
  · rw [cl]
    exact rfl
  rw [cl]
  simp only [beq_self_eq_true, Bool.not_true, brT_t, brT_f, Tree.ok]
  by_cases hn : diN ps ≤ 0
  · rw [decide_eq_true hn]
    simp only [brT_t, Tree.ok]
    exact ⟨hb, Nat.le_refl _, Nat.le_refl _, hl, Nat.le_refl _, hl, trivial⟩
  rw [decide_eq_false hn]
  simp only [brT_f, Tree.ok]
  rcases hk : diK ps with _ | _
  · have e : diN ps = -1 := by unfold diN; rw [hk]; rfl
    omega
  · unfold diK at hk
    rw [Bool.and_eq_true, decide_eq_true_eq] at hk
    obtain ⟨h1, h0⟩ := hk
    have e : diK ps = true := by unfold diK; rw [h1, decide_eq_true h0]; rfl
    obtain ⟨i, k, hi, hk, hd, he⟩ := dm_pts h0
    obtain ⟨m1, m2⟩ := dm_in_hul h1 hi hk he
    have e1 : diA ps = i := by unfold diA; rw [e, hd]; rfl
    have e2 : diB ps = k := by unfold diB; rw [e, hd]; rfl
    rw [e1, e2]
    simp only [Int.toNat_natCast, Nat.zero_add, Nat.add_zero, flat_get0, flat_get1]
    have n1 := np_mem m1
    have n2 := np_mem m2
    generalize ps.getD i (0, 0) = p at *
    generalize ps.getD k (0, 0) = q at *
    clear e1 e2 hd he e
    simp only [n1, n2, Bool.not_true, Bool.not_false, brT_t, brT_f, Tree.ok]
    repeat' (first | exact hb | exact hl | exact hh | exact rfl | exact True.intro | omega | refine And.intro ?_ ?_)
end Go.Proofs.Ytnjmepbblcfnfaa
