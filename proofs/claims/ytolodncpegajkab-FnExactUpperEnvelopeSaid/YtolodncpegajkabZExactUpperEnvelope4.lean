/-
  Texts that the proof needs, merged. Written by an AI agent.
-/
import Derived.Orders
import Derived.Below
import Derived.OrdersIn
import Derived.Deep.LoopGhost
import Derived.WalkKit
import Derived.Laws.CopyRow
import Derived.Laws.AppendOwn
import Derived.Laws.Slices
import Derived.Laws.MakeOwn
import Derived.Test.YtolodncpegajkabRows
import Derived.ProofKit
import Derived.OpenShut
import Derived.Carry
import Derived.IntWalk
import Derived.Test.YtolodncpegajkabProg
import Derived.WalkSpells
import Derived.WalkLawsBesides
import Derived.Lib.Hide
import Derived.Deep.QuietTactic
import Derived.BigQuiet
import Derived.KernelRfl
import Derived.Deep.RegionHeld3
import Derived.LoopTactic
import Derived.Laws.StructEq
import Derived.Laws.Tables
import Derived.RangeFuncNested
import Derived.RangeFuncLeaves
import Derived.Deep.Slices
import Derived.Deep.Fields
import Derived.ChangeSame
import Derived.Shelf.SlSortCmp.WholeK
import Derived.Sort.Grow
import Derived.Deep.DeepCutAuto
import Derived.Shelf.SlSortCmp.NoneTotal
import Derived.Test.YtolodncpegajkabZExactUpperEnvelope3
namespace Go.Proofs.Ytolodncpegajkab
set_option linter.all false
open Go.RowKit
theorem Lr_toGs {fn : Func} (hf : Try.prog.funcs[17]? = some fn) : LoopsGood Try.prog (lt1 e_toGs) 0 (codeOf fn) := by
  obtain rfl := fn_is Try.func17 hf
  exact lt1_good lg_toGs
theorem Lr_eqGs {fn : Func} (hf : Try.prog.funcs[20]? = some fn) : LoopsGood Try.prog (lt1 e_eqGs) 0 (codeOf fn) := by
  obtain rfl := fn_is Try.func20 hf
  exact lt1_good lg_eqGs
theorem Lr_markG {fn : Func} (hf : Try.prog.funcs[21]? = some fn) : LoopsGood Try.prog (lt1 e_markG) 0 (codeOf fn) := by
  obtain rfl := fn_is Try.func21 hf
  exact lt1_good lg_markG
theorem Lr_sxG {fn : Func} (hf : Try.prog.funcs[60]? = some fn) : LoopsGood Try.prog (lt1 e_sxG) 0 (codeOf fn) := by
  obtain rfl := fn_is Try.func60 hf
  exact lt1_good lg_sxG
def LGs : FuncId → LT := fun f => match f with
  | 17 => lt1 e_toGs
  | 20 => lt1 e_eqGs
  | 21 => lt1 e_markG
  | 60 => lt1 e_sxG
  | _ => noL
def EGs : Env := mkE TG1 (fun _ _ => none) LGs
theorem EGs_ok : EnvOk Try.prog EGs := mkEOk TG1_ok (fun _ _ _ _ _ h => (by cases h)) (by
  intro f fn hf
  unfold LGs
  split
  all_goals first | with_reducible exact Lr_toGs hf | with_reducible exact Lr_eqGs hf | with_reducible exact Lr_markG hf | with_reducible exact Lr_sxG hf | exact noL_good)
set_option maxRecDepth 100000 in
theorem tr_toGF (ps : List Pt) : bodyX Try.prog EGs 30 12 17 [.row ps.length (.ints (flat ps))] = .need ((0 : Int) ≤ (↑ps.length : Int) ∧ (↑ps.length : Int) ≤ (↑ps.length : Int) ∧ (16 : Nat) * (↑ps.length : Int).toNat ≤ (281474976710656 : Nat) ∧ (↑ps.length : Int) ≤ (9223372036854775807 : Int)) (.need ((0 : Int) = (0 : Int)) (.need ((↑ps.length : Int).toNat = ps.length) (.need ((flat ps).length = ps.length * (2 : Nat)) (.need ((List.replicate ((↑ps.length : Int).toNat * (2 : Nat)) (0 : Int)).length = ps.length * (2 : Nat)) (.need (ps.length ≤ (1000000000 : Nat)) (.fin (.slice (some ⟨1, 0, none⟩) ((↑ps.length : Int).toNat) ((↑ps.length : Int).toNat)) [some ⟨.view, .ints (flat ps)⟩, some ⟨.row 36 2, .ints (flat ps)⟩])))))) := by kernel_rfl
set_option maxRecDepth 100000 in
theorem tr_eqGF (ps qs : List Pt) : bodyX Try.prog EGs 30 12 20 [.row ps.length (.ints (flat ps)), .row qs.length (.ints (flat qs))] = brT (!(↑ps.length : Int) == (↑qs.length : Int)) (.fin (.bool (false)) [some ⟨.view, .ints (flat ps)⟩, some ⟨.view, .ints (flat qs)⟩]) (.need ((0 : Int) = (0 : Int)) (.need (qs.length = ps.length) (.need ((flat ps).length = ps.length * (2 : Nat)) (.need ((flat qs).length = ps.length * (2 : Nat)) (.need (ps.length ≤ (1000000000 : Nat)) (brT (eqL (ptsA ps.length (flat ps)) (ptsA ps.length (flat qs))) (.fin (.bool (true)) [some ⟨.view, .ints (flat ps)⟩, some ⟨.view, .ints (flat qs)⟩]) (.fin (.bool (false)) [some ⟨.view, .ints (flat ps)⟩, some ⟨.view, .ints (flat qs)⟩]))))))) := by kernel_rfl
set_option maxRecDepth 100000 in
theorem tr_mGF (l : Nat) (xs : List Int) (k : Int) : bodyM Try.prog EGs (runM Try.prog EGs 30 12) 30 21 [.slice (some ⟨0, 0, none⟩) l l, .int .i64 k] [some ⟨.row 36 2, .ints xs⟩] .fin = .need ((0 : Int) = (0 : Int)) (.need (xs.length = l * (2 : Nat)) (.need (l ≤ (1000000000 : Nat)) (.need ((0 : Int) ≤ k ∧ k ≤ (1000000000 : Int)) (.fin (.int .i64 (k + (↑(l * 2) : Int))) [some ⟨.row 36 2, .ints (marks k (l * 2))⟩])))) := by kernel_rfl
set_option maxRecDepth 100000 in
theorem tr_siG (ps : List Pt) (x y : Int) : bodyV Try.prog EGs 30 12 60 [.row ps.length (.ints (flat ps)), .v (.agg ⟨[.int .i64 x, .int .i64 y]⟩)] = .need ((0 : Int) = (0 : Int)) (.need ((↑ps.length : Int) = (↑ps.length : Int)) (.need ((flat ps).length = ps.length * (2 : Nat)) (.need (ps.length ≤ (1000000000 : Nat)) (brT (allQ (ngQ (ptsA ps.length (flat ps)) x y) 0 ps.length) (.fin (.int .i64 (-1)) []) (.fin (.int .i64 ((↑(fgN (ptsA ps.length (flat ps)) x y 0 ps.length) : Int))) []))))) := by kernel_rfl
theorem resR_toG (ps : List Pt) (h : Big ps) : ResR Try.prog 17 [.row ps.length (.ints (flat ps))] (.slice (some ⟨0, 0, none⟩) ps.length ps.length) ⟨.row 36 2, .ints (flat ps)⟩ := by
  refine bodyX_resR mixed EGs_ok (m := 30) (n := 12) rfl ?_
  rw [tr_toGF]
  unfold Big at h
  simp only [Tree.ok, flat_length, Int.toNat_natCast, List.length_replicate]
  exact ⟨by omega, trivial, trivial, trivial, trivial, h, some 1, ⟨rfl, rfl, rfl⟩, rfl, rfl, rfl⟩
theorem res_eqG (ps qs : List Pt) (h : Big ps) : Res Try.prog 20 [.row ps.length (.ints (flat ps)), .row qs.length (.ints (flat qs))] (.bool (eqL ps qs)) := by
  refine bodyX_res mixed EGs_ok (m := 30) (n := 12) rfl ?_
  rw [tr_eqGF]
  unfold Big at h
  by_cases hl : ps.length = qs.length
  · have e : ptsA ps.length (flat qs) = qs := by rw [hl, ptsA_flat]
    rw [e, ptsA_flat, show (!((ps.length : Int) == (qs.length : Int))) = false by simp [hl]]
    simp only [brT_f, Tree.ok, flat_length]
    refine ⟨trivial, hl.symm, trivial, by omega, h, ?_⟩
    cases eqL ps qs <;> rfl
  · have e : eqL ps qs = false := by
      unfold eqL
      rw [decide_eq_false_iff_not]
      rintro rfl
      exact hl rfl
    rw [show (!((ps.length : Int) == (qs.length : Int))) = true by simp; omega]
    simp only [brT_t, Tree.ok, e]
/-- Where a graph stands first. -/
def ixG (ps : List Pt) (x y : Int) : Int := bif allQ (ngQ ps x y) 0 ps.length then -1 else (fgN ps x y 0 ps.length : Nat)
theorem res_siG (x y : Int) (ps : List Pt) (h : Big ps) : Res Try.prog 60 [.row ps.length (.ints (flat ps)), .v (.agg ⟨[.int .i64 x, .int .i64 y]⟩)] (.int .i64 (ixG ps x y)) := by
  refine bodyV_res mixed EGs_ok (m := 30) (n := 12) rfl ?_
  rw [tr_siG]
  unfold Big at h
  simp only [ptsA_flat]
  unfold ixG
  rcases hq : allQ (ngQ ps x y) 0 ps.length with _ | _
  all_goals exact ⟨trivial, trivial, flat_length ps, h, rfl⟩
def pSiG : List DArg → Option (Value × List Prop)
  | [.row m (.ints xs), .v (.agg ⟨[.int .i64 x, .int .i64 y]⟩)] => some (.int .i64 (ixG (ptsA m xs) x y), [m * 2 ≤ xs.length, m ≤ 1000000000])
  | _ => none
theorem pSiG_ok {ds : List DArg} {v : Value} {C : List Prop} (h : pSiG ds = some (v, C)) (hC : AllP C) : Res Try.prog 60 ds v := by
  unfold pSiG at h
  split at h
  · rename_i m xs x y
    obtain ⟨rfl, rfl⟩ : _ ∧ _ := by simpa using h
    obtain ⟨_, h2⟩ := ptsA_spec hC.1
    exact res_pts1 (pre := []) (post := [.v (.agg ⟨[.int .i64 x, .int .i64 y]⟩)]) hC.1 (res_siG x y (ptsA m xs) (by unfold Big; rw [h2]; exact hC.2.1))
  · cases h
def TGi : Tab := fun f ds => match f with
  | 60 => pSiG ds
  | f => TG1 f ds
theorem TGi_ok : TabOk Try.prog TGi := by
  intro f ds v C h hC
  unfold TGi at h
  (try split at h)
  all_goals first | with_reducible exact pSiG_ok h hC | exact TG1_ok _ _ _ _ h hC
set_option maxRecDepth 100000 in
theorem tr_scG (ps : List Pt) (x y : Int) : bodyV Try.prog (tabE TGi) 30 12 100 [.row ps.length (.ints (flat ps)), .v (.agg ⟨[.int .i64 x, .int .i64 y]⟩)] = .need (ps.length * (2 : Nat) ≤ (List.drop (0 : Nat) (flat ps)).length) (.need (ps.length ≤ (1000000000 : Nat)) (.fin (.bool (decide (0 ≤ ixG (ptsA ps.length (List.drop 0 (flat ps))) x y))) [])) := by kernel_rfl
theorem res_scG (x y : Int) (ps : List Pt) (h : Big ps) : Res Try.prog 100 [.row ps.length (.ints (flat ps)), .v (.agg ⟨[.int .i64 x, .int .i64 y]⟩)] (.bool (!(allQ (ngQ ps x y) 0 ps.length))) := by
  refine bodyV_res mixed (tabE_ok TGi_ok) (m := 30) (n := 12) rfl ?_
  rw [tr_scG]
  unfold Big at h
  simp only [List.drop_zero, ptsA_flat, flat_length]
  refine ⟨Nat.le_refl _, h, ?_⟩
  show Value.bool _ = Value.bool _
  rw [Value.bool.injEq]
  unfold ixG
  rcases allQ (ngQ ps x y) 0 ps.length with _ | _
  · exact decide_eq_true (by simp only [cond_false]; omega)
  · exact decide_eq_false (by simp only [cond_true]; omega)
def pScG : List DArg → Option (Value × List Prop)
  | [.row m (.ints xs), .v (.agg ⟨[.int .i64 x, .int .i64 y]⟩)] => some (.bool (!(allQ (ngQ (ptsA m xs) x y) 0 (ptsA m xs).length)), [m * 2 ≤ xs.length, m ≤ 1000000000])
  | _ => none
theorem pScG_ok {ds : List DArg} {v : Value} {C : List Prop} (h : pScG ds = some (v, C)) (hC : AllP C) : Res Try.prog 100 ds v := by
  unfold pScG at h
  split at h
  · rename_i m xs x y
    obtain ⟨rfl, rfl⟩ : _ ∧ _ := by simpa using h
    obtain ⟨_, h2⟩ := ptsA_spec hC.1
    exact res_pts1 (pre := []) (post := [.v (.agg ⟨[.int .i64 x, .int .i64 y]⟩)]) hC.1 (res_scG x y (ptsA m xs) (by unfold Big; rw [h2]; exact hC.2.1))
  · cases h
def TGc : Tab := fun f ds => match f with
  | 100 => pScG ds
  | f => TGi f ds
theorem TGc_ok : TabOk Try.prog TGc := by
  intro f ds v C h hC
  unfold TGc at h
  (try split at h)
  all_goals first | with_reducible exact pScG_ok h hC | exact TGi_ok _ _ _ _ h hC
def EGc : Env := mkE TGc (fun _ _ => none) (fun _ => noL)
theorem EGc_ok : EnvOk Try.prog EGc := mkEOk TGc_ok (fun _ _ _ _ _ h => (by cases h)) (fun _ _ _ => noL_good)
def markGW : WSpec := fun e sz l xs rest => match Nat.beq e 36 && Nat.beq sz 2, rest with
  | true, [.int .i64 k] => some (.int .i64 (k + (l * 2 : Nat)), marks k (l * 2), [xs.length = l * 2, Lim l, 0 ≤ k ∧ k ≤ 1000000000])
  | _, _ => none
theorem markGW_ok : WSpecOk Try.prog 21 markGW := by
  intro e sz l xs rest v ys C h hC
  unfold markGW at h
  split at h
  rotate_left
  · cases h
  rename_i k he
  simp only [Bool.and_eq_true] at he
  obtain rfl := Nat.eq_of_beq_eq_true he.1
  obtain rfl := Nat.eq_of_beq_eq_true he.2
  obtain ⟨rfl, rfl, rfl⟩ : Value.int .i64 (k + (l * 2 : Nat)) = v ∧ marks k (l * 2) = ys ∧ [xs.length = l * 2, Lim l, 0 ≤ k ∧ k ≤ 1000000000] = C := by simpa using h
  obtain ⟨h1, h2, h3, _⟩ := hC
  refine ⟨EGs, 30, 12, EGs_ok, rfl, ?_⟩
  rw [tr_mGF]
  exact ⟨rfl, h1, h2, h3, rfl, _, rfl, rfl, rfl⟩
def JmG : TabJ := consJ 21 (fun _ => wrG markGW) Jmk
theorem JmG_ok : GSound Try.prog JmG.g := consJ_wr mixed Jmk_ok (entersB_res (by kernel_rfl)).1 markGW_ok
def gG (ps : List Pt) (i : Nat) : Pt := ps.getD i (0, 0)
/-- Is a graph none of the first ones? -/
def dfQ (ps : List Pt) (i k : Nat) : Bool := !(decide (gG ps k = gG ps i))
def vgQ (ps : List Pt) (i : Nat) : Bool := ptB (gG ps i).1 (gG ps i).2 && allQ (dfQ ps i) 0 i
noncomputable def c_svI : Code := ((loopsOf (codeOf Try.f51))[1]?).getD .skip
def k_svI : Ex → List Nat := keeps [0, 3, 4] [(2, [0, 3])] [2]
def s_svI (ps : List Pt) (i : Nat) : Nat → St := fun k => ⟨(.slice (some ⟨0, 0, none⟩) ps.length ps.length :: topV :: topV :: .int .i64 i :: .int .i64 k :: topV :: topV :: topV :: topV :: topV :: topV :: topV :: topV :: topV :: topV :: topV :: topV :: topV :: topV :: topV :: topV :: topV :: topV :: topV :: topV :: topV :: topV :: topV :: topV :: topV :: topV :: topV :: topV :: topV :: []), [some ⟨.view, .ints (flat ps)⟩]⟩
def re_svI (ps : List Pt) (i : Nat) : Nat → Ex := fun k => bif allQ (dfQ ps i) k (i - k) then .exit 2 else .ret
def rs_svI (ps : List Pt) (i : Nat) : Nat → St := fun k => bif allQ (dfQ ps i) k (i - k) then ⟨(.slice (some ⟨0, 0, none⟩) ps.length ps.length :: topV :: topV :: .int .i64 i :: topV :: topV :: topV :: topV :: topV :: topV :: topV :: topV :: topV :: topV :: topV :: topV :: topV :: topV :: topV :: topV :: topV :: topV :: topV :: topV :: topV :: topV :: topV :: topV :: topV :: topV :: topV :: topV :: topV :: topV :: []), [some ⟨.view, .ints (flat ps)⟩]⟩ else ⟨(topV :: topV :: .bool false :: topV :: topV :: topV :: topV :: topV :: topV :: topV :: topV :: topV :: topV :: topV :: topV :: topV :: topV :: topV :: topV :: topV :: topV :: topV :: topV :: topV :: topV :: topV :: topV :: topV :: topV :: topV :: topV :: topV :: topV :: topV :: []), [some ⟨.view, .ints (flat ps)⟩]⟩
set_option maxRecDepth 100000 in
theorem tr_svI (ps : List Pt) (i : Nat) (k : Nat) : bodyL Try.prog EGc 30 12 noL 2 c_svI k_svI 1 (s_svI ps i k) = brT (decide ((↑k : Int) < (↑i : Int))) (.need ((0 : Int) ≤ (↑k : Int) ∧ (↑k : Int) < (↑ps.length : Int)) (.need ((0 : Nat) + (↑k : Int).toNat * (2 : Nat) + (2 : Nat) ≤ (flat ps).length) (.need ((0 : Int) ≤ (↑i : Int) ∧ (↑i : Int) < (↑ps.length : Int)) (.need ((0 : Nat) + (↑i : Int).toNat * (2 : Nat) + (2 : Nat) ≤ (flat ps).length) (brT (negB false ((flat ps).getD (0 + (↑k : Int).toNat * 2) 0 == (flat ps).getD (0 + (↑i : Int).toNat * 2) 0 && ((flat ps).getD (0 + (↑k : Int).toNat * 2 + 1) 0 == (flat ps).getD (0 + (↑i : Int).toNat * 2 + 1) 0 && true))) (.leaf .ret ⟨(topV :: topV :: .bool (false) :: topV :: topV :: topV :: topV :: topV :: topV :: topV :: topV :: topV :: topV :: topV :: topV :: topV :: topV :: topV :: topV :: topV :: topV :: topV :: topV :: topV :: topV :: topV :: topV :: topV :: topV :: topV :: topV :: topV :: topV :: topV :: []), [some ⟨.view, .ints (flat ps)⟩]⟩) (.leaf .normal ⟨(.slice (some ⟨0, 0, none⟩) (ps.length) (ps.length) :: topV :: topV :: .int .i64 ((↑i : Int)) :: .int .i64 (IntKind.i64.wrap ((↑k : Int) + 1)) :: topV :: topV :: topV :: topV :: topV :: topV :: topV :: topV :: topV :: topV :: topV :: topV :: topV :: topV :: topV :: topV :: topV :: topV :: topV :: topV :: topV :: topV :: topV :: topV :: topV :: topV :: topV :: topV :: topV :: []), [some ⟨.view, .ints (flat ps)⟩]⟩)))))) (.leaf (.exit 2) ⟨(.slice (some ⟨0, 0, none⟩) (ps.length) (ps.length) :: topV :: topV :: .int .i64 ((↑i : Int)) :: topV :: topV :: topV :: topV :: topV :: topV :: topV :: topV :: topV :: topV :: topV :: topV :: topV :: topV :: topV :: topV :: topV :: topV :: topV :: topV :: topV :: topV :: topV :: topV :: topV :: topV :: topV :: topV :: topV :: topV :: []), [some ⟨.view, .ints (flat ps)⟩]⟩) := by kernel_rfl
set_option maxRecDepth 100000 in
theorem nl_svI : loopsOf c_svI = [] := by kernel_rfl
def inv_svI (ps : List Pt) (i : Nat) : Nat → Prop := fun k => k ≤ i
def me_svI (ps : List Pt) (i : Nat) : Nat → Nat := fun k => i - k
/-- A round of this loop. -/
def Round_svI (ps : List Pt) (i : Nat) : Prop := ∀ xx : Nat, inv_svI ps i xx → (bodyL Try.prog EGc 30 12 noL 2 c_svI k_svI 1 (s_svI ps i xx)).ok (RoundEnd 1 (s_svI ps i) (inv_svI ps i) (me_svI ps i) (re_svI ps i) (rs_svI ps i) xx) (fun _ _ => False)
def e_svI (s : St) (k : Ex → St → Tree) : Option Tree := match Nat.beq s.tmps.length 34, pickL s.tmps [0, 3, 4], s.mem with
  | true, [.slice (some ⟨0, 0, none⟩) n _, .int .i64 ii, .int .i64 kk], [some ⟨.view, .ints xs⟩] => some (needs [kk = 0, 0 ≤ ii ∧ ii < n, xs.length = n * 2, n ≤ 1000000000] (brT (allQ (dfQ (ptsA n xs) ii.toNat) 0 ii.toNat) (k (.exit 2) ⟨(.slice (some ⟨0, 0, none⟩) n n :: topV :: topV :: .int .i64 ii :: topV :: topV :: topV :: topV :: topV :: topV :: topV :: topV :: topV :: topV :: topV :: topV :: topV :: topV :: topV :: topV :: topV :: topV :: topV :: topV :: topV :: topV :: topV :: topV :: topV :: topV :: topV :: topV :: topV :: topV :: []), [some ⟨.view, .ints xs⟩]⟩) (k .ret ⟨(topV :: topV :: .bool false :: topV :: topV :: topV :: topV :: topV :: topV :: topV :: topV :: topV :: topV :: topV :: topV :: topV :: topV :: topV :: topV :: topV :: topV :: topV :: topV :: topV :: topV :: topV :: topV :: topV :: topV :: topV :: topV :: topV :: topV :: topV :: []), [some ⟨.view, .ints xs⟩]⟩)))
  | _, _, _ => none
def ltSv : LT := fun j s k => match j with
  | 1 => e_svI s k
  | _ => none
noncomputable def c_svO : Code := ((loopsOf (codeOf Try.f51))[0]?).getD .skip
def k_svO : Ex → List Nat := keeps [0, 3] [(0, [0])] [2]
def s_svO (ps : List Pt) : Nat → St := fun i => ⟨(.slice (some ⟨0, 0, none⟩) ps.length ps.length :: topV :: topV :: .int .i64 i :: topV :: topV :: topV :: topV :: topV :: topV :: topV :: topV :: topV :: topV :: topV :: topV :: topV :: topV :: topV :: topV :: topV :: topV :: topV :: topV :: topV :: topV :: topV :: topV :: topV :: topV :: topV :: topV :: topV :: topV :: []), [some ⟨.view, .ints (flat ps)⟩]⟩
def re_svO (ps : List Pt) : Nat → Ex := fun i => bif allQ (vgQ ps) i (ps.length - i) then .exit 0 else .ret
def rs_svO (ps : List Pt) : Nat → St := fun i => bif allQ (vgQ ps) i (ps.length - i) then ⟨(.slice (some ⟨0, 0, none⟩) ps.length ps.length :: topV :: topV :: topV :: topV :: topV :: topV :: topV :: topV :: topV :: topV :: topV :: topV :: topV :: topV :: topV :: topV :: topV :: topV :: topV :: topV :: topV :: topV :: topV :: topV :: topV :: topV :: topV :: topV :: topV :: topV :: topV :: topV :: topV :: []), [some ⟨.view, .ints (flat ps)⟩]⟩ else ⟨(topV :: topV :: .bool false :: topV :: topV :: topV :: topV :: topV :: topV :: topV :: topV :: topV :: topV :: topV :: topV :: topV :: topV :: topV :: topV :: topV :: topV :: topV :: topV :: topV :: topV :: topV :: topV :: topV :: topV :: topV :: topV :: topV :: topV :: topV :: []), [some ⟨.view, .ints (flat ps)⟩]⟩
set_option maxRecDepth 100000 in
theorem tr_svO (ps : List Pt) (i : Nat) : bodyL Try.prog EGc 30 12 ltSv 1 c_svO k_svO 1 (s_svO ps i) = brT (decide ((↑i : Int) < (↑ps.length : Int))) (.need ((0 : Int) ≤ (↑i : Int) ∧ (↑i : Int) < (↑ps.length : Int)) (.need ((0 : Nat) + (↑i : Int).toNat * (2 : Nat) + (2 : Nat) ≤ (flat ps).length) (brT (!ptB ((flat ps).getD (0 + (↑i : Int).toNat * 2) 0) ((flat ps).getD (0 + (↑i : Int).toNat * 2 + 1) 0)) (.leaf .ret ⟨(topV :: topV :: .bool (false) :: topV :: topV :: topV :: topV :: topV :: topV :: topV :: topV :: topV :: topV :: topV :: topV :: topV :: topV :: topV :: topV :: topV :: topV :: topV :: topV :: topV :: topV :: topV :: topV :: topV :: topV :: topV :: topV :: topV :: topV :: topV :: []), [some ⟨.view, .ints (flat ps)⟩]⟩) (.need ((0 : Int) = (0 : Int)) (.need ((0 : Int) ≤ (↑i : Int) ∧ (↑i : Int) < (↑ps.length : Int)) (.need ((flat ps).length = ps.length * (2 : Nat)) (.need (ps.length ≤ (1000000000 : Nat)) (brT (allQ (dfQ (ptsA ps.length (flat ps)) (↑i : Int).toNat) 0 (↑i : Int).toNat) (.leaf .normal ⟨(.slice (some ⟨0, 0, none⟩) (ps.length) (ps.length) :: topV :: topV :: .int .i64 (IntKind.i64.wrap ((↑i : Int) + 1)) :: topV :: topV :: topV :: topV :: topV :: topV :: topV :: topV :: topV :: topV :: topV :: topV :: topV :: topV :: topV :: topV :: topV :: topV :: topV :: topV :: topV :: topV :: topV :: topV :: topV :: topV :: topV :: topV :: topV :: topV :: []), [some ⟨.view, .ints (flat ps)⟩]⟩) (.leaf .ret ⟨(topV :: topV :: .bool (false) :: topV :: topV :: topV :: topV :: topV :: topV :: topV :: topV :: topV :: topV :: topV :: topV :: topV :: topV :: topV :: topV :: topV :: topV :: topV :: topV :: topV :: topV :: topV :: topV :: topV :: topV :: topV :: topV :: topV :: topV :: topV :: []), [some ⟨.view, .ints (flat ps)⟩]⟩))))))))) (.leaf (.exit 0) ⟨(.slice (some ⟨0, 0, none⟩) (ps.length) (ps.length) :: topV :: topV :: topV :: topV :: topV :: topV :: topV :: topV :: topV :: topV :: topV :: topV :: topV :: topV :: topV :: topV :: topV :: topV :: topV :: topV :: topV :: topV :: topV :: topV :: topV :: topV :: topV :: topV :: topV :: topV :: topV :: topV :: topV :: []), [some ⟨.view, .ints (flat ps)⟩]⟩) := by kernel_rfl
def inv_svO (ps : List Pt) : Nat → Prop := fun i => i ≤ ps.length
def me_svO (ps : List Pt) : Nat → Nat := fun i => ps.length - i
/-- A round of this loop. -/
def Round_svO (ps : List Pt) : Prop := ∀ xx : Nat, inv_svO ps xx → (bodyL Try.prog EGc 30 12 ltSv 1 c_svO k_svO 1 (s_svO ps xx)).ok (RoundEnd 1 (s_svO ps) (inv_svO ps) (me_svO ps) (re_svO ps) (rs_svO ps) xx) (fun _ _ => False)
def e_svO (s : St) (k : Ex → St → Tree) : Option Tree := match Nat.beq s.tmps.length 34, pickL s.tmps [0, 3], s.mem with
  | true, [.slice (some ⟨0, 0, none⟩) n _, .int .i64 ii], [some ⟨.view, .ints xs⟩] => some (needs [ii = 0, xs.length = n * 2, n ≤ 1000000000] (brT (allQ (vgQ (ptsA n xs)) 0 n) (k (.exit 0) ⟨(.slice (some ⟨0, 0, none⟩) n n :: topV :: topV :: topV :: topV :: topV :: topV :: topV :: topV :: topV :: topV :: topV :: topV :: topV :: topV :: topV :: topV :: topV :: topV :: topV :: topV :: topV :: topV :: topV :: topV :: topV :: topV :: topV :: topV :: topV :: topV :: topV :: topV :: topV :: []), [some ⟨.view, .ints xs⟩]⟩) (k .ret ⟨(topV :: topV :: .bool false :: topV :: topV :: topV :: topV :: topV :: topV :: topV :: topV :: topV :: topV :: topV :: topV :: topV :: topV :: topV :: topV :: topV :: topV :: topV :: topV :: topV :: topV :: topV :: topV :: topV :: topV :: topV :: topV :: topV :: topV :: topV :: []), [some ⟨.view, .ints xs⟩]⟩)))
  | _, _, _ => none
noncomputable def c_ivG : Code := ((loopsOf (codeOf Try.f54))[0]?).getD .skip
def k_ivG : Ex → List Nat := keeps [0, 8, 9, 10] [(0, [])] [2]
def s_ivG (ps : List Pt) : Nat → St := fun i => ⟨[.slice (some ⟨0, 0, none⟩) ps.length ps.length, topV, topV, topV, topV, topV, topV, topV, .slice (some ⟨0, 0, none⟩) ps.length ps.length, .int .i64 ps.length, .int .i64 i, topV, topV, topV, topV, topV, topV, topV, topV, topV, topV, topV, topV, topV, topV, topV], [some ⟨.view, .ints (flat ps)⟩]⟩
def re_ivG (ps : List Pt) : Nat → Ex := fun i => bif allQ (vgQ ps) i (ps.length - i) then .exit 0 else .ret
def rs_ivG (ps : List Pt) : Nat → St := fun i => bif allQ (vgQ ps) i (ps.length - i) then ⟨[topV, topV, topV, topV, topV, topV, topV, topV, topV, topV, topV, topV, topV, topV, topV, topV, topV, topV, topV, topV, topV, topV, topV, topV, topV, topV], [some ⟨.view, .ints (flat ps)⟩]⟩ else ⟨[topV, topV, .bool false, topV, topV, topV, topV, topV, topV, topV, topV, topV, topV, topV, topV, topV, topV, topV, topV, topV, topV, topV, topV, topV, topV, topV], [some ⟨.view, .ints (flat ps)⟩]⟩
set_option maxRecDepth 100000 in
theorem tr_ivG (ps : List Pt) (i : Nat) : bodyL Try.prog EGc 30 12 noL 1 c_ivG k_ivG 1 (s_ivG ps i) = brT (decide ((↑i : Int) < (↑ps.length : Int))) (.need ((0 : Int) ≤ (↑i : Int) ∧ (↑i : Int) < (↑ps.length : Int)) (.need ((0 : Nat) + (↑i : Int).toNat * (2 : Nat) + (2 : Nat) ≤ (flat ps).length) (brT (!ptB ((flat ps).getD (0 + (↑i : Int).toNat * 2) 0) ((flat ps).getD (0 + (↑i : Int).toNat * 2 + 1) 0)) (.leaf .ret ⟨[topV, topV, .bool (false), topV, topV, topV, topV, topV, topV, topV, topV, topV, topV, topV, topV, topV, topV, topV, topV, topV, topV, topV, topV, topV, topV, topV], [some ⟨.view, .ints (flat ps)⟩]⟩) (.need (((bndI (some (IntKind.i64, (↑i : Int))) (↑ps.length : Int)).toNat - (0 : Nat)) * (2 : Nat) ≤ (List.drop (0 : Nat) (flat ps)).length) (.need ((bndI (some (IntKind.i64, (↑i : Int))) (↑ps.length : Int)).toNat - (0 : Nat) ≤ (1000000000 : Nat)) (.need ((0 : Int) ≤ bndI none (0 : Int) ∧ bndI none (0 : Int) ≤ bndI (some (IntKind.i64, (↑i : Int))) (↑ps.length : Int) ∧ bndI (some (IntKind.i64, (↑i : Int))) (↑ps.length : Int) ≤ (↑ps.length : Int)) (brT (!allQ (ngQ (ptsA ((bndI (some (IntKind.i64, (↑i : Int))) (↑ps.length : Int)).toNat - 0) (List.drop 0 (flat ps))) ((flat ps).getD (0 + (↑i : Int).toNat * 2) 0) ((flat ps).getD (0 + (↑i : Int).toNat * 2 + 1) 0)) 0 (ptsA ((bndI (some (IntKind.i64, (↑i : Int))) (↑ps.length : Int)).toNat - 0) (List.drop 0 (flat ps))).length) (.leaf .ret ⟨[topV, topV, .bool (false), topV, topV, topV, topV, topV, topV, topV, topV, topV, topV, topV, topV, topV, topV, topV, topV, topV, topV, topV, topV, topV, topV, topV], [some ⟨.view, .ints (flat ps)⟩]⟩) (.leaf .normal ⟨[.slice (some ⟨0, 0, none⟩) (ps.length) (ps.length), topV, topV, topV, topV, topV, topV, topV, .slice (some ⟨0, 0, none⟩) (ps.length) (ps.length), .int .i64 ((↑ps.length : Int)), .int .i64 (IntKind.i64.wrap ((↑i : Int) + 1)), topV, topV, topV, topV, topV, topV, topV, topV, topV, topV, topV, topV, topV, topV, topV], [some ⟨.view, .ints (flat ps)⟩]⟩)))))))) (.leaf (.exit 0) ⟨[topV, topV, topV, topV, topV, topV, topV, topV, topV, topV, topV, topV, topV, topV, topV, topV, topV, topV, topV, topV, topV, topV, topV, topV, topV, topV], [some ⟨.view, .ints (flat ps)⟩]⟩) := by kernel_rfl
set_option maxRecDepth 100000 in
theorem nl_ivG : loopsOf c_ivG = [] := by kernel_rfl
def inv_ivG (ps : List Pt) : Nat → Prop := fun i => i ≤ ps.length
def me_ivG (ps : List Pt) : Nat → Nat := fun i => ps.length - i
/-- A round of this loop. -/
def Round_ivG (ps : List Pt) : Prop := ∀ xx : Nat, inv_ivG ps xx → (bodyL Try.prog EGc 30 12 noL 1 c_ivG k_ivG 1 (s_ivG ps xx)).ok (RoundEnd 1 (s_ivG ps) (inv_ivG ps) (me_ivG ps) (re_ivG ps) (rs_ivG ps) xx) (fun _ _ => False)
def e_ivG (s : St) (k : Ex → St → Tree) : Option Tree := match Nat.beq s.tmps.length 26, pickL s.tmps [0, 8, 9, 10], s.mem with
  | true, [.slice (some ⟨0, 0, none⟩) n _, .slice (some ⟨0, 0, none⟩) n1 _, .int .i64 n2, .int .i64 ii], [some ⟨.view, .ints xs⟩] => some (needs [ii = 0, n1 = n, n2 = n, xs.length = n * 2, n ≤ 1000000000] (brT (allQ (vgQ (ptsA n xs)) 0 n) (k (.exit 0) ⟨[topV, topV, topV, topV, topV, topV, topV, topV, topV, topV, topV, topV, topV, topV, topV, topV, topV, topV, topV, topV, topV, topV, topV, topV, topV, topV], [some ⟨.view, .ints xs⟩]⟩) (k .ret ⟨[topV, topV, .bool false, topV, topV, topV, topV, topV, topV, topV, topV, topV, topV, topV, topV, topV, topV, topV, topV, topV, topV, topV, topV, topV, topV, topV], [some ⟨.view, .ints xs⟩]⟩)))
  | _, _, _ => none
theorem allQ_mk' {P : Nat → Bool} : ∀ (m i : Nat), (∀ j, i ≤ j → j < i + m → P j = true) → allQ P i m = true
  | 0, _, _ => rfl
  | m + 1, i, h => by
    simp only [allQ, Bool.and_eq_true]
    exact ⟨h i (Nat.le_refl _) (by omega), allQ_mk' m (i + 1) fun j h1 h2 => h j (by omega) (by omega)⟩
theorem eqG_is (p q : Pt) : negB false (p.1 == q.1 && (p.2 == q.2 && true)) = decide (p = q) := by
  rw [Bool.eq_iff_iff]
  simp only [negB, Bool.and_true, Bool.and_eq_true, beq_iff_eq, decide_eq_true_eq]
  constructor
  · rintro ⟨h1, h2⟩; exact Prod.ext h1 h2
  · rintro rfl; exact ⟨rfl, rfl⟩
set_option maxRecDepth 100000 in
set_option maxHeartbeats 1000000 in
theorem round_svI (ps : List Pt) (i : Nat) (h : ps.length ≤ 1000000000) (hi : i < ps.length) : Round_svI ps i := by
  intro k h1
  have h1 : k ≤ i := h1
  rw [tr_svI]
  have fl := flat_length ps
  simp only [Int.toNat_natCast, Nat.zero_add, flat_get0, flat_get1, eqG_is]
  refine brT_ok.2 ⟨fun hlt => ?_, fun hge => ?_⟩
  · have hlt := of_decide_eq_true hlt
    have hk : k < i := by omega
    rw [wsucc (n := ps.length) (by omega) h]
    simp only [Tree.ok]
    refine ⟨by omega, by omega, by omega, by omega, brT_ok.2 ⟨fun g => ?_, fun g => ?_⟩⟩
    · have e : allQ (dfQ ps i) k (i - k) = false := by
        rw [allQ_step hk, show dfQ ps i k = false from by unfold dfQ gG; rw [g]; rfl, Bool.false_and]
      refine ⟨by simp only [re_svI, e, cond_false], [], ?_⟩
      simp only [rs_svI, e, cond_false]
      repeat' (first | exact True.intro | exact rfl | exact fun _ => rfl | refine And.intro ?_ ?_)
    · have e : allQ (dfQ ps i) k (i - k) = allQ (dfQ ps i) (k + 1) (i - (k + 1)) := by
        rw [allQ_step hk, show dfQ ps i k = true from by unfold dfQ gG; rw [g]; rfl, Bool.true_and]
      refine ⟨k + 1, [], ?_, ?_, by simp only [re_svI, e], by simp only [rs_svI, e], ?_⟩
      · show k + 1 ≤ i; omega
      · show i - (k + 1) < i - k; omega
      · repeat' (first | exact True.intro | exact rfl | exact fun _ => rfl | refine And.intro ?_ ?_)
  · have hge := of_decide_eq_false hge
    have e : allQ (dfQ ps i) k (i - k) = true := allQ_end (by omega)
    refine ⟨by simp only [re_svI, e, cond_true], [], ?_⟩
    simp only [rs_svI, e, cond_true]
    repeat' (first | exact True.intro | exact rfl | exact fun _ => rfl | refine And.intro ?_ ?_)
set_option maxRecDepth 100000 in
theorem lg_svI : LoopE Try.prog e_svI c_svI := by
  intro s k t F H hlt ht
  unfold e_svI at hlt
  split at hlt
  rotate_left
  · cases hlt
  rename_i hlen hpick hmem
  obtain ⟨tmps, mem⟩ := s
  simp only at hlen hpick hmem
  subst hmem
  obtain rfl := Option.some.inj hlt
  obtain ⟨⟨rfl, h0, h1, h2, _⟩, ht2⟩ := needs_ok ht
  clear ht hlt
  obtain ⟨ps, rfl, rfl⟩ := even_flat h1
  obtain ⟨i, rfl⟩ := Int.eq_ofNat_of_zero_le h0.1
  rw [ptsA_flat] at ht2
  simp only [Int.toNat_natCast] at ht2
  refine ⟨_, _, pick2k ht2, loop_run mixed EGc_ok (s_svI ps i) (inv_svI ps i) (me_svI ps i) (re_svI ps i) (rs_svI ps i) k_svI (fun _ => rfl) (noLoops nl_svI) (round_svI ps i h2 (by omega)) (x := 0) (Nat.zero_le _) (π := []) rfl ?_⟩
  refine ⟨rfl, rfl, ?_, wvs_spread' [0, 3, 4] hlen rfl ?_⟩
  · repeat' (first | exact True.intro | exact rfl | exact wv_top _ _ | exact fun _ => rfl | assumption | exact Eq.symm (by assumption) | exact vI0 rfl | refine And.intro ?_ ?_)
  · rw [hpick]
    repeat' (first | exact True.intro | exact rfl | exact wv_top _ _ | exact fun _ => rfl | assumption | exact Eq.symm (by assumption) | exact vI0 rfl | refine And.intro ?_ ?_)
set_option maxRecDepth 100000 in
theorem in_svO : loopsOf c_svO = [c_svI] := by kernel_rfl
theorem ltSv_good : LoopsGood Try.prog ltSv 1 c_svO := by
  intro i d hd s k t F H hlt ht
  rw [in_svO] at hd
  cases i with
  | zero =>
    obtain rfl : c_svI = d := by simpa using hd
    exact lg_svI s k t F H hlt ht
  | succ i => simp at hd
set_option maxRecDepth 100000 in
theorem round_svO (ps : List Pt) (h : ps.length ≤ 1000000000) : Round_svO ps := by
  intro i h1
  have h1 : i ≤ ps.length := h1
  rw [tr_svO]
  have fl := flat_length ps
  simp only [Int.toNat_natCast, Nat.zero_add, flat_get0, flat_get1, ptsA_flat]
  refine brT_ok.2 ⟨fun hlt => ?_, fun hge => ?_⟩
  · have hlt := of_decide_eq_true hlt
    have hi : i < ps.length := by omega
    have st := allQ_step (P := vgQ ps) hi
    have eq : vgQ ps i = (ptB (ps.getD i (0, 0)).1 (ps.getD i (0, 0)).2 && allQ (dfQ ps i) 0 i) := rfl
    rw [wsucc (n := ps.length) hi h]
    simp only [Tree.ok]
    refine ⟨by omega, by omega, brT_ok.2 ⟨fun g => ?_, fun g => ⟨trivial, by omega, fl, h, brT_ok.2 ⟨fun k => ?_, fun k => ?_⟩⟩⟩⟩
    · have g : ptB (ps.getD i (0, 0)).1 (ps.getD i (0, 0)).2 = false := by simpa using g
      rw [eq, g, Bool.false_and, Bool.false_and] at st
      refine ⟨by simp only [re_svO, st, cond_false], [], ?_⟩
      simp only [rs_svO, st, cond_false]
      repeat' (first | exact True.intro | exact rfl | exact fun _ => rfl | refine And.intro ?_ ?_)
    · have g : ptB (ps.getD i (0, 0)).1 (ps.getD i (0, 0)).2 = true := by simpa using g
      rw [eq, g, k, Bool.true_and, Bool.true_and] at st
      refine ⟨i + 1, [], ?_, ?_, by simp only [re_svO, st], by simp only [rs_svO, st], ?_⟩
      · show i + 1 ≤ ps.length; omega
      · show ps.length - (i + 1) < ps.length - i; omega
      · repeat' (first | exact True.intro | exact rfl | exact fun _ => rfl | refine And.intro ?_ ?_)
    · rw [eq, k, Bool.and_false, Bool.false_and] at st
      refine ⟨by simp only [re_svO, st, cond_false], [], ?_⟩
      simp only [rs_svO, st, cond_false]
      repeat' (first | exact True.intro | exact rfl | exact fun _ => rfl | refine And.intro ?_ ?_)
  · have hge := of_decide_eq_false hge
    have e : allQ (vgQ ps) i (ps.length - i) = true := allQ_end (by omega)
    refine ⟨by simp only [re_svO, e, cond_true], [], ?_⟩
    simp only [rs_svO, e, cond_true]
    repeat' (first | exact True.intro | exact rfl | exact fun _ => rfl | refine And.intro ?_ ?_)
set_option maxRecDepth 100000 in
theorem lg_svO : LoopE Try.prog e_svO c_svO := by
  intro s k t F H hlt ht
  unfold e_svO at hlt
  split at hlt
  rotate_left
  · cases hlt
  rename_i hlen hpick hmem
  obtain ⟨tmps, mem⟩ := s
  simp only at hlen hpick hmem
  subst hmem
  obtain rfl := Option.some.inj hlt
  obtain ⟨⟨rfl, h1, h2, _⟩, ht2⟩ := needs_ok ht
  clear ht hlt
  obtain ⟨ps, rfl, rfl⟩ := even_flat h1
  rw [ptsA_flat] at ht2
  refine ⟨_, _, pick2k ht2, loop_run mixed EGc_ok (s_svO ps) (inv_svO ps) (me_svO ps) (re_svO ps) (rs_svO ps) k_svO (fun _ => rfl) ltSv_good (round_svO ps h2) (x := 0) (Nat.zero_le _) (π := []) rfl ?_⟩
  refine ⟨rfl, rfl, ?_, wvs_spread' [0, 3] hlen rfl ?_⟩
  · repeat' (first | exact True.intro | exact rfl | exact wv_top _ _ | exact fun _ => rfl | assumption | exact Eq.symm (by assumption) | exact vI0 rfl | refine And.intro ?_ ?_)
  · rw [hpick]
    repeat' (first | exact True.intro | exact rfl | exact wv_top _ _ | exact fun _ => rfl | assumption | exact Eq.symm (by assumption) | exact vI0 rfl | refine And.intro ?_ ?_)
theorem ptsA_tk' {ps : List Pt} {K : Nat} (h : K ≤ ps.length) : ptsA K (flat ps) = ps.take K := by
  have e := ptsA_flat (ps.take K)
  have hl : (ps.take K).length = K := by simp; omega
  rw [hl] at e
  unfold ptsA at e ⊢
  rw [flat_take]
  rw [flat_take, List.take_take, Nat.min_self] at e
  exact e
theorem bndG_some (k : IntKind) (x d : Int) : bndI (some (k, x)) d = x := rfl
theorem bndG_none (d : Int) : bndI none d = d := rfl
theorem ng_df {ps : List Pt} {i : Nat} (h : i < ps.length) : allQ (ngQ (ps.take i) (ps.getD i (0, 0)).1 (ps.getD i (0, 0)).2) 0 i = allQ (dfQ ps i) 0 i := by
  have key : ∀ k, k < i → ngQ (ps.take i) (ps.getD i (0, 0)).1 (ps.getD i (0, 0)).2 k = dfQ ps i k := fun k hk => by
    have e : (ps.take i).getD k (0, 0) = ps.getD k (0, 0) := by
      simp only [List.getD_eq_getElem?_getD]
      rw [List.getElem?_take, if_pos hk]
    unfold ngQ dfQ gG
    rw [e]
    have := eqG_is (ps.getD k (0, 0)) (ps.getD i (0, 0))
    simp only [negB, Bool.and_true] at this
    rw [this]
  rw [Bool.eq_iff_iff]
  constructor
  · intro g
    exact allQ_mk' _ _ fun j h1 h2 => by rw [← key j (by omega)]; exact allQ_get _ _ g j h1 h2
  · intro g
    exact allQ_mk' _ _ fun j h1 h2 => by rw [key j (by omega)]; exact allQ_get _ _ g j h1 h2
set_option maxRecDepth 100000 in
theorem round_ivG (ps : List Pt) (h : ps.length ≤ 1000000000) : Round_ivG ps := by
  intro i h1
  have h1 : i ≤ ps.length := h1
  rw [tr_ivG]
  have fl := flat_length ps
  simp only [bndG_some, bndG_none, Int.toNat_natCast, Nat.zero_add, Nat.sub_zero, List.drop_zero, flat_get0, flat_get1]
  refine brT_ok.2 ⟨fun hlt => ?_, fun hge => ?_⟩
  · have hlt := of_decide_eq_true hlt
    have hi : i < ps.length := by omega
    have st := allQ_step (P := vgQ ps) hi
    have eq : vgQ ps i = (ptB (ps.getD i (0, 0)).1 (ps.getD i (0, 0)).2 && allQ (dfQ ps i) 0 i) := rfl
    have ln : (ps.take i).length = i := by rw [List.length_take]; omega
    rw [wsucc (n := ps.length) hi h, ptsA_tk' (by omega), ln, ng_df hi]
    simp only [Tree.ok]
    refine ⟨by omega, by omega, brT_ok.2 ⟨fun g => ?_, fun g => ⟨by omega, by omega, by omega, brT_ok.2 ⟨fun k => ?_, fun k => ?_⟩⟩⟩⟩
    · have g : ptB (ps.getD i (0, 0)).1 (ps.getD i (0, 0)).2 = false := by simpa using g
      rw [eq, g, Bool.false_and, Bool.false_and] at st
      refine ⟨by simp only [re_ivG, st, cond_false], [], ?_⟩
      simp only [rs_ivG, st, cond_false]
      repeat' (first | exact True.intro | exact rfl | exact fun _ => rfl | refine And.intro ?_ ?_)
    · have k : allQ (dfQ ps i) 0 i = false := by simpa using k
      rw [eq, k, Bool.and_false, Bool.false_and] at st
      refine ⟨by simp only [re_ivG, st, cond_false], [], ?_⟩
      simp only [rs_ivG, st, cond_false]
      repeat' (first | exact True.intro | exact rfl | exact fun _ => rfl | refine And.intro ?_ ?_)
    · have g : ptB (ps.getD i (0, 0)).1 (ps.getD i (0, 0)).2 = true := by simpa using g
      have k : allQ (dfQ ps i) 0 i = true := by simpa using k
      rw [eq, g, k, Bool.true_and, Bool.true_and] at st
      refine ⟨i + 1, [], ?_, ?_, by simp only [re_ivG, st], by simp only [rs_ivG, st], ?_⟩
      · show i + 1 ≤ ps.length; omega
      · show ps.length - (i + 1) < ps.length - i; omega
      · repeat' (first | exact True.intro | exact rfl | exact fun _ => rfl | refine And.intro ?_ ?_)
  · have hge := of_decide_eq_false hge
    have e : allQ (vgQ ps) i (ps.length - i) = true := allQ_end (by omega)
    refine ⟨by simp only [re_ivG, e, cond_true], [], ?_⟩
    simp only [rs_ivG, e, cond_true]
    repeat' (first | exact True.intro | exact rfl | exact fun _ => rfl | refine And.intro ?_ ?_)
set_option maxRecDepth 100000 in
theorem lg_ivG : LoopE Try.prog e_ivG c_ivG := by
  intro s k t F H hlt ht
  unfold e_ivG at hlt
  split at hlt
  rotate_left
  · cases hlt
  rename_i hlen hpick hmem
  obtain ⟨tmps, mem⟩ := s
  simp only at hlen hpick hmem
  subst hmem
  obtain rfl := Option.some.inj hlt
  obtain ⟨⟨rfl, rfl, rfl, h1, h2, _⟩, ht2⟩ := needs_ok ht
  clear ht hlt
  obtain ⟨ps, rfl, rfl⟩ := even_flat h1
  rw [ptsA_flat] at ht2
  refine ⟨_, _, pick2k ht2, loop_run mixed EGc_ok (s_ivG ps) (inv_ivG ps) (me_ivG ps) (re_ivG ps) (rs_ivG ps) k_ivG (fun _ => rfl) (noLoops nl_ivG) (round_ivG ps h2) (x := 0) (Nat.zero_le _) (π := []) rfl ?_⟩
  refine ⟨rfl, rfl, ?_, wvs_spread' [0, 8, 9, 10] hlen rfl ?_⟩
  · repeat' (first | exact True.intro | exact rfl | exact wv_top _ _ | exact fun _ => rfl | assumption | exact Eq.symm (by assumption) | exact vI0 rfl | refine And.intro ?_ ?_)
  · rw [hpick]
    repeat' (first | exact True.intro | exact rfl | exact wv_top _ _ | exact fun _ => rfl | assumption | exact Eq.symm (by assumption) | exact vI0 rfl | refine And.intro ?_ ?_)
end Go.Proofs.Ytolodncpegajkab
namespace Go.Proofs.Ytolodncpegajkab
set_option linter.all false
open Go.RowKit
theorem loop_det2 {P : Program} {c : Code} {N M : Nat} {X : Type} (St_of : X → St) (Inv : X → Prop) (μ : X → Nat) (re : X → Ex) (rs : X → St) (keep : Ex → List Nat) (hM : ∀ x, (St_of x).mem.length ≤ M)
    (h : ∀ x, Inv x → ∃ e' s', Det P c (St_of x) e' s' ∧ match e' with
      | .normal => ∃ x' π, Inv x' ∧ μ x' < μ x ∧ re x' = re x ∧ rs x' = rs x ∧ WS N π (cutS M (keep .normal) s') (St_of x')
      | e => e = re x ∧ ∃ π, WS N π (cutS M (keep e) s') (rs x))
    {x : X} (hx : Inv x) {s : St} {π : List (Option Nat)} (hN : s.mem.length = N) (hs : WS N π s (St_of x)) : Det P (.loop c) s (re x) (rs x) := by
  intro w0 a w hc
  have hρ := con_dom hc
  rw [hN] at hρ
  have hρ' : ∀ {x' π' s'}, WS N π' s' (St_of x') → ∀ n, (St_of x').mem.length ≤ n → w0.ρ0 n = none := fun h n hn => hρ n (Nat.le_trans (Nat.le_of_ble_eq_true h.1) hn)
  refine wpIn_loop_ghost (fun n a w => ∃ x', Inv x' ∧ μ x' = n ∧ re x' = re x ∧ rs x' = rs x ∧ (∀ n, (St_of x').mem.length ≤ n → w0.ρ0 n = none) ∧ Con w0 (St_of x').fs a w) (μ x) ⟨x, hx, rfl, rfl, rfl, hρ' hs, weak_con hs hρ hc⟩ ?_
  rintro n a w ⟨x', hI, rfl, hre, hrs, hdom, hcc⟩
  obtain ⟨e', s', hd, hend⟩ := h x' hI
  have hdom2 : ∀ n, M ≤ n → w0.ρ0 n = none := fun n hn => hdom n (Nat.le_trans (hM x') hn)
  refine wpIn_mono (hd w0 a w hcc) ?_
  rintro e a' w' ⟨rfl, hcc'⟩
  cases e' with
  | normal =>
    obtain ⟨x2, π2, g1, g2, g3, g4, g5⟩ := hend
    exact ⟨_, g2, x2, g1, rfl, g3.trans hre, g4.trans hrs, hρ' g5, weak_con g5 hρ (cut_con hdom2 hcc')⟩
  | exit id =>
    obtain ⟨g1, π2, g2⟩ := hend
    exact ⟨by rw [← hre, ← g1], by rw [← hrs]; exact weak_con g2 hρ (cut_con hdom2 hcc')⟩
  | ret =>
    obtain ⟨g1, π2, g2⟩ := hend
    exact ⟨by rw [← hre, ← g1], by rw [← hrs]; exact weak_con g2 hρ (cut_con hdom2 hcc')⟩
theorem loop_run2 {P : Program} (hm : P.follows .mixedOrders = true) {E : Env} (hE : EnvOk P E) {m n : Nat} {lt : LT} {j : Nat} {c : Code} {N : Nat} {X : Type} (St_of : X → St) (Inv : X → Prop) (μ : X → Nat) (re : X → Ex) (rs : X → St) (keep : Ex → List Nat) {M : Nat} (hM : ∀ x, Nat.ble (St_of x).mem.length M = true) (hL : LoopsGood P lt j c)
    (h : ∀ x, Inv x → (bodyL P E m n lt j c keep M (St_of x)).ok (RoundEnd N St_of Inv μ re rs x) (fun _ _ => False))
    {x : X} (hx : Inv x) {s : St} {π : List (Option Nat)} (hN : s.mem.length = N) (hs : WS N π s (St_of x)) : Det P (.loop c) s (re x) (rs x) :=
  loop_det2 (M := M) St_of Inv μ re rs keep (fun x => Nat.le_of_ble_eq_true (hM x)) (fun x hx => by
    obtain ⟨e', s', h1, h2⟩ := body_det hm hE hL (h x hx)
    refine ⟨e', s', h1, ?_⟩
    unfold RoundEnd at h2
    cases e' <;> exact h2) hx hN hs
end Go.Proofs.Ytolodncpegajkab
namespace Go.Proofs.Ytolodncpegajkab
set_option linter.all false
open Go.RowKit
theorem Lr_svO {fn : Func} (hf : Try.prog.funcs[51]? = some fn) : LoopsGood Try.prog (lt1 e_svO) 0 (codeOf fn) := by
  obtain rfl := fn_is Try.func51 hf
  exact lt1_good lg_svO
theorem Lr_ivG {fn : Func} (hf : Try.prog.funcs[54]? = some fn) : LoopsGood Try.prog (lt1 e_ivG) 0 (codeOf fn) := by
  obtain rfl := fn_is Try.func54 hf
  exact lt1_good lg_ivG
def LVg : FuncId → LT := fun f => match f with
  | 51 => lt1 e_svO
  | 54 => lt1 e_ivG
  | _ => noL
def EVg : Env := mkE TGc (fun _ _ => none) LVg
theorem EVg_ok : EnvOk Try.prog EVg := mkEOk TGc_ok (fun _ _ _ _ _ h => (by cases h)) (by
  intro f fn hf
  unfold LVg
  split
  all_goals first | with_reducible exact Lr_svO hf | with_reducible exact Lr_ivG hf | exact noL_good)
set_option maxRecDepth 100000 in
theorem tr_svGF (ps : List Pt) : bodyV Try.prog EVg 30 12 51 [.row ps.length (.ints (flat ps))] = .need ((0 : Int) = (0 : Int)) (.need ((flat ps).length = ps.length * (2 : Nat)) (.need (ps.length ≤ (1000000000 : Nat)) (brT (allQ (vgQ (ptsA ps.length (flat ps))) 0 ps.length) (.fin (.bool (decide ((↑ps.length : Int) ≤ 8))) []) (.fin (.bool (false)) [])))) := by kernel_rfl
set_option maxRecDepth 100000 in
theorem tr_ivGF (ps : List Pt) : bodyV Try.prog EVg 30 12 54 [.row ps.length (.ints (flat ps))] = brT (decide (8 < (↑ps.length : Int))) (.fin (.bool (false)) []) (.need ((0 : Int) = (0 : Int)) (.need (ps.length = ps.length) (.need ((↑ps.length : Int) = (↑ps.length : Int)) (.need ((flat ps).length = ps.length * (2 : Nat)) (.need (ps.length ≤ (1000000000 : Nat)) (brT (allQ (vgQ (ptsA ps.length (flat ps))) 0 ps.length) (.fin (.bool (true)) []) (.fin (.bool (false)) []))))))) := by kernel_rfl
def vgB (ps : List Pt) : Bool := allQ (vgQ ps) 0 ps.length && decide (ps.length ≤ 8)
theorem res_svGF (ps : List Pt) (h : Big ps) : Res Try.prog 51 [.row ps.length (.ints (flat ps))] (.bool (vgB ps)) := by
  refine bodyV_res mixed EVg_ok (m := 30) (n := 12) rfl ?_
  rw [tr_svGF]
  unfold Big at h
  simp only [ptsA_flat, flat_length]
  unfold vgB
  rcases allQ (vgQ ps) 0 ps.length with _ | _
  · exact ⟨trivial, trivial, h, rfl⟩
  · refine ⟨trivial, trivial, h, ?_⟩
    show Value.bool _ = Value.bool _
    rw [Value.bool.injEq, Bool.true_and]
    exact decide_eq_decide.2 (by omega)
theorem res_ivGF (ps : List Pt) (h : Big ps) : Res Try.prog 54 [.row ps.length (.ints (flat ps))] (.bool (vgB ps)) := by
  refine bodyV_res mixed EVg_ok (m := 30) (n := 12) rfl ?_
  rw [tr_ivGF]
  unfold Big at h
  simp only [ptsA_flat, flat_length]
  unfold vgB
  by_cases hl : ps.length ≤ 8
  · rw [decide_eq_true hl, decide_eq_false (show ¬ (8 : Int) < ps.length by omega), Bool.and_true]
    rcases allQ (vgQ ps) 0 ps.length with _ | _ <;> (simp only [brT_t, brT_f, Tree.ok]; repeat' (first | exact True.intro | exact rfl | assumption | omega | refine And.intro ?_ ?_))
  · rw [decide_eq_false hl, decide_eq_true (show (8 : Int) < ps.length by omega), Bool.and_false]
    exact rfl
def pVgs : List DArg → Option (Value × List Prop)
  | [.row m (.ints xs)] => some (.bool (vgB (ptsA m xs)), [m * 2 ≤ xs.length, m ≤ 1000000000])
  | _ => none
theorem pVgs_ok {f : FuncId} (h0 : ∀ ps : List Pt, Big ps → Res Try.prog f [.row ps.length (.ints (flat ps))] (.bool (vgB ps))) {ds : List DArg} {v : Value} {C : List Prop} (h : pVgs ds = some (v, C)) (hC : AllP C) : Res Try.prog f ds v := by
  unfold pVgs at h
  split at h
  · obtain ⟨rfl, rfl⟩ : _ ∧ _ := by simpa using h
    obtain ⟨_, h2⟩ := ptsA_spec hC.1
    exact res_pts1 (pre := []) (post := []) hC.1 (h0 _ (by unfold Big; rw [h2]; exact hC.2.1))
  · cases h
theorem pVgS_ok {ds : List DArg} {v : Value} {C : List Prop} (h : pVgs ds = some (v, C)) (hC : AllP C) : Res Try.prog 51 ds v := pVgs_ok res_svGF h hC
theorem pVgI_ok {ds : List DArg} {v : Value} {C : List Prop} (h : pVgs ds = some (v, C)) (hC : AllP C) : Res Try.prog 54 ds v := pVgs_ok res_ivGF h hC
def TVg : Tab := fun f ds => match f with
  | 51 => pVgs ds
  | 54 => pVgs ds
  | f => TGc f ds
theorem TVg_ok : TabOk Try.prog TVg := by
  intro f ds v C h hC
  unfold TVg at h
  (try split at h)
  all_goals first | with_reducible exact pVgS_ok h hC | with_reducible exact pVgI_ok h hC | exact TGc_ok _ _ _ _ h hC
def EUe : Env := mkE TVg (fun _ _ => none) (fun _ => noL)
theorem EUe_ok : EnvOk Try.prog EUe := mkEOk TVg_ok (fun _ _ _ _ _ h => (by cases h)) (fun _ _ _ => noL_good)
def kI (os : List Int) (k : Nat) : Nat := (os.getD k 0).toNat
/-- Does a graph of the order stand behind another one? -/
def aftB (gs : List Pt) (os : List Int) (k i : Nat) : Bool := decide ((gG gs i).1 < (gG gs (kI os k)).1) || (decide ((gG gs (kI os k)).1 = (gG gs i).1) && decide ((gG gs (kI os k)).2 < (gG gs i).2))
def posG (gs : List Pt) (os : List Int) (i : Nat) : Nat → Nat
  | 0 => 0
  | k + 1 => bif aftB gs os k i then posG gs os i k else k + 1
theorem posG_le (gs : List Pt) (os : List Int) (i : Nat) : ∀ k, posG gs os i k ≤ k
  | 0 => Nat.le_refl _
  | k + 1 => by
    have := posG_le gs os i k
    simp only [posG]
    cases aftB gs os k i <;> simp only [cond_true, cond_false] <;> omega
/-- The order with one more index. -/
def insI (gs : List Pt) (os : List Int) (i : Nat) : List Int := os.take (posG gs os i os.length) ++ ((i : Int) :: os.drop (posG gs os i os.length))
def ordL (gs : List Pt) : Nat → Nat → List Int → List Int
  | 0, _, os => os
  | n + 1, i, os => ordL gs n (i + 1) (insI gs os i)
theorem ordL_step {gs : List Pt} {i n : Nat} {os : List Int} (h : i < n) : ordL gs (n - i) i os = ordL gs (n - (i + 1)) (i + 1) (insI gs os i) := by
  rw [show n - i = (n - (i + 1)) + 1 by omega]
  rfl
def ixIn (n : Nat) (os : List Int) : Prop := ∀ k, k < os.length → 0 ≤ os.getD k 0 ∧ os.getD k 0 < n
noncomputable def c_sEi : Code := ((loopsOf (codeOf Try.f16))[1]?).getD .skip
def k_sEi : Ex → List Nat := keeps [0, 3, 4, 5] [(2, [0, 3, 4, 5]), (1, [0, 3, 4]), (0, [0, 3])] [2]
def s_sEi (gs : List Pt) (os : List Int) (m i : Nat) : Nat → St := fun k => ⟨(.slice (some ⟨0, 0, none⟩) gs.length gs.length :: topV :: topV :: .slice (some ⟨2, 0, none⟩) m m :: .int .i64 i :: .int .i64 k :: topV :: topV :: topV :: topV :: topV :: topV :: topV :: topV :: topV :: topV :: topV :: topV :: topV :: topV :: topV :: topV :: topV :: topV :: topV :: topV :: topV :: topV :: topV :: topV :: topV :: topV :: topV :: topV :: topV :: topV :: topV :: topV :: topV :: topV :: topV :: topV :: topV :: topV :: topV :: topV :: topV :: topV :: topV :: topV :: topV :: topV :: topV :: topV :: topV :: topV :: topV :: topV :: topV :: topV :: topV :: topV :: topV :: topV :: topV :: topV :: topV :: topV :: topV :: topV :: topV :: topV :: topV :: topV :: topV :: topV :: topV :: topV :: topV :: topV :: topV :: topV :: topV :: topV :: topV :: topV :: topV :: topV :: topV :: topV :: topV :: topV :: topV :: topV :: topV :: topV :: topV :: topV :: topV :: topV :: topV :: topV :: topV :: topV :: topV :: topV :: topV :: topV :: topV :: topV :: topV :: topV :: topV :: topV :: topV :: topV :: topV :: topV :: topV :: topV :: topV :: topV :: topV :: topV :: topV :: topV :: topV :: topV :: topV :: topV :: topV :: topV :: topV :: topV :: topV :: topV :: topV :: topV :: topV :: topV :: topV :: topV :: topV :: topV :: topV :: topV :: topV :: topV :: topV :: topV :: topV :: topV :: topV :: topV :: topV :: topV :: topV :: topV :: topV :: topV :: topV :: topV :: topV :: []), [some ⟨.view, .ints (flat gs)⟩, some ⟨.dead, .vals []⟩, some ⟨.row 3 1, .ints os⟩]⟩
def re_sEi : Nat → Ex := fun _ => .exit 2
def rs_sEi (gs : List Pt) (os : List Int) (m i : Nat) : Nat → St := fun k => ⟨(.slice (some ⟨0, 0, none⟩) gs.length gs.length :: topV :: topV :: .slice (some ⟨2, 0, none⟩) m m :: .int .i64 i :: .int .i64 (posG gs os i m) :: topV :: topV :: topV :: topV :: topV :: topV :: topV :: topV :: topV :: topV :: topV :: topV :: topV :: topV :: topV :: topV :: topV :: topV :: topV :: topV :: topV :: topV :: topV :: topV :: topV :: topV :: topV :: topV :: topV :: topV :: topV :: topV :: topV :: topV :: topV :: topV :: topV :: topV :: topV :: topV :: topV :: topV :: topV :: topV :: topV :: topV :: topV :: topV :: topV :: topV :: topV :: topV :: topV :: topV :: topV :: topV :: topV :: topV :: topV :: topV :: topV :: topV :: topV :: topV :: topV :: topV :: topV :: topV :: topV :: topV :: topV :: topV :: topV :: topV :: topV :: topV :: topV :: topV :: topV :: topV :: topV :: topV :: topV :: topV :: topV :: topV :: topV :: topV :: topV :: topV :: topV :: topV :: topV :: topV :: topV :: topV :: topV :: topV :: topV :: topV :: topV :: topV :: topV :: topV :: topV :: topV :: topV :: topV :: topV :: topV :: topV :: topV :: topV :: topV :: topV :: topV :: topV :: topV :: topV :: topV :: topV :: topV :: topV :: topV :: topV :: topV :: topV :: topV :: topV :: topV :: topV :: topV :: topV :: topV :: topV :: topV :: topV :: topV :: topV :: topV :: topV :: topV :: topV :: topV :: topV :: topV :: topV :: topV :: topV :: topV :: topV :: topV :: topV :: topV :: topV :: topV :: topV :: []), [some ⟨.view, .ints (flat gs)⟩, some ⟨.dead, .vals []⟩, some ⟨.row 3 1, .ints os⟩]⟩
set_option maxRecDepth 100000 in
theorem tr_sEi (gs : List Pt) (os : List Int) (m i : Nat) (k : Nat) : bodyL Try.prog EUe 30 12 noL 2 c_sEi k_sEi 3 (s_sEi gs os m i k) = brT (decide (0 < (↑k : Int))) (brT (decide ((flat gs).getD (0 + (↑i : Int).toNat * 2 + 0) 0 < (flat gs).getD (0 + (os.getD (0 + (IntKind.i64.wrap ((↑k : Int) - 1)).toNat * 1) 0).toNat * 2 + 0) 0)) (.need ((0 : Int) ≤ IntKind.i64.wrap ((↑k : Int) - (1 : Int)) ∧ IntKind.i64.wrap ((↑k : Int) - (1 : Int)) < (↑m : Int)) (.need ((0 : Nat) + (IntKind.i64.wrap ((↑k : Int) - (1 : Int))).toNat * (1 : Nat) < os.length) (.need ((0 : Int) ≤ os.getD ((0 : Nat) + (IntKind.i64.wrap ((↑k : Int) - (1 : Int))).toNat * (1 : Nat)) (0 : Int) ∧ os.getD ((0 : Nat) + (IntKind.i64.wrap ((↑k : Int) - (1 : Int))).toNat * (1 : Nat)) (0 : Int) < (↑gs.length : Int)) (.need ((0 : Nat) + (os.getD ((0 : Nat) + (IntKind.i64.wrap ((↑k : Int) - (1 : Int))).toNat * (1 : Nat)) (0 : Int)).toNat * (2 : Nat) + (0 : Nat) < (flat gs).length) (.need ((0 : Int) ≤ (↑i : Int) ∧ (↑i : Int) < (↑gs.length : Int)) (.need ((0 : Nat) + (↑i : Int).toNat * (2 : Nat) + (0 : Nat) < (flat gs).length) (.leaf .normal ⟨(.slice (some ⟨0, 0, none⟩) (gs.length) (gs.length) :: topV :: topV :: .slice (some ⟨2, 0, none⟩) (m) (m) :: .int .i64 ((↑i : Int)) :: .int .i64 (IntKind.i64.wrap ((↑k : Int) - 1)) :: topV :: topV :: topV :: topV :: topV :: topV :: topV :: topV :: topV :: topV :: topV :: topV :: topV :: topV :: topV :: topV :: topV :: topV :: topV :: topV :: topV :: topV :: topV :: topV :: topV :: topV :: topV :: topV :: topV :: topV :: topV :: topV :: topV :: topV :: topV :: topV :: topV :: topV :: topV :: topV :: topV :: topV :: topV :: topV :: topV :: topV :: topV :: topV :: topV :: topV :: topV :: topV :: topV :: topV :: topV :: topV :: topV :: topV :: topV :: topV :: topV :: topV :: topV :: topV :: topV :: topV :: topV :: topV :: topV :: topV :: topV :: topV :: topV :: topV :: topV :: topV :: topV :: topV :: topV :: topV :: topV :: topV :: topV :: topV :: topV :: topV :: topV :: topV :: topV :: topV :: topV :: topV :: topV :: topV :: topV :: topV :: topV :: topV :: topV :: topV :: topV :: topV :: topV :: topV :: topV :: topV :: topV :: topV :: topV :: topV :: topV :: topV :: topV :: topV :: topV :: topV :: topV :: topV :: topV :: topV :: topV :: topV :: topV :: topV :: topV :: topV :: topV :: topV :: topV :: topV :: topV :: topV :: topV :: topV :: topV :: topV :: topV :: topV :: topV :: topV :: topV :: topV :: topV :: topV :: topV :: topV :: topV :: topV :: topV :: topV :: topV :: topV :: topV :: topV :: topV :: topV :: topV :: []), [some ⟨.view, .ints (flat gs)⟩, some deadB, some ⟨.row 3 1, .ints (os)⟩]⟩))))))) (brT ((flat gs).getD (0 + (os.getD (0 + (IntKind.i64.wrap ((↑k : Int) - 1)).toNat * 1) 0).toNat * 2 + 0) 0 == (flat gs).getD (0 + (↑i : Int).toNat * 2 + 0) 0) (.need ((0 : Int) ≤ IntKind.i64.wrap ((↑k : Int) - (1 : Int)) ∧ IntKind.i64.wrap ((↑k : Int) - (1 : Int)) < (↑m : Int)) (.need ((0 : Nat) + (IntKind.i64.wrap ((↑k : Int) - (1 : Int))).toNat * (1 : Nat) < os.length) (.need ((0 : Int) ≤ os.getD ((0 : Nat) + (IntKind.i64.wrap ((↑k : Int) - (1 : Int))).toNat * (1 : Nat)) (0 : Int) ∧ os.getD ((0 : Nat) + (IntKind.i64.wrap ((↑k : Int) - (1 : Int))).toNat * (1 : Nat)) (0 : Int) < (↑gs.length : Int)) (.need ((0 : Nat) + (os.getD ((0 : Nat) + (IntKind.i64.wrap ((↑k : Int) - (1 : Int))).toNat * (1 : Nat)) (0 : Int)).toNat * (2 : Nat) + (0 : Nat) < (flat gs).length) (.need ((0 : Int) ≤ (↑i : Int) ∧ (↑i : Int) < (↑gs.length : Int)) (.need ((0 : Nat) + (↑i : Int).toNat * (2 : Nat) + (0 : Nat) < (flat gs).length) (.need ((0 : Int) ≤ IntKind.i64.wrap ((↑k : Int) - (1 : Int)) ∧ IntKind.i64.wrap ((↑k : Int) - (1 : Int)) < (↑m : Int)) (.need ((0 : Nat) + (IntKind.i64.wrap ((↑k : Int) - (1 : Int))).toNat * (1 : Nat) < os.length) (.need ((0 : Int) ≤ os.getD ((0 : Nat) + (IntKind.i64.wrap ((↑k : Int) - (1 : Int))).toNat * (1 : Nat)) (0 : Int) ∧ os.getD ((0 : Nat) + (IntKind.i64.wrap ((↑k : Int) - (1 : Int))).toNat * (1 : Nat)) (0 : Int) < (↑gs.length : Int)) (.need ((0 : Nat) + (os.getD ((0 : Nat) + (IntKind.i64.wrap ((↑k : Int) - (1 : Int))).toNat * (1 : Nat)) (0 : Int)).toNat * (2 : Nat) + (0 : Nat) < (flat gs).length) (.need ((0 : Int) ≤ (↑i : Int) ∧ (↑i : Int) < (↑gs.length : Int)) (.need ((0 : Nat) + (↑i : Int).toNat * (2 : Nat) + (0 : Nat) < (flat gs).length) (.need ((0 : Int) ≤ IntKind.i64.wrap ((↑k : Int) - (1 : Int)) ∧ IntKind.i64.wrap ((↑k : Int) - (1 : Int)) < (↑m : Int)) (.need ((0 : Nat) + (IntKind.i64.wrap ((↑k : Int) - (1 : Int))).toNat * (1 : Nat) < os.length) (.need ((0 : Int) ≤ os.getD ((0 : Nat) + (IntKind.i64.wrap ((↑k : Int) - (1 : Int))).toNat * (1 : Nat)) (0 : Int) ∧ os.getD ((0 : Nat) + (IntKind.i64.wrap ((↑k : Int) - (1 : Int))).toNat * (1 : Nat)) (0 : Int) < (↑gs.length : Int)) (.need ((0 : Nat) + (os.getD ((0 : Nat) + (IntKind.i64.wrap ((↑k : Int) - (1 : Int))).toNat * (1 : Nat)) (0 : Int)).toNat * (2 : Nat) + (1 : Nat) < (flat gs).length) (.need ((0 : Int) ≤ (↑i : Int) ∧ (↑i : Int) < (↑gs.length : Int)) (.need ((0 : Nat) + (↑i : Int).toNat * (2 : Nat) + (1 : Nat) < (flat gs).length) (brT (decide ((flat gs).getD (0 + (os.getD (0 + (IntKind.i64.wrap ((↑k : Int) - 1)).toNat * 1) 0).toNat * 2 + 1) 0 < (flat gs).getD (0 + (↑i : Int).toNat * 2 + 1) 0)) (.leaf .normal ⟨(.slice (some ⟨0, 0, none⟩) (gs.length) (gs.length) :: topV :: topV :: .slice (some ⟨2, 0, none⟩) (m) (m) :: .int .i64 ((↑i : Int)) :: .int .i64 (IntKind.i64.wrap ((↑k : Int) - 1)) :: topV :: topV :: topV :: topV :: topV :: topV :: topV :: topV :: topV :: topV :: topV :: topV :: topV :: topV :: topV :: topV :: topV :: topV :: topV :: topV :: topV :: topV :: topV :: topV :: topV :: topV :: topV :: topV :: topV :: topV :: topV :: topV :: topV :: topV :: topV :: topV :: topV :: topV :: topV :: topV :: topV :: topV :: topV :: topV :: topV :: topV :: topV :: topV :: topV :: topV :: topV :: topV :: topV :: topV :: topV :: topV :: topV :: topV :: topV :: topV :: topV :: topV :: topV :: topV :: topV :: topV :: topV :: topV :: topV :: topV :: topV :: topV :: topV :: topV :: topV :: topV :: topV :: topV :: topV :: topV :: topV :: topV :: topV :: topV :: topV :: topV :: topV :: topV :: topV :: topV :: topV :: topV :: topV :: topV :: topV :: topV :: topV :: topV :: topV :: topV :: topV :: topV :: topV :: topV :: topV :: topV :: topV :: topV :: topV :: topV :: topV :: topV :: topV :: topV :: topV :: topV :: topV :: topV :: topV :: topV :: topV :: topV :: topV :: topV :: topV :: topV :: topV :: topV :: topV :: topV :: topV :: topV :: topV :: topV :: topV :: topV :: topV :: topV :: topV :: topV :: topV :: topV :: topV :: topV :: topV :: topV :: topV :: topV :: topV :: topV :: topV :: topV :: topV :: topV :: topV :: topV :: topV :: []), [some ⟨.view, .ints (flat gs)⟩, some deadB, some ⟨.row 3 1, .ints (os)⟩]⟩) (.leaf (.exit 2) ⟨(.slice (some ⟨0, 0, none⟩) (gs.length) (gs.length) :: topV :: topV :: .slice (some ⟨2, 0, none⟩) (m) (m) :: .int .i64 ((↑i : Int)) :: .int .i64 ((↑k : Int)) :: topV :: topV :: topV :: topV :: topV :: topV :: topV :: topV :: topV :: topV :: topV :: topV :: topV :: topV :: topV :: topV :: topV :: topV :: topV :: topV :: topV :: topV :: topV :: topV :: topV :: topV :: topV :: topV :: topV :: topV :: topV :: topV :: topV :: topV :: topV :: topV :: topV :: topV :: topV :: topV :: topV :: topV :: topV :: topV :: topV :: topV :: topV :: topV :: topV :: topV :: topV :: topV :: topV :: topV :: topV :: topV :: topV :: topV :: topV :: topV :: topV :: topV :: topV :: topV :: topV :: topV :: topV :: topV :: topV :: topV :: topV :: topV :: topV :: topV :: topV :: topV :: topV :: topV :: topV :: topV :: topV :: topV :: topV :: topV :: topV :: topV :: topV :: topV :: topV :: topV :: topV :: topV :: topV :: topV :: topV :: topV :: topV :: topV :: topV :: topV :: topV :: topV :: topV :: topV :: topV :: topV :: topV :: topV :: topV :: topV :: topV :: topV :: topV :: topV :: topV :: topV :: topV :: topV :: topV :: topV :: topV :: topV :: topV :: topV :: topV :: topV :: topV :: topV :: topV :: topV :: topV :: topV :: topV :: topV :: topV :: topV :: topV :: topV :: topV :: topV :: topV :: topV :: topV :: topV :: topV :: topV :: topV :: topV :: topV :: topV :: topV :: topV :: topV :: topV :: topV :: topV :: topV :: []), [some ⟨.view, .ints (flat gs)⟩, some deadB, some ⟨.row 3 1, .ints (os)⟩]⟩)))))))))))))))))))) (.need ((0 : Int) ≤ IntKind.i64.wrap ((↑k : Int) - (1 : Int)) ∧ IntKind.i64.wrap ((↑k : Int) - (1 : Int)) < (↑m : Int)) (.need ((0 : Nat) + (IntKind.i64.wrap ((↑k : Int) - (1 : Int))).toNat * (1 : Nat) < os.length) (.need ((0 : Int) ≤ os.getD ((0 : Nat) + (IntKind.i64.wrap ((↑k : Int) - (1 : Int))).toNat * (1 : Nat)) (0 : Int) ∧ os.getD ((0 : Nat) + (IntKind.i64.wrap ((↑k : Int) - (1 : Int))).toNat * (1 : Nat)) (0 : Int) < (↑gs.length : Int)) (.need ((0 : Nat) + (os.getD ((0 : Nat) + (IntKind.i64.wrap ((↑k : Int) - (1 : Int))).toNat * (1 : Nat)) (0 : Int)).toNat * (2 : Nat) + (0 : Nat) < (flat gs).length) (.need ((0 : Int) ≤ (↑i : Int) ∧ (↑i : Int) < (↑gs.length : Int)) (.need ((0 : Nat) + (↑i : Int).toNat * (2 : Nat) + (0 : Nat) < (flat gs).length) (.need ((0 : Int) ≤ IntKind.i64.wrap ((↑k : Int) - (1 : Int)) ∧ IntKind.i64.wrap ((↑k : Int) - (1 : Int)) < (↑m : Int)) (.need ((0 : Nat) + (IntKind.i64.wrap ((↑k : Int) - (1 : Int))).toNat * (1 : Nat) < os.length) (.need ((0 : Int) ≤ os.getD ((0 : Nat) + (IntKind.i64.wrap ((↑k : Int) - (1 : Int))).toNat * (1 : Nat)) (0 : Int) ∧ os.getD ((0 : Nat) + (IntKind.i64.wrap ((↑k : Int) - (1 : Int))).toNat * (1 : Nat)) (0 : Int) < (↑gs.length : Int)) (.need ((0 : Nat) + (os.getD ((0 : Nat) + (IntKind.i64.wrap ((↑k : Int) - (1 : Int))).toNat * (1 : Nat)) (0 : Int)).toNat * (2 : Nat) + (0 : Nat) < (flat gs).length) (.need ((0 : Int) ≤ (↑i : Int) ∧ (↑i : Int) < (↑gs.length : Int)) (.need ((0 : Nat) + (↑i : Int).toNat * (2 : Nat) + (0 : Nat) < (flat gs).length) (.leaf (.exit 2) ⟨(.slice (some ⟨0, 0, none⟩) (gs.length) (gs.length) :: topV :: topV :: .slice (some ⟨2, 0, none⟩) (m) (m) :: .int .i64 ((↑i : Int)) :: .int .i64 ((↑k : Int)) :: topV :: topV :: topV :: topV :: topV :: topV :: topV :: topV :: topV :: topV :: topV :: topV :: topV :: topV :: topV :: topV :: topV :: topV :: topV :: topV :: topV :: topV :: topV :: topV :: topV :: topV :: topV :: topV :: topV :: topV :: topV :: topV :: topV :: topV :: topV :: topV :: topV :: topV :: topV :: topV :: topV :: topV :: topV :: topV :: topV :: topV :: topV :: topV :: topV :: topV :: topV :: topV :: topV :: topV :: topV :: topV :: topV :: topV :: topV :: topV :: topV :: topV :: topV :: topV :: topV :: topV :: topV :: topV :: topV :: topV :: topV :: topV :: topV :: topV :: topV :: topV :: topV :: topV :: topV :: topV :: topV :: topV :: topV :: topV :: topV :: topV :: topV :: topV :: topV :: topV :: topV :: topV :: topV :: topV :: topV :: topV :: topV :: topV :: topV :: topV :: topV :: topV :: topV :: topV :: topV :: topV :: topV :: topV :: topV :: topV :: topV :: topV :: topV :: topV :: topV :: topV :: topV :: topV :: topV :: topV :: topV :: topV :: topV :: topV :: topV :: topV :: topV :: topV :: topV :: topV :: topV :: topV :: topV :: topV :: topV :: topV :: topV :: topV :: topV :: topV :: topV :: topV :: topV :: topV :: topV :: topV :: topV :: topV :: topV :: topV :: topV :: topV :: topV :: topV :: topV :: topV :: topV :: []), [some ⟨.view, .ints (flat gs)⟩, some deadB, some ⟨.row 3 1, .ints (os)⟩]⟩))))))))))))))) (.leaf (.exit 2) ⟨(.slice (some ⟨0, 0, none⟩) (gs.length) (gs.length) :: topV :: topV :: .slice (some ⟨2, 0, none⟩) (m) (m) :: .int .i64 ((↑i : Int)) :: .int .i64 ((↑k : Int)) :: topV :: topV :: topV :: topV :: topV :: topV :: topV :: topV :: topV :: topV :: topV :: topV :: topV :: topV :: topV :: topV :: topV :: topV :: topV :: topV :: topV :: topV :: topV :: topV :: topV :: topV :: topV :: topV :: topV :: topV :: topV :: topV :: topV :: topV :: topV :: topV :: topV :: topV :: topV :: topV :: topV :: topV :: topV :: topV :: topV :: topV :: topV :: topV :: topV :: topV :: topV :: topV :: topV :: topV :: topV :: topV :: topV :: topV :: topV :: topV :: topV :: topV :: topV :: topV :: topV :: topV :: topV :: topV :: topV :: topV :: topV :: topV :: topV :: topV :: topV :: topV :: topV :: topV :: topV :: topV :: topV :: topV :: topV :: topV :: topV :: topV :: topV :: topV :: topV :: topV :: topV :: topV :: topV :: topV :: topV :: topV :: topV :: topV :: topV :: topV :: topV :: topV :: topV :: topV :: topV :: topV :: topV :: topV :: topV :: topV :: topV :: topV :: topV :: topV :: topV :: topV :: topV :: topV :: topV :: topV :: topV :: topV :: topV :: topV :: topV :: topV :: topV :: topV :: topV :: topV :: topV :: topV :: topV :: topV :: topV :: topV :: topV :: topV :: topV :: topV :: topV :: topV :: topV :: topV :: topV :: topV :: topV :: topV :: topV :: topV :: topV :: topV :: topV :: topV :: topV :: topV :: topV :: []), [some ⟨.view, .ints (flat gs)⟩, some deadB, some ⟨.row 3 1, .ints (os)⟩]⟩) := by kernel_rfl
set_option maxRecDepth 100000 in
theorem nl_sEi : loopsOf c_sEi = [] := by kernel_rfl
def inv_sEi (gs : List Pt) (os : List Int) (m i : Nat) : Nat → Prop := fun k => k ≤ m ∧ posG gs os i k = posG gs os i m
def me_sEi (gs : List Pt) (os : List Int) (m i : Nat) : Nat → Nat := fun k => k
/-- A round of this loop. -/
def Round_sEi (gs : List Pt) (os : List Int) (m i : Nat) : Prop := ∀ xx : Nat, inv_sEi gs os m i xx → (bodyL Try.prog EUe 30 12 noL 2 c_sEi k_sEi 3 (s_sEi gs os m i xx)).ok (RoundEnd 3 (s_sEi gs os m i) (inv_sEi gs os m i) (me_sEi gs os m i) re_sEi (rs_sEi gs os m i) xx) (fun _ _ => False)
def e_sEi (s : St) (k : Ex → St → Tree) : Option Tree := match Nat.beq s.tmps.length 163, pickL s.tmps [0, 3, 4, 5], s.mem with
  | true, [.slice (some ⟨0, 0, none⟩) n _, .slice (some ⟨2, 0, none⟩) m _, .int .i64 ii, .int .i64 kk], [some ⟨.view, .ints xs⟩, some ⟨.dead, .vals []⟩, some ⟨.row 3 1, .ints os⟩] => some (needs [kk = (m : Int), 0 ≤ ii ∧ ii < n, xs.length = n * 2, n ≤ 8, os.length = m, ixIn n os, m ≤ 8] (k (.exit 2) ⟨(.slice (some ⟨0, 0, none⟩) n n :: topV :: topV :: .slice (some ⟨2, 0, none⟩) m m :: .int .i64 ii :: .int .i64 (posG (ptsA n xs) os ii.toNat m) :: topV :: topV :: topV :: topV :: topV :: topV :: topV :: topV :: topV :: topV :: topV :: topV :: topV :: topV :: topV :: topV :: topV :: topV :: topV :: topV :: topV :: topV :: topV :: topV :: topV :: topV :: topV :: topV :: topV :: topV :: topV :: topV :: topV :: topV :: topV :: topV :: topV :: topV :: topV :: topV :: topV :: topV :: topV :: topV :: topV :: topV :: topV :: topV :: topV :: topV :: topV :: topV :: topV :: topV :: topV :: topV :: topV :: topV :: topV :: topV :: topV :: topV :: topV :: topV :: topV :: topV :: topV :: topV :: topV :: topV :: topV :: topV :: topV :: topV :: topV :: topV :: topV :: topV :: topV :: topV :: topV :: topV :: topV :: topV :: topV :: topV :: topV :: topV :: topV :: topV :: topV :: topV :: topV :: topV :: topV :: topV :: topV :: topV :: topV :: topV :: topV :: topV :: topV :: topV :: topV :: topV :: topV :: topV :: topV :: topV :: topV :: topV :: topV :: topV :: topV :: topV :: topV :: topV :: topV :: topV :: topV :: topV :: topV :: topV :: topV :: topV :: topV :: topV :: topV :: topV :: topV :: topV :: topV :: topV :: topV :: topV :: topV :: topV :: topV :: topV :: topV :: topV :: topV :: topV :: topV :: topV :: topV :: topV :: topV :: topV :: topV :: topV :: topV :: topV :: topV :: topV :: topV :: []), [some ⟨.view, .ints xs⟩, some ⟨.dead, .vals []⟩, some ⟨.row 3 1, .ints os⟩]⟩))
  | _, _, _ => none
set_option maxRecDepth 100000 in
set_option maxHeartbeats 2000000 in
theorem round_sEi (gs : List Pt) (os : List Int) (m i : Nat) (h : gs.length ≤ 8) (hm : os.length = m) (ho : ixIn gs.length os) (hi : i < gs.length) (hm8 : m ≤ 8) : Round_sEi gs os m i := by
  rintro k ⟨h1, h2⟩
  rw [tr_sEi]
  have fl := flat_length gs
  refine brT_ok.2 ⟨fun hlt => ?_, fun hge => ?_⟩
  · have hlt := of_decide_eq_true hlt
    obtain ⟨j, rfl⟩ : ∃ j, k = j + 1 := ⟨k - 1, by omega⟩
    have w : IntKind.i64.wrap (((j + 1 : Nat) : Int) - 1) = (j : Int) := by rw [wr (by omega)]; omega
    have o := ho j (by omega)
    have ka : os.getD j 0 = (kI os j : Int) := (Int.toNat_of_nonneg o.1).symm
    have kb : kI os j < gs.length := by unfold kI; omega
    simp only [w, Int.toNat_natCast, Nat.zero_add, Nat.add_zero, Nat.mul_one, ka, flat_get0, flat_get1]
    have dn : aftB gs os j i = true → posG gs os i j = posG gs os i m := fun e => by rw [← h2]; simp only [posG, e, cond_true]
    have up : aftB gs os j i = false → posG gs os i m = j + 1 := fun e => by rw [← h2]; simp only [posG, e, cond_false]
    have ea : aftB gs os j i = (decide ((gs.getD i (0, 0)).1 < (gs.getD (kI os j) (0, 0)).1) || (decide ((gs.getD (kI os j) (0, 0)).1 = (gs.getD i (0, 0)).1) && decide ((gs.getD (kI os j) (0, 0)).2 < (gs.getD i (0, 0)).2))) := rfl
    refine brT_ok.2 ⟨fun g => ?_, fun g => ?_⟩
    · have e := dn (by rw [ea, g, Bool.true_or])
      simp only [Tree.ok]
      repeat (refine And.intro (by omega) ?_)
      refine ⟨j, [], ⟨by omega, e⟩, ?_, rfl, rfl, ?_⟩
      · show j < j + 1; omega
      · repeat' (first | exact True.intro | exact rfl | exact fun _ => rfl | (simp; done) | refine And.intro ?_ ?_)
    · refine brT_ok.2 ⟨fun g1 => ?_, fun g1 => ?_⟩
      · have g1 : (gs.getD (kI os j) (0, 0)).1 = (gs.getD i (0, 0)).1 := by simpa using g1
        simp only [Tree.ok]
        repeat (refine And.intro (by omega) ?_)
        refine brT_ok.2 ⟨fun g2 => ?_, fun g2 => ?_⟩
        · have e := dn (by rw [ea, g, decide_eq_true g1, g2]; rfl)
          refine ⟨j, [], ⟨by omega, e⟩, ?_, rfl, rfl, ?_⟩
          · show j < j + 1; omega
          · repeat' (first | exact True.intro | exact rfl | exact fun _ => rfl | (simp; done) | refine And.intro ?_ ?_)
        · have e := up (by rw [ea, g, g2, Bool.and_false]; rfl)
          refine ⟨rfl, [], ?_⟩
          simp only [rs_sEi, e]
          repeat' (first | exact True.intro | exact rfl | exact fun _ => rfl | (simp; done) | refine And.intro ?_ ?_)
      · have g1 : ¬ (gs.getD (kI os j) (0, 0)).1 = (gs.getD i (0, 0)).1 := by simpa using g1
        have e := up (by rw [ea, g, decide_eq_false g1]; rfl)
        simp only [Tree.ok]
        repeat (refine And.intro (by omega) ?_)
        refine ⟨rfl, [], ?_⟩
        simp only [rs_sEi, e]
        repeat' (first | exact True.intro | exact rfl | exact fun _ => rfl | (simp; done) | refine And.intro ?_ ?_)
  · have hge := of_decide_eq_false hge
    obtain rfl : k = 0 := by omega
    refine ⟨rfl, [], ?_⟩
    simp only [rs_sEi, ← h2]
    repeat' (first | exact True.intro | exact rfl | exact fun _ => rfl | (simp; done) | refine And.intro ?_ ?_)
set_option maxRecDepth 100000 in
theorem lg_sEi : LoopE Try.prog e_sEi c_sEi := by
  intro s k t F H hlt ht
  unfold e_sEi at hlt
  split at hlt
  rotate_left
  · cases hlt
  rename_i hlen hpick hmem
  obtain ⟨tmps, mem⟩ := s
  simp only at hlen hpick hmem
  subst hmem
  obtain rfl := Option.some.inj hlt
  obtain ⟨⟨rfl, h0, h1, h2, h3, h4, h5, _⟩, ht2⟩ := needs_ok ht
  clear ht hlt
  obtain ⟨gs, rfl, rfl⟩ := even_flat h1
  obtain ⟨i, rfl⟩ := Int.eq_ofNat_of_zero_le h0.1
  rw [ptsA_flat] at ht2
  simp only [Int.toNat_natCast] at ht2
  refine ⟨_, _, ht2, loop_run mixed EUe_ok (s_sEi gs _ _ i) (inv_sEi gs _ _ i) (me_sEi gs _ _ i) re_sEi (rs_sEi gs _ _ i) k_sEi (fun _ => rfl) (noLoops nl_sEi) (round_sEi gs _ _ i h2 h3 h4 (by omega) h5) (x := _) ⟨Nat.le_refl _, rfl⟩ (π := []) rfl ?_⟩
  refine ⟨rfl, rfl, ?_, wvs_spread' [0, 3, 4, 5] hlen rfl ?_⟩
  · repeat' (first | exact True.intro | exact rfl | exact wv_top _ _ | exact fun _ => rfl | assumption | exact Eq.symm (by assumption) | exact vI0 rfl | refine And.intro ?_ ?_)
  · rw [hpick]
    repeat' (first | exact True.intro | exact rfl | exact wv_top _ _ | exact fun _ => rfl | assumption | exact Eq.symm (by assumption) | exact vI0 rfl | refine And.intro ?_ ?_)
def ltUe : LT := fun j s k => match j with
  | 1 => e_sEi s k
  | _ => none
noncomputable def c_sEo : Code := ((loopsOf (codeOf Try.f16))[0]?).getD .skip
def k_sEo : Ex → List Nat := keeps [0, 3, 4] [(0, [0, 3])] [2]
def s_sEo (gs : List Pt) : Nat × (List Int) → St := fun (i, os) => ⟨(.slice (some ⟨0, 0, none⟩) gs.length gs.length :: topV :: topV :: .slice (some ⟨2, 0, none⟩) os.length os.length :: .int .i64 i :: topV :: topV :: topV :: topV :: topV :: topV :: topV :: topV :: topV :: topV :: topV :: topV :: topV :: topV :: topV :: topV :: topV :: topV :: topV :: topV :: topV :: topV :: topV :: topV :: topV :: topV :: topV :: topV :: topV :: topV :: topV :: topV :: topV :: topV :: topV :: topV :: topV :: topV :: topV :: topV :: topV :: topV :: topV :: topV :: topV :: topV :: topV :: topV :: topV :: topV :: topV :: topV :: topV :: topV :: topV :: topV :: topV :: topV :: topV :: topV :: topV :: topV :: topV :: topV :: topV :: topV :: topV :: topV :: topV :: topV :: topV :: topV :: topV :: topV :: topV :: topV :: topV :: topV :: topV :: topV :: topV :: topV :: topV :: topV :: topV :: topV :: topV :: topV :: topV :: topV :: topV :: topV :: topV :: topV :: topV :: topV :: topV :: topV :: topV :: topV :: topV :: topV :: topV :: topV :: topV :: topV :: topV :: topV :: topV :: topV :: topV :: topV :: topV :: topV :: topV :: topV :: topV :: topV :: topV :: topV :: topV :: topV :: topV :: topV :: topV :: topV :: topV :: topV :: topV :: topV :: topV :: topV :: topV :: topV :: topV :: topV :: topV :: topV :: topV :: topV :: topV :: topV :: topV :: topV :: topV :: topV :: topV :: topV :: topV :: topV :: topV :: topV :: topV :: topV :: topV :: topV :: topV :: topV :: []), [some ⟨.view, .ints (flat gs)⟩, some ⟨.dead, .vals []⟩, some ⟨.row 3 1, .ints os⟩]⟩
def re_sEo : Nat × (List Int) → Ex := fun _ => .exit 0
def rs_sEo (gs : List Pt) : Nat × (List Int) → St := fun (i, os) => ⟨(.slice (some ⟨0, 0, none⟩) gs.length gs.length :: topV :: topV :: .slice (some ⟨2, 0, none⟩) (ordL gs (gs.length - i) i os).length (ordL gs (gs.length - i) i os).length :: topV :: topV :: topV :: topV :: topV :: topV :: topV :: topV :: topV :: topV :: topV :: topV :: topV :: topV :: topV :: topV :: topV :: topV :: topV :: topV :: topV :: topV :: topV :: topV :: topV :: topV :: topV :: topV :: topV :: topV :: topV :: topV :: topV :: topV :: topV :: topV :: topV :: topV :: topV :: topV :: topV :: topV :: topV :: topV :: topV :: topV :: topV :: topV :: topV :: topV :: topV :: topV :: topV :: topV :: topV :: topV :: topV :: topV :: topV :: topV :: topV :: topV :: topV :: topV :: topV :: topV :: topV :: topV :: topV :: topV :: topV :: topV :: topV :: topV :: topV :: topV :: topV :: topV :: topV :: topV :: topV :: topV :: topV :: topV :: topV :: topV :: topV :: topV :: topV :: topV :: topV :: topV :: topV :: topV :: topV :: topV :: topV :: topV :: topV :: topV :: topV :: topV :: topV :: topV :: topV :: topV :: topV :: topV :: topV :: topV :: topV :: topV :: topV :: topV :: topV :: topV :: topV :: topV :: topV :: topV :: topV :: topV :: topV :: topV :: topV :: topV :: topV :: topV :: topV :: topV :: topV :: topV :: topV :: topV :: topV :: topV :: topV :: topV :: topV :: topV :: topV :: topV :: topV :: topV :: topV :: topV :: topV :: topV :: topV :: topV :: topV :: topV :: topV :: topV :: topV :: topV :: topV :: topV :: topV :: []), [some ⟨.view, .ints (flat gs)⟩, some ⟨.dead, .vals []⟩, some ⟨.row 3 1, .ints (ordL gs (gs.length - i) i os)⟩]⟩
set_option maxRecDepth 100000 in
theorem tr_sEo (gs : List Pt) (i : Nat) (os : List Int) : bodyL Try.prog EUe 30 12 ltUe 1 c_sEo k_sEo 24 (s_sEo gs (i, os)) = brT (decide ((↑i : Int) < (↑gs.length : Int))) (.need ((↑os.length : Int) = (↑os.length : Int)) (.need ((0 : Int) ≤ (↑i : Int) ∧ (↑i : Int) < (↑gs.length : Int)) (.need ((flat gs).length = gs.length * (2 : Nat)) (.need (gs.length ≤ (8 : Nat)) (.need (os.length = os.length) (.need (ixIn gs.length os) (.need (os.length ≤ (8 : Nat)) (.need ((0 : Int) ≤ bndI none (0 : Int) ∧ bndI none (0 : Int) ≤ bndI (some (IntKind.i64, (↑(posG (ptsA gs.length (flat gs)) os (↑i : Int).toNat os.length) : Int))) (↑os.length : Int) ∧ bndI (some (IntKind.i64, (↑(posG (ptsA gs.length (flat gs)) os (↑i : Int).toNat os.length) : Int))) (↑os.length : Int) ≤ (↑os.length : Int)) (.need (((0 : Nat) + ((bndI (some (IntKind.i64, (↑(posG (ptsA gs.length (flat gs)) os (↑i : Int).toNat os.length) : Int))) (↑os.length : Int)).toNat - (bndI none (0 : Int)).toNat, Cs.ints (List.take (((bndI (some (IntKind.i64, (↑(posG (ptsA gs.length (flat gs)) os (↑i : Int).toNat os.length) : Int))) (↑os.length : Int)).toNat - (bndI none (0 : Int)).toNat) * Try.prog.types[(3 : Nat)].size) (List.drop ((0 : Nat) + (bndI none (0 : Int)).toNat * Try.prog.types[(3 : Nat)].size) os)), [(0 : Nat) + (bndI none (0 : Int)).toNat * Try.prog.types[(3 : Nat)].size + ((bndI (some (IntKind.i64, (↑(posG (ptsA gs.length (flat gs)) os (↑i : Int).toNat os.length) : Int))) (↑os.length : Int)).toNat - (bndI none (0 : Int)).toNat) * Try.prog.types[(3 : Nat)].size ≤ os.length]).fst) * (8 : Nat) ≤ (140737488355328 : Nat) ∧ (0 : Nat) + ((bndI (some (IntKind.i64, (↑(posG (ptsA gs.length (flat gs)) os (↑i : Int).toNat os.length) : Int))) (↑os.length : Int)).toNat - (bndI none (0 : Int)).toNat, Cs.ints (List.take (((bndI (some (IntKind.i64, (↑(posG (ptsA gs.length (flat gs)) os (↑i : Int).toNat os.length) : Int))) (↑os.length : Int)).toNat - (bndI none (0 : Int)).toNat) * Try.prog.types[(3 : Nat)].size) (List.drop ((0 : Nat) + (bndI none (0 : Int)).toNat * Try.prog.types[(3 : Nat)].size) os)), [(0 : Nat) + (bndI none (0 : Int)).toNat * Try.prog.types[(3 : Nat)].size + ((bndI (some (IntKind.i64, (↑(posG (ptsA gs.length (flat gs)) os (↑i : Int).toNat os.length) : Int))) (↑os.length : Int)).toNat - (bndI none (0 : Int)).toNat) * Try.prog.types[(3 : Nat)].size ≤ os.length]).fst ≤ (1000000 : Nat)) (.need ((0 : Nat) + ((bndI (some (IntKind.i64, (↑(posG (ptsA gs.length (flat gs)) os (↑i : Int).toNat os.length) : Int))) (↑os.length : Int)).toNat - (0 : Nat)) * (1 : Nat) ≤ os.length) (.need (((0 : Nat) + ((bndI (some (IntKind.i64, (↑(posG (ptsA gs.length (flat gs)) os (↑i : Int).toNat os.length) : Int))) (↑os.length : Int)).toNat - (bndI none (0 : Int)).toNat, Cs.ints (List.take (((bndI (some (IntKind.i64, (↑(posG (ptsA gs.length (flat gs)) os (↑i : Int).toNat os.length) : Int))) (↑os.length : Int)).toNat - (bndI none (0 : Int)).toNat) * Try.prog.types[(3 : Nat)].size) (List.drop ((0 : Nat) + (bndI none (0 : Int)).toNat * Try.prog.types[(3 : Nat)].size) os)), [(0 : Nat) + (bndI none (0 : Int)).toNat * Try.prog.types[(3 : Nat)].size + ((bndI (some (IntKind.i64, (↑(posG (ptsA gs.length (flat gs)) os (↑i : Int).toNat os.length) : Int))) (↑os.length : Int)).toNat - (bndI none (0 : Int)).toNat) * Try.prog.types[(3 : Nat)].size ≤ os.length]).fst + (1 : Nat)) * (8 : Nat) ≤ (140737488355328 : Nat) ∧ (0 : Nat) + ((bndI (some (IntKind.i64, (↑(posG (ptsA gs.length (flat gs)) os (↑i : Int).toNat os.length) : Int))) (↑os.length : Int)).toNat - (bndI none (0 : Int)).toNat, Cs.ints (List.take (((bndI (some (IntKind.i64, (↑(posG (ptsA gs.length (flat gs)) os (↑i : Int).toNat os.length) : Int))) (↑os.length : Int)).toNat - (bndI none (0 : Int)).toNat) * Try.prog.types[(3 : Nat)].size) (List.drop ((0 : Nat) + (bndI none (0 : Int)).toNat * Try.prog.types[(3 : Nat)].size) os)), [(0 : Nat) + (bndI none (0 : Int)).toNat * Try.prog.types[(3 : Nat)].size + ((bndI (some (IntKind.i64, (↑(posG (ptsA gs.length (flat gs)) os (↑i : Int).toNat os.length) : Int))) (↑os.length : Int)).toNat - (bndI none (0 : Int)).toNat) * Try.prog.types[(3 : Nat)].size ≤ os.length]).fst + (1 : Nat) ≤ (1000000 : Nat)) (.need ((0 : Nat) + ((0 : Nat) + ((bndI (some (IntKind.i64, (↑(posG (ptsA gs.length (flat gs)) os (↑i : Int).toNat os.length) : Int))) (↑os.length : Int)).toNat - (bndI none (0 : Int)).toNat, Cs.ints (List.take (((bndI (some (IntKind.i64, (↑(posG (ptsA gs.length (flat gs)) os (↑i : Int).toNat os.length) : Int))) (↑os.length : Int)).toNat - (bndI none (0 : Int)).toNat) * Try.prog.types[(3 : Nat)].size) (List.drop ((0 : Nat) + (bndI none (0 : Int)).toNat * Try.prog.types[(3 : Nat)].size) os)), [(0 : Nat) + (bndI none (0 : Int)).toNat * Try.prog.types[(3 : Nat)].size + ((bndI (some (IntKind.i64, (↑(posG (ptsA gs.length (flat gs)) os (↑i : Int).toNat os.length) : Int))) (↑os.length : Int)).toNat - (bndI none (0 : Int)).toNat) * Try.prog.types[(3 : Nat)].size ≤ os.length]).fst) * (1 : Nat) ≤ ([] ++ List.take (((bndI (some (IntKind.i64, (↑(posG (ptsA gs.length (flat gs)) os (↑i : Int).toNat os.length) : Int))) (↑os.length : Int)).toNat - (0 : Nat)) * (1 : Nat)) (List.drop (0 : Nat) os)).length) (.need ((0 : Int) ≤ bndI (some (IntKind.i64, (↑(posG (ptsA gs.length (flat gs)) os (↑i : Int).toNat os.length) : Int))) (0 : Int) ∧ bndI (some (IntKind.i64, (↑(posG (ptsA gs.length (flat gs)) os (↑i : Int).toNat os.length) : Int))) (0 : Int) ≤ bndI none (↑os.length : Int) ∧ bndI none (↑os.length : Int) ≤ (↑os.length : Int)) (.need (((0 : Nat) + ((bndI (some (IntKind.i64, (↑(posG (ptsA gs.length (flat gs)) os (↑i : Int).toNat os.length) : Int))) (↑os.length : Int)).toNat - (bndI none (0 : Int)).toNat, Cs.ints (List.take (((bndI (some (IntKind.i64, (↑(posG (ptsA gs.length (flat gs)) os (↑i : Int).toNat os.length) : Int))) (↑os.length : Int)).toNat - (bndI none (0 : Int)).toNat) * Try.prog.types[(3 : Nat)].size) (List.drop ((0 : Nat) + (bndI none (0 : Int)).toNat * Try.prog.types[(3 : Nat)].size) os)), [(0 : Nat) + (bndI none (0 : Int)).toNat * Try.prog.types[(3 : Nat)].size + ((bndI (some (IntKind.i64, (↑(posG (ptsA gs.length (flat gs)) os (↑i : Int).toNat os.length) : Int))) (↑os.length : Int)).toNat - (bndI none (0 : Int)).toNat) * Try.prog.types[(3 : Nat)].size ≤ os.length]).fst + (1 : Nat) + ((bndI none (↑os.length : Int)).toNat - (bndI (some (IntKind.i64, (↑(posG (ptsA gs.length (flat gs)) os (↑i : Int).toNat os.length) : Int))) (0 : Int)).toNat, Cs.ints (List.take (((bndI none (↑os.length : Int)).toNat - (bndI (some (IntKind.i64, (↑(posG (ptsA gs.length (flat gs)) os (↑i : Int).toNat os.length) : Int))) (0 : Int)).toNat) * Try.prog.types[(3 : Nat)].size) (List.drop ((0 : Nat) + (bndI (some (IntKind.i64, (↑(posG (ptsA gs.length (flat gs)) os (↑i : Int).toNat os.length) : Int))) (0 : Int)).toNat * Try.prog.types[(3 : Nat)].size) os)), [(0 : Nat) + (bndI (some (IntKind.i64, (↑(posG (ptsA gs.length (flat gs)) os (↑i : Int).toNat os.length) : Int))) (0 : Int)).toNat * Try.prog.types[(3 : Nat)].size + ((bndI none (↑os.length : Int)).toNat - (bndI (some (IntKind.i64, (↑(posG (ptsA gs.length (flat gs)) os (↑i : Int).toNat os.length) : Int))) (0 : Int)).toNat) * Try.prog.types[(3 : Nat)].size ≤ os.length]).fst) * (8 : Nat) ≤ (140737488355328 : Nat) ∧ (0 : Nat) + ((bndI (some (IntKind.i64, (↑(posG (ptsA gs.length (flat gs)) os (↑i : Int).toNat os.length) : Int))) (↑os.length : Int)).toNat - (bndI none (0 : Int)).toNat, Cs.ints (List.take (((bndI (some (IntKind.i64, (↑(posG (ptsA gs.length (flat gs)) os (↑i : Int).toNat os.length) : Int))) (↑os.length : Int)).toNat - (bndI none (0 : Int)).toNat) * Try.prog.types[(3 : Nat)].size) (List.drop ((0 : Nat) + (bndI none (0 : Int)).toNat * Try.prog.types[(3 : Nat)].size) os)), [(0 : Nat) + (bndI none (0 : Int)).toNat * Try.prog.types[(3 : Nat)].size + ((bndI (some (IntKind.i64, (↑(posG (ptsA gs.length (flat gs)) os (↑i : Int).toNat os.length) : Int))) (↑os.length : Int)).toNat - (bndI none (0 : Int)).toNat) * Try.prog.types[(3 : Nat)].size ≤ os.length]).fst + (1 : Nat) + ((bndI none (↑os.length : Int)).toNat - (bndI (some (IntKind.i64, (↑(posG (ptsA gs.length (flat gs)) os (↑i : Int).toNat os.length) : Int))) (0 : Int)).toNat, Cs.ints (List.take (((bndI none (↑os.length : Int)).toNat - (bndI (some (IntKind.i64, (↑(posG (ptsA gs.length (flat gs)) os (↑i : Int).toNat os.length) : Int))) (0 : Int)).toNat) * Try.prog.types[(3 : Nat)].size) (List.drop ((0 : Nat) + (bndI (some (IntKind.i64, (↑(posG (ptsA gs.length (flat gs)) os (↑i : Int).toNat os.length) : Int))) (0 : Int)).toNat * Try.prog.types[(3 : Nat)].size) os)), [(0 : Nat) + (bndI (some (IntKind.i64, (↑(posG (ptsA gs.length (flat gs)) os (↑i : Int).toNat os.length) : Int))) (0 : Int)).toNat * Try.prog.types[(3 : Nat)].size + ((bndI none (↑os.length : Int)).toNat - (bndI (some (IntKind.i64, (↑(posG (ptsA gs.length (flat gs)) os (↑i : Int).toNat os.length) : Int))) (0 : Int)).toNat) * Try.prog.types[(3 : Nat)].size ≤ os.length]).fst ≤ (1000000 : Nat)) (.need ((0 : Nat) + (bndI (some (IntKind.i64, (↑(posG (ptsA gs.length (flat gs)) os (↑i : Int).toNat os.length) : Int))) (0 : Int)).toNat * (1 : Nat) + ((bndI none (↑os.length : Int)).toNat - (bndI (some (IntKind.i64, (↑(posG (ptsA gs.length (flat gs)) os (↑i : Int).toNat os.length) : Int))) (0 : Int)).toNat) * (1 : Nat) ≤ os.length) (.need ((0 : Nat) + ((0 : Nat) + ((bndI (some (IntKind.i64, (↑(posG (ptsA gs.length (flat gs)) os (↑i : Int).toNat os.length) : Int))) (↑os.length : Int)).toNat - (bndI none (0 : Int)).toNat, Cs.ints (List.take (((bndI (some (IntKind.i64, (↑(posG (ptsA gs.length (flat gs)) os (↑i : Int).toNat os.length) : Int))) (↑os.length : Int)).toNat - (bndI none (0 : Int)).toNat) * Try.prog.types[(3 : Nat)].size) (List.drop ((0 : Nat) + (bndI none (0 : Int)).toNat * Try.prog.types[(3 : Nat)].size) os)), [(0 : Nat) + (bndI none (0 : Int)).toNat * Try.prog.types[(3 : Nat)].size + ((bndI (some (IntKind.i64, (↑(posG (ptsA gs.length (flat gs)) os (↑i : Int).toNat os.length) : Int))) (↑os.length : Int)).toNat - (bndI none (0 : Int)).toNat) * Try.prog.types[(3 : Nat)].size ≤ os.length]).fst + (1 : Nat)) * (1 : Nat) ≤ (List.take (((0 : Nat) + ((bndI (some (IntKind.i64, (↑(posG (ptsA gs.length (flat gs)) os (↑i : Int).toNat os.length) : Int))) (↑os.length : Int)).toNat - (bndI none (0 : Int)).toNat, Cs.ints (List.take (((bndI (some (IntKind.i64, (↑(posG (ptsA gs.length (flat gs)) os (↑i : Int).toNat os.length) : Int))) (↑os.length : Int)).toNat - (bndI none (0 : Int)).toNat) * Try.prog.types[(3 : Nat)].size) (List.drop ((0 : Nat) + (bndI none (0 : Int)).toNat * Try.prog.types[(3 : Nat)].size) os)), [(0 : Nat) + (bndI none (0 : Int)).toNat * Try.prog.types[(3 : Nat)].size + ((bndI (some (IntKind.i64, (↑(posG (ptsA gs.length (flat gs)) os (↑i : Int).toNat os.length) : Int))) (↑os.length : Int)).toNat - (bndI none (0 : Int)).toNat) * Try.prog.types[(3 : Nat)].size ≤ os.length]).fst) * (1 : Nat)) (List.drop (0 : Nat) ([] ++ List.take (((bndI (some (IntKind.i64, (↑(posG (ptsA gs.length (flat gs)) os (↑i : Int).toNat os.length) : Int))) (↑os.length : Int)).toNat - (0 : Nat)) * (1 : Nat)) (List.drop (0 : Nat) os))) ++ [(↑i : Int)]).length) (.leaf .normal ⟨(.slice (some ⟨0, 0, none⟩) (gs.length) (gs.length) :: topV :: topV :: .slice (some ⟨7, 0, none⟩) (0 + ((bndI (some (IntKind.i64, (↑(posG (ptsA gs.length (flat gs)) os (↑i : Int).toNat os.length) : Int))) (↑os.length : Int)).toNat - (bndI none 0).toNat, Cs.ints (List.take (((bndI (some (IntKind.i64, (↑(posG (ptsA gs.length (flat gs)) os (↑i : Int).toNat os.length) : Int))) (↑os.length : Int)).toNat - (bndI none 0).toNat) * Try.prog.types[3].size) (List.drop (0 + (bndI none 0).toNat * Try.prog.types[3].size) os)), [0 + (bndI none 0).toNat * Try.prog.types[3].size + ((bndI (some (IntKind.i64, (↑(posG (ptsA gs.length (flat gs)) os (↑i : Int).toNat os.length) : Int))) (↑os.length : Int)).toNat - (bndI none 0).toNat) * Try.prog.types[3].size ≤ os.length]).fst + 1 + ((bndI none (↑os.length : Int)).toNat - (bndI (some (IntKind.i64, (↑(posG (ptsA gs.length (flat gs)) os (↑i : Int).toNat os.length) : Int))) 0).toNat, Cs.ints (List.take (((bndI none (↑os.length : Int)).toNat - (bndI (some (IntKind.i64, (↑(posG (ptsA gs.length (flat gs)) os (↑i : Int).toNat os.length) : Int))) 0).toNat) * Try.prog.types[3].size) (List.drop (0 + (bndI (some (IntKind.i64, (↑(posG (ptsA gs.length (flat gs)) os (↑i : Int).toNat os.length) : Int))) 0).toNat * Try.prog.types[3].size) os)), [0 + (bndI (some (IntKind.i64, (↑(posG (ptsA gs.length (flat gs)) os (↑i : Int).toNat os.length) : Int))) 0).toNat * Try.prog.types[3].size + ((bndI none (↑os.length : Int)).toNat - (bndI (some (IntKind.i64, (↑(posG (ptsA gs.length (flat gs)) os (↑i : Int).toNat os.length) : Int))) 0).toNat) * Try.prog.types[3].size ≤ os.length]).fst) (0 + ((bndI (some (IntKind.i64, (↑(posG (ptsA gs.length (flat gs)) os (↑i : Int).toNat os.length) : Int))) (↑os.length : Int)).toNat - (bndI none 0).toNat, Cs.ints (List.take (((bndI (some (IntKind.i64, (↑(posG (ptsA gs.length (flat gs)) os (↑i : Int).toNat os.length) : Int))) (↑os.length : Int)).toNat - (bndI none 0).toNat) * Try.prog.types[3].size) (List.drop (0 + (bndI none 0).toNat * Try.prog.types[3].size) os)), [0 + (bndI none 0).toNat * Try.prog.types[3].size + ((bndI (some (IntKind.i64, (↑(posG (ptsA gs.length (flat gs)) os (↑i : Int).toNat os.length) : Int))) (↑os.length : Int)).toNat - (bndI none 0).toNat) * Try.prog.types[3].size ≤ os.length]).fst + 1 + ((bndI none (↑os.length : Int)).toNat - (bndI (some (IntKind.i64, (↑(posG (ptsA gs.length (flat gs)) os (↑i : Int).toNat os.length) : Int))) 0).toNat, Cs.ints (List.take (((bndI none (↑os.length : Int)).toNat - (bndI (some (IntKind.i64, (↑(posG (ptsA gs.length (flat gs)) os (↑i : Int).toNat os.length) : Int))) 0).toNat) * Try.prog.types[3].size) (List.drop (0 + (bndI (some (IntKind.i64, (↑(posG (ptsA gs.length (flat gs)) os (↑i : Int).toNat os.length) : Int))) 0).toNat * Try.prog.types[3].size) os)), [0 + (bndI (some (IntKind.i64, (↑(posG (ptsA gs.length (flat gs)) os (↑i : Int).toNat os.length) : Int))) 0).toNat * Try.prog.types[3].size + ((bndI none (↑os.length : Int)).toNat - (bndI (some (IntKind.i64, (↑(posG (ptsA gs.length (flat gs)) os (↑i : Int).toNat os.length) : Int))) 0).toNat) * Try.prog.types[3].size ≤ os.length]).fst) :: .int .i64 (IntKind.i64.wrap ((↑i : Int) + 1)) :: topV :: topV :: topV :: topV :: topV :: topV :: topV :: topV :: topV :: topV :: topV :: topV :: topV :: topV :: topV :: topV :: topV :: topV :: topV :: topV :: topV :: topV :: topV :: topV :: topV :: topV :: topV :: topV :: topV :: topV :: topV :: topV :: topV :: topV :: topV :: topV :: topV :: topV :: topV :: topV :: topV :: topV :: topV :: topV :: topV :: topV :: topV :: topV :: topV :: topV :: topV :: topV :: topV :: topV :: topV :: topV :: topV :: topV :: topV :: topV :: topV :: topV :: topV :: topV :: topV :: topV :: topV :: topV :: topV :: topV :: topV :: topV :: topV :: topV :: topV :: topV :: topV :: topV :: topV :: topV :: topV :: topV :: topV :: topV :: topV :: topV :: topV :: topV :: topV :: topV :: topV :: topV :: topV :: topV :: topV :: topV :: topV :: topV :: topV :: topV :: topV :: topV :: topV :: topV :: topV :: topV :: topV :: topV :: topV :: topV :: topV :: topV :: topV :: topV :: topV :: topV :: topV :: topV :: topV :: topV :: topV :: topV :: topV :: topV :: topV :: topV :: topV :: topV :: topV :: topV :: topV :: topV :: topV :: topV :: topV :: topV :: topV :: topV :: topV :: topV :: topV :: topV :: topV :: topV :: topV :: topV :: topV :: topV :: topV :: topV :: topV :: topV :: topV :: topV :: topV :: topV :: topV :: topV :: []), [some ⟨.view, .ints (flat gs)⟩, some deadB, some ⟨.row 3 1, .ints (os)⟩, some deadB, some deadB, some ⟨.row 3 1, .vals [.int .i64 ((↑i : Int))]⟩, some deadB, some ⟨.row 3 1, .ints (List.take ((0 + ((bndI (some (IntKind.i64, (↑(posG (ptsA gs.length (flat gs)) os (↑i : Int).toNat os.length) : Int))) (↑os.length : Int)).toNat - (bndI none 0).toNat, Cs.ints (List.take (((bndI (some (IntKind.i64, (↑(posG (ptsA gs.length (flat gs)) os (↑i : Int).toNat os.length) : Int))) (↑os.length : Int)).toNat - (bndI none 0).toNat) * Try.prog.types[3].size) (List.drop (0 + (bndI none 0).toNat * Try.prog.types[3].size) os)), [0 + (bndI none 0).toNat * Try.prog.types[3].size + ((bndI (some (IntKind.i64, (↑(posG (ptsA gs.length (flat gs)) os (↑i : Int).toNat os.length) : Int))) (↑os.length : Int)).toNat - (bndI none 0).toNat) * Try.prog.types[3].size ≤ os.length]).fst + 1) * 1) (List.drop 0 (List.take ((0 + ((bndI (some (IntKind.i64, (↑(posG (ptsA gs.length (flat gs)) os (↑i : Int).toNat os.length) : Int))) (↑os.length : Int)).toNat - (bndI none 0).toNat, Cs.ints (List.take (((bndI (some (IntKind.i64, (↑(posG (ptsA gs.length (flat gs)) os (↑i : Int).toNat os.length) : Int))) (↑os.length : Int)).toNat - (bndI none 0).toNat) * Try.prog.types[3].size) (List.drop (0 + (bndI none 0).toNat * Try.prog.types[3].size) os)), [0 + (bndI none 0).toNat * Try.prog.types[3].size + ((bndI (some (IntKind.i64, (↑(posG (ptsA gs.length (flat gs)) os (↑i : Int).toNat os.length) : Int))) (↑os.length : Int)).toNat - (bndI none 0).toNat) * Try.prog.types[3].size ≤ os.length]).fst) * 1) (List.drop 0 ([] ++ List.take (((bndI (some (IntKind.i64, (↑(posG (ptsA gs.length (flat gs)) os (↑i : Int).toNat os.length) : Int))) (↑os.length : Int)).toNat - 0) * 1) (List.drop 0 os))) ++ [(↑i : Int)])) ++ List.take (((bndI none (↑os.length : Int)).toNat - (bndI (some (IntKind.i64, (↑(posG (ptsA gs.length (flat gs)) os (↑i : Int).toNat os.length) : Int))) 0).toNat) * 1) (List.drop (0 + (bndI (some (IntKind.i64, (↑(posG (ptsA gs.length (flat gs)) os (↑i : Int).toNat os.length) : Int))) 0).toNat * 1) os))⟩]⟩))))))))))))))))) (.leaf (.exit 0) ⟨(.slice (some ⟨0, 0, none⟩) (gs.length) (gs.length) :: topV :: topV :: .slice (some ⟨2, 0, none⟩) (os.length) (os.length) :: topV :: topV :: topV :: topV :: topV :: topV :: topV :: topV :: topV :: topV :: topV :: topV :: topV :: topV :: topV :: topV :: topV :: topV :: topV :: topV :: topV :: topV :: topV :: topV :: topV :: topV :: topV :: topV :: topV :: topV :: topV :: topV :: topV :: topV :: topV :: topV :: topV :: topV :: topV :: topV :: topV :: topV :: topV :: topV :: topV :: topV :: topV :: topV :: topV :: topV :: topV :: topV :: topV :: topV :: topV :: topV :: topV :: topV :: topV :: topV :: topV :: topV :: topV :: topV :: topV :: topV :: topV :: topV :: topV :: topV :: topV :: topV :: topV :: topV :: topV :: topV :: topV :: topV :: topV :: topV :: topV :: topV :: topV :: topV :: topV :: topV :: topV :: topV :: topV :: topV :: topV :: topV :: topV :: topV :: topV :: topV :: topV :: topV :: topV :: topV :: topV :: topV :: topV :: topV :: topV :: topV :: topV :: topV :: topV :: topV :: topV :: topV :: topV :: topV :: topV :: topV :: topV :: topV :: topV :: topV :: topV :: topV :: topV :: topV :: topV :: topV :: topV :: topV :: topV :: topV :: topV :: topV :: topV :: topV :: topV :: topV :: topV :: topV :: topV :: topV :: topV :: topV :: topV :: topV :: topV :: topV :: topV :: topV :: topV :: topV :: topV :: topV :: topV :: topV :: topV :: topV :: topV :: topV :: topV :: []), [some ⟨.view, .ints (flat gs)⟩, some deadB, some ⟨.row 3 1, .ints (os)⟩]⟩) := by kernel_rfl
def inv_sEo (gs : List Pt) : Nat × (List Int) → Prop := fun (i, os) => i ≤ gs.length ∧ os.length = i ∧ ixIn gs.length os
def me_sEo (gs : List Pt) : Nat × (List Int) → Nat := fun (i, os) => gs.length - i
/-- A round of this loop. -/
def Round_sEo (gs : List Pt) : Prop := ∀ xx : Nat × (List Int), inv_sEo gs xx → (bodyL Try.prog EUe 30 12 ltUe 1 c_sEo k_sEo 24 (s_sEo gs xx)).ok (RoundEnd 2 (s_sEo gs) (inv_sEo gs) (me_sEo gs) re_sEo (rs_sEo gs) xx) (fun _ _ => False)
def e_sEo (s : St) (k : Ex → St → Tree) : Option Tree := match Nat.beq s.tmps.length 163, pickL s.tmps [0, 3, 4], s.mem with
  | true, [.slice (some ⟨0, 0, none⟩) n _, .slice (some ⟨1, 0, none⟩) z _, .int .i64 ii], [some ⟨.view, .ints xs⟩, some ⟨.row 3 1, .vals []⟩] => some (needs [ii = 0, z = 0, xs.length = n * 2, n ≤ 8] (k (.exit 0) ⟨(.slice (some ⟨0, 0, none⟩) n n :: topV :: topV :: .slice (some ⟨2, 0, none⟩) (ordL (ptsA n xs) n 0 []).length (ordL (ptsA n xs) n 0 []).length :: topV :: topV :: topV :: topV :: topV :: topV :: topV :: topV :: topV :: topV :: topV :: topV :: topV :: topV :: topV :: topV :: topV :: topV :: topV :: topV :: topV :: topV :: topV :: topV :: topV :: topV :: topV :: topV :: topV :: topV :: topV :: topV :: topV :: topV :: topV :: topV :: topV :: topV :: topV :: topV :: topV :: topV :: topV :: topV :: topV :: topV :: topV :: topV :: topV :: topV :: topV :: topV :: topV :: topV :: topV :: topV :: topV :: topV :: topV :: topV :: topV :: topV :: topV :: topV :: topV :: topV :: topV :: topV :: topV :: topV :: topV :: topV :: topV :: topV :: topV :: topV :: topV :: topV :: topV :: topV :: topV :: topV :: topV :: topV :: topV :: topV :: topV :: topV :: topV :: topV :: topV :: topV :: topV :: topV :: topV :: topV :: topV :: topV :: topV :: topV :: topV :: topV :: topV :: topV :: topV :: topV :: topV :: topV :: topV :: topV :: topV :: topV :: topV :: topV :: topV :: topV :: topV :: topV :: topV :: topV :: topV :: topV :: topV :: topV :: topV :: topV :: topV :: topV :: topV :: topV :: topV :: topV :: topV :: topV :: topV :: topV :: topV :: topV :: topV :: topV :: topV :: topV :: topV :: topV :: topV :: topV :: topV :: topV :: topV :: topV :: topV :: topV :: topV :: topV :: topV :: topV :: topV :: topV :: topV :: []), [some ⟨.view, .ints xs⟩, some ⟨.dead, .vals []⟩, some ⟨.row 3 1, .ints (ordL (ptsA n xs) n 0 [])⟩]⟩))
  | _, _, _ => none
set_option maxRecDepth 100000 in
theorem in_sEo : loopsOf c_sEo = [c_sEi] := by kernel_rfl
theorem ltUe_good : LoopsGood Try.prog ltUe 1 c_sEo := by
  intro i d hd s k t F H hlt ht
  rw [in_sEo] at hd
  cases i with
  | zero =>
    obtain rfl : c_sEi = d := by simpa using hd
    exact lg_sEi s k t F H hlt ht
  | succ i => simp at hd
set_option maxRecDepth 100000 in
set_option maxHeartbeats 4000000 in
theorem round_sEo (gs : List Pt) (h : gs.length ≤ 8) : Round_sEo gs := by
  rintro ⟨i, os⟩ ⟨h1, h2, h3⟩
  rw [tr_sEo]
  have fl := flat_length gs
  have hsz : Try.prog.types[(3 : Nat)].size = 1 := by kernel_rfl
  have hq := posG_le gs os i os.length
  refine brT_ok.2 ⟨fun hlt => ?_, fun hge => ?_⟩
  · have hlt := of_decide_eq_true hlt
    have hi : i < gs.length := by omega
    have hin : insI gs os i = os.take (posG gs os i os.length) ++ ((i : Int) :: os.drop (posG gs os i os.length)) := rfl
    have st := ordL_step (gs := gs) (os := os) hi
    rw [wsucc (n := gs.length) hi (by omega)]
    simp only [ptsA_flat, Int.toNat_natCast] at *
    generalize posG gs os i os.length = q at *
    simp only [hsz, bndG_some, bndG_none, Int.toNat_natCast, Int.toNat_zero, Nat.zero_add, Nat.add_zero, Nat.zero_mul, Nat.mul_one, Nat.sub_zero, List.drop_zero, List.nil_append, Tree.ok]
    have l1 : (os.take q).length = q := by rw [List.length_take]; omega
    have l2 : (os.take q ++ [(i : Int)]).length = q + 1 := by rw [List.length_append, l1]; rfl
    have l3 : (os.drop q).length = os.length - q := List.length_drop
    have t1 : List.take (q + 1) (List.take q os ++ [(i : Int)]) = List.take q os ++ [(i : Int)] := List.take_of_length_le (by omega)
    have t2 : List.take (os.length - q) (List.drop q os) = List.drop q os := List.take_of_length_le (by omega)
    have e1 : List.take (q + 1) (List.take q (List.take q os) ++ [(i : Int)]) ++ List.take (os.length - q) (List.drop q os) = insI gs os i := by
      rw [hin, List.take_take, Nat.min_self, t1, t2, List.append_assoc]
      rfl
    have e2 : q + 1 + (os.length - q) = (insI gs os i).length := by
      rw [← e1, List.length_append, List.take_take, Nat.min_self, t1, t2, l2, l3]
    rw [e1, e2]
    have e3 : (insI gs os i).length = i + 1 := by omega
    have e4 : ixIn gs.length (insI gs os i) := by
      intro k hk
      rw [hin]
      simp only [List.getD_eq_getElem?_getD]
      rcases Nat.lt_or_ge k q with hlt | hge
      · rw [List.getElem?_append_left (by omega), List.getElem?_take, if_pos hlt, ← List.getD_eq_getElem?_getD]
        exact h3 k (by omega)
      · rw [List.getElem?_append_right (by omega), l1]
        rcases Nat.eq_zero_or_pos (k - q) with h0 | hp
        · rw [h0]
          show 0 ≤ (i : Int) ∧ (i : Int) < gs.length
          omega
        · obtain ⟨j, hj⟩ : ∃ j, k - q = j + 1 := ⟨k - q - 1, by omega⟩
          rw [hj, List.getElem?_cons_succ, List.getElem?_drop, ← List.getD_eq_getElem?_getD]
          exact h3 (q + j) (by omega)
    refine ⟨trivial, by omega, fl, h, trivial, h3, by omega, by omega, by omega, by omega, by omega, by omega, by omega, by omega, by omega, ?_, ?_⟩
    · rw [List.take_take, Nat.min_self, l2]
      exact Nat.le_refl _
    · refine ⟨(i + 1, insI gs os i), [some 7], ⟨by omega, e3, e4⟩, ?_, rfl, by simp only [rs_sEo, st], ?_⟩
      · show gs.length - (i + 1) < gs.length - i; omega
      · repeat' (first | exact True.intro | exact rfl | exact fun _ => rfl | (simp; done) | refine And.intro ?_ ?_)
  · have hge := of_decide_eq_false hge
    obtain rfl : i = gs.length := by omega
    refine ⟨rfl, [some 2], ?_⟩
    simp only [rs_sEo, Nat.sub_self, ordL]
    repeat' (first | exact True.intro | exact rfl | exact fun _ => rfl | (simp; done) | refine And.intro ?_ ?_)
set_option maxRecDepth 100000 in
theorem lg_sEo : LoopE Try.prog e_sEo c_sEo := by
  intro s k t F H hlt ht
  unfold e_sEo at hlt
  split at hlt
  rotate_left
  · cases hlt
  rename_i hlen hpick hmem
  obtain ⟨tmps, mem⟩ := s
  simp only at hlen hpick hmem
  subst hmem
  obtain rfl := Option.some.inj hlt
  obtain ⟨⟨rfl, rfl, h1, h2, _⟩, ht2⟩ := needs_ok ht
  clear ht hlt
  obtain ⟨gs, rfl, rfl⟩ := even_flat h1
  rw [ptsA_flat] at ht2
  refine ⟨_, _, ht2, loop_run2 mixed EUe_ok (s_sEo gs) (inv_sEo gs) (me_sEo gs) re_sEo (rs_sEo gs) k_sEo (fun _ => rfl) ltUe_good (round_sEo gs h2) (x := (0, [])) ⟨Nat.zero_le _, rfl, fun k hk => absurd hk (Nat.not_lt_zero k)⟩ (π := [some 1]) rfl ?_⟩
  refine ⟨rfl, rfl, ?_, wvs_spread' [0, 3, 4] hlen rfl ?_⟩
  · repeat' (first | exact True.intro | exact rfl | exact wv_top _ _ | exact fun _ => rfl | assumption | exact Eq.symm (by assumption) | exact vI0 rfl | refine And.intro ?_ ?_)
  · rw [hpick]
    repeat' (first | exact True.intro | exact rfl | exact wv_top _ _ | exact fun _ => rfl | assumption | exact Eq.symm (by assumption) | exact vI0 rfl | refine And.intro ?_ ?_)
end Go.Proofs.Ytolodncpegajkab
namespace Go.Proofs.Ytolodncpegajkab
set_option linter.all false
open Go.RowKit
theorem allV_atU {ps : List Pt} (h : allV ps = true) {j : Nat} (hj : j < ps.length) : ptB (ps.getD j (0, 0)).1 (ps.getD j (0, 0)).2 = true := List.all_eq_true.1 h (ps.getD j (0, 0)) (by simp [hj])
def hidB (a b c : Pt) : Bool := decide ((c.2 - a.2) * (b.1 - a.1) ≤ (b.2 - a.2) * (c.1 - a.1))
/-- Is the last one of so many to be taken off? -/
def offB (gs : List Pt) (st : List Int) (g : Pt) (m : Nat) : Bool := decide ((gG gs (kI st m)).1 = g.1) || (decide (0 < m) && hidB (gG gs (kI st (m - 1))) (gG gs (kI st m)) g)
def popU (gs : List Pt) (st : List Int) (g : Pt) : Nat → Nat
  | 0 => 0
  | m + 1 => bif offB gs st g m then popU gs st g m else m + 1
theorem popU_le (gs : List Pt) (st : List Int) (g : Pt) : ∀ k, popU gs st g k ≤ k
  | 0 => Nat.le_refl _
  | k + 1 => by
    have := popU_le gs st g k
    simp only [popU]
    cases offB gs st g k <;> simp only [cond_true, cond_false] <;> omega
noncomputable def c_sEp : Code := ((loopsOf (codeOf Try.f16))[3]?).getD .skip
def k_sEp : Ex → List Nat := keeps [0, 3, 7, 8, 9] [(6, [0, 3, 7, 8]), (5, [0, 3, 7, 8]), (4, [7])] [2]
def s_sEp (gs : List Pt) (os st : List Int) (x y : Int) (z m i : Nat) : Nat → St := fun j => ⟨(.slice (some ⟨0, 0, none⟩) gs.length gs.length :: topV :: topV :: .slice (some ⟨2, 0, none⟩) z z :: topV :: topV :: topV :: .slice (some ⟨4, 0, none⟩) j j :: .int .i64 i :: .pointer (some ⟨5, 0, none⟩) :: topV :: topV :: topV :: topV :: topV :: topV :: topV :: topV :: topV :: topV :: topV :: topV :: topV :: topV :: topV :: topV :: topV :: topV :: topV :: topV :: topV :: topV :: topV :: topV :: topV :: topV :: topV :: topV :: topV :: topV :: topV :: topV :: topV :: topV :: topV :: topV :: topV :: topV :: topV :: topV :: topV :: topV :: topV :: topV :: topV :: topV :: topV :: topV :: topV :: topV :: topV :: topV :: topV :: topV :: topV :: topV :: topV :: topV :: topV :: topV :: topV :: topV :: topV :: topV :: topV :: topV :: topV :: topV :: topV :: topV :: topV :: topV :: topV :: topV :: topV :: topV :: topV :: topV :: topV :: topV :: topV :: topV :: topV :: topV :: topV :: topV :: topV :: topV :: topV :: topV :: topV :: topV :: topV :: topV :: topV :: topV :: topV :: topV :: topV :: topV :: topV :: topV :: topV :: topV :: topV :: topV :: topV :: topV :: topV :: topV :: topV :: topV :: topV :: topV :: topV :: topV :: topV :: topV :: topV :: topV :: topV :: topV :: topV :: topV :: topV :: topV :: topV :: topV :: topV :: topV :: topV :: topV :: topV :: topV :: topV :: topV :: topV :: topV :: topV :: topV :: topV :: topV :: topV :: topV :: topV :: topV :: topV :: topV :: topV :: topV :: topV :: topV :: topV :: []), [some ⟨.view, .ints (flat gs)⟩, some ⟨.dead, .vals []⟩, some ⟨.row 3 1, .ints os⟩, some ⟨.dead, .vals []⟩, some ⟨.row 3 1, .ints st⟩, some ⟨.box, .vals [.int .i64 x, .int .i64 y]⟩]⟩
def re_sEp : Nat → Ex := fun _ => .exit 6
def rs_sEp (gs : List Pt) (os st : List Int) (x y : Int) (z m i : Nat) : Nat → St := fun j => ⟨(.slice (some ⟨0, 0, none⟩) gs.length gs.length :: topV :: topV :: .slice (some ⟨2, 0, none⟩) z z :: topV :: topV :: topV :: .slice (some ⟨4, 0, none⟩) (popU gs st (x, y) m) (popU gs st (x, y) m) :: .int .i64 i :: topV :: topV :: topV :: topV :: topV :: topV :: topV :: topV :: topV :: topV :: topV :: topV :: topV :: topV :: topV :: topV :: topV :: topV :: topV :: topV :: topV :: topV :: topV :: topV :: topV :: topV :: topV :: topV :: topV :: topV :: topV :: topV :: topV :: topV :: topV :: topV :: topV :: topV :: topV :: topV :: topV :: topV :: topV :: topV :: topV :: topV :: topV :: topV :: topV :: topV :: topV :: topV :: topV :: topV :: topV :: topV :: topV :: topV :: topV :: topV :: topV :: topV :: topV :: topV :: topV :: topV :: topV :: topV :: topV :: topV :: topV :: topV :: topV :: topV :: topV :: topV :: topV :: topV :: topV :: topV :: topV :: topV :: topV :: topV :: topV :: topV :: topV :: topV :: topV :: topV :: topV :: topV :: topV :: topV :: topV :: topV :: topV :: topV :: topV :: topV :: topV :: topV :: topV :: topV :: topV :: topV :: topV :: topV :: topV :: topV :: topV :: topV :: topV :: topV :: topV :: topV :: topV :: topV :: topV :: topV :: topV :: topV :: topV :: topV :: topV :: topV :: topV :: topV :: topV :: topV :: topV :: topV :: topV :: topV :: topV :: topV :: topV :: topV :: topV :: topV :: topV :: topV :: topV :: topV :: topV :: topV :: topV :: topV :: topV :: topV :: topV :: topV :: topV :: topV :: []), [some ⟨.view, .ints (flat gs)⟩, some ⟨.dead, .vals []⟩, some ⟨.row 3 1, .ints os⟩, some ⟨.dead, .vals []⟩, some ⟨.row 3 1, .ints st⟩, some ⟨.box, .vals [.int .i64 x, .int .i64 y]⟩]⟩
set_option maxRecDepth 100000 in
theorem tr_sEp (gs : List Pt) (os st : List Int) (x y : Int) (z m i : Nat) (j : Nat) : bodyL Try.prog EUe 30 12 noL 4 c_sEp k_sEp 6 (s_sEp gs os st x y z m i j) = brT (decide (0 < (↑j : Int))) (brT ((flat gs).getD (0 + (st.getD (0 + (IntKind.i64.wrap ((↑j : Int) - 1)).toNat * 1) 0).toNat * 2 + 0) 0 == x) (.need ((0 : Int) ≤ IntKind.i64.wrap ((↑j : Int) - (1 : Int)) ∧ IntKind.i64.wrap ((↑j : Int) - (1 : Int)) < (↑j : Int)) (.need ((0 : Nat) + (IntKind.i64.wrap ((↑j : Int) - (1 : Int))).toNat * (1 : Nat) < st.length) (.need ((0 : Int) ≤ st.getD ((0 : Nat) + (IntKind.i64.wrap ((↑j : Int) - (1 : Int))).toNat * (1 : Nat)) (0 : Int) ∧ st.getD ((0 : Nat) + (IntKind.i64.wrap ((↑j : Int) - (1 : Int))).toNat * (1 : Nat)) (0 : Int) < (↑gs.length : Int)) (.need ((0 : Nat) + (st.getD ((0 : Nat) + (IntKind.i64.wrap ((↑j : Int) - (1 : Int))).toNat * (1 : Nat)) (0 : Int)).toNat * (2 : Nat) + (0 : Nat) < (flat gs).length) (.need ((0 : Int) ≤ bndI none (0 : Int) ∧ bndI none (0 : Int) ≤ bndI (some (IntKind.i64, IntKind.i64.wrap ((↑j : Int) - (1 : Int)))) (↑j : Int) ∧ bndI (some (IntKind.i64, IntKind.i64.wrap ((↑j : Int) - (1 : Int)))) (↑j : Int) ≤ (↑j : Int)) (.leaf .normal ⟨(.slice (some ⟨0, 0, none⟩) (gs.length) (gs.length) :: topV :: topV :: .slice (some ⟨2, 0, none⟩) (z) (z) :: topV :: topV :: topV :: .slice (some ⟨4, 0, none⟩) ((bndI (some (IntKind.i64, IntKind.i64.wrap ((↑j : Int) - 1))) (↑j : Int)).toNat - 0) ((bndI (some (IntKind.i64, IntKind.i64.wrap ((↑j : Int) - 1))) (↑j : Int)).toNat - 0) :: .int .i64 ((↑i : Int)) :: .pointer (some ⟨5, 0, none⟩) :: topV :: topV :: topV :: topV :: topV :: topV :: topV :: topV :: topV :: topV :: topV :: topV :: topV :: topV :: topV :: topV :: topV :: topV :: topV :: topV :: topV :: topV :: topV :: topV :: topV :: topV :: topV :: topV :: topV :: topV :: topV :: topV :: topV :: topV :: topV :: topV :: topV :: topV :: topV :: topV :: topV :: topV :: topV :: topV :: topV :: topV :: topV :: topV :: topV :: topV :: topV :: topV :: topV :: topV :: topV :: topV :: topV :: topV :: topV :: topV :: topV :: topV :: topV :: topV :: topV :: topV :: topV :: topV :: topV :: topV :: topV :: topV :: topV :: topV :: topV :: topV :: topV :: topV :: topV :: topV :: topV :: topV :: topV :: topV :: topV :: topV :: topV :: topV :: topV :: topV :: topV :: topV :: topV :: topV :: topV :: topV :: topV :: topV :: topV :: topV :: topV :: topV :: topV :: topV :: topV :: topV :: topV :: topV :: topV :: topV :: topV :: topV :: topV :: topV :: topV :: topV :: topV :: topV :: topV :: topV :: topV :: topV :: topV :: topV :: topV :: topV :: topV :: topV :: topV :: topV :: topV :: topV :: topV :: topV :: topV :: topV :: topV :: topV :: topV :: topV :: topV :: topV :: topV :: topV :: topV :: topV :: topV :: topV :: topV :: topV :: topV :: topV :: topV :: []), [some ⟨.view, .ints (flat gs)⟩, some deadB, some ⟨.row 3 1, .ints (os)⟩, some deadB, some ⟨.row 3 1, .ints (st)⟩, some ⟨.box, .vals [.int .i64 (x), .int .i64 (y)]⟩]⟩)))))) (brT (decide (1 < (↑j : Int))) (.need ((0 : Int) ≤ IntKind.i64.wrap ((↑j : Int) - (1 : Int)) ∧ IntKind.i64.wrap ((↑j : Int) - (1 : Int)) < (↑j : Int)) (.need ((0 : Nat) + (IntKind.i64.wrap ((↑j : Int) - (1 : Int))).toNat * (1 : Nat) < st.length) (.need ((0 : Int) ≤ st.getD ((0 : Nat) + (IntKind.i64.wrap ((↑j : Int) - (1 : Int))).toNat * (1 : Nat)) (0 : Int) ∧ st.getD ((0 : Nat) + (IntKind.i64.wrap ((↑j : Int) - (1 : Int))).toNat * (1 : Nat)) (0 : Int) < (↑gs.length : Int)) (.need ((0 : Nat) + (st.getD ((0 : Nat) + (IntKind.i64.wrap ((↑j : Int) - (1 : Int))).toNat * (1 : Nat)) (0 : Int)).toNat * (2 : Nat) + (0 : Nat) < (flat gs).length) (.need ((0 : Int) ≤ IntKind.i64.wrap ((↑j : Int) - (2 : Int)) ∧ IntKind.i64.wrap ((↑j : Int) - (2 : Int)) < (↑j : Int)) (.need ((0 : Nat) + (IntKind.i64.wrap ((↑j : Int) - (2 : Int))).toNat * (1 : Nat) < st.length) (.need ((0 : Int) ≤ st.getD ((0 : Nat) + (IntKind.i64.wrap ((↑j : Int) - (2 : Int))).toNat * (1 : Nat)) (0 : Int) ∧ st.getD ((0 : Nat) + (IntKind.i64.wrap ((↑j : Int) - (2 : Int))).toNat * (1 : Nat)) (0 : Int) < (↑gs.length : Int)) (.need ((0 : Nat) + (st.getD ((0 : Nat) + (IntKind.i64.wrap ((↑j : Int) - (2 : Int))).toNat * (1 : Nat)) (0 : Int)).toNat * (2 : Nat) + (2 : Nat) ≤ (flat gs).length) (.need ((0 : Int) ≤ IntKind.i64.wrap ((↑j : Int) - (1 : Int)) ∧ IntKind.i64.wrap ((↑j : Int) - (1 : Int)) < (↑j : Int)) (.need ((0 : Nat) + (IntKind.i64.wrap ((↑j : Int) - (1 : Int))).toNat * (1 : Nat) < st.length) (.need ((0 : Int) ≤ st.getD ((0 : Nat) + (IntKind.i64.wrap ((↑j : Int) - (1 : Int))).toNat * (1 : Nat)) (0 : Int) ∧ st.getD ((0 : Nat) + (IntKind.i64.wrap ((↑j : Int) - (1 : Int))).toNat * (1 : Nat)) (0 : Int) < (↑gs.length : Int)) (.need ((0 : Nat) + (st.getD ((0 : Nat) + (IntKind.i64.wrap ((↑j : Int) - (1 : Int))).toNat * (1 : Nat)) (0 : Int)).toNat * (2 : Nat) + (2 : Nat) ≤ (flat gs).length) (brT (decide (IntKind.i64.wrap (IntKind.i64.wrap (y - (flat gs).getD (0 + (st.getD (0 + (IntKind.i64.wrap ((↑j : Int) - 2)).toNat * 1) 0).toNat * 2 + 1) 0) * IntKind.i64.wrap ((flat gs).getD (0 + (st.getD (0 + (IntKind.i64.wrap ((↑j : Int) - 1)).toNat * 1) 0).toNat * 2) 0 - (flat gs).getD (0 + (st.getD (0 + (IntKind.i64.wrap ((↑j : Int) - 2)).toNat * 1) 0).toNat * 2) 0)) ≤ IntKind.i64.wrap (IntKind.i64.wrap ((flat gs).getD (0 + (st.getD (0 + (IntKind.i64.wrap ((↑j : Int) - 1)).toNat * 1) 0).toNat * 2 + 1) 0 - (flat gs).getD (0 + (st.getD (0 + (IntKind.i64.wrap ((↑j : Int) - 2)).toNat * 1) 0).toNat * 2 + 1) 0) * IntKind.i64.wrap (x - (flat gs).getD (0 + (st.getD (0 + (IntKind.i64.wrap ((↑j : Int) - 2)).toNat * 1) 0).toNat * 2) 0)))) (.need ((0 : Int) ≤ bndI none (0 : Int) ∧ bndI none (0 : Int) ≤ bndI (some (IntKind.i64, IntKind.i64.wrap ((↑j : Int) - (1 : Int)))) (↑j : Int) ∧ bndI (some (IntKind.i64, IntKind.i64.wrap ((↑j : Int) - (1 : Int)))) (↑j : Int) ≤ (↑j : Int)) (.leaf .normal ⟨(.slice (some ⟨0, 0, none⟩) (gs.length) (gs.length) :: topV :: topV :: .slice (some ⟨2, 0, none⟩) (z) (z) :: topV :: topV :: topV :: .slice (some ⟨4, 0, none⟩) ((bndI (some (IntKind.i64, IntKind.i64.wrap ((↑j : Int) - 1))) (↑j : Int)).toNat - 0) ((bndI (some (IntKind.i64, IntKind.i64.wrap ((↑j : Int) - 1))) (↑j : Int)).toNat - 0) :: .int .i64 ((↑i : Int)) :: .pointer (some ⟨5, 0, none⟩) :: topV :: topV :: topV :: topV :: topV :: topV :: topV :: topV :: topV :: topV :: topV :: topV :: topV :: topV :: topV :: topV :: topV :: topV :: topV :: topV :: topV :: topV :: topV :: topV :: topV :: topV :: topV :: topV :: topV :: topV :: topV :: topV :: topV :: topV :: topV :: topV :: topV :: topV :: topV :: topV :: topV :: topV :: topV :: topV :: topV :: topV :: topV :: topV :: topV :: topV :: topV :: topV :: topV :: topV :: topV :: topV :: topV :: topV :: topV :: topV :: topV :: topV :: topV :: topV :: topV :: topV :: topV :: topV :: topV :: topV :: topV :: topV :: topV :: topV :: topV :: topV :: topV :: topV :: topV :: topV :: topV :: topV :: topV :: topV :: topV :: topV :: topV :: topV :: topV :: topV :: topV :: topV :: topV :: topV :: topV :: topV :: topV :: topV :: topV :: topV :: topV :: topV :: topV :: topV :: topV :: topV :: topV :: topV :: topV :: topV :: topV :: topV :: topV :: topV :: topV :: topV :: topV :: topV :: topV :: topV :: topV :: topV :: topV :: topV :: topV :: topV :: topV :: topV :: topV :: topV :: topV :: topV :: topV :: topV :: topV :: topV :: topV :: topV :: topV :: topV :: topV :: topV :: topV :: topV :: topV :: topV :: topV :: topV :: topV :: topV :: topV :: topV :: topV :: []), [some ⟨.view, .ints (flat gs)⟩, some deadB, some ⟨.row 3 1, .ints (os)⟩, some deadB, some ⟨.row 3 1, .ints (st)⟩, some ⟨.box, .vals [.int .i64 (x), .int .i64 (y)]⟩]⟩)) (.leaf (.exit 6) ⟨(.slice (some ⟨0, 0, none⟩) (gs.length) (gs.length) :: topV :: topV :: .slice (some ⟨2, 0, none⟩) (z) (z) :: topV :: topV :: topV :: .slice (some ⟨4, 0, none⟩) (j) (j) :: .int .i64 ((↑i : Int)) :: topV :: topV :: topV :: topV :: topV :: topV :: topV :: topV :: topV :: topV :: topV :: topV :: topV :: topV :: topV :: topV :: topV :: topV :: topV :: topV :: topV :: topV :: topV :: topV :: topV :: topV :: topV :: topV :: topV :: topV :: topV :: topV :: topV :: topV :: topV :: topV :: topV :: topV :: topV :: topV :: topV :: topV :: topV :: topV :: topV :: topV :: topV :: topV :: topV :: topV :: topV :: topV :: topV :: topV :: topV :: topV :: topV :: topV :: topV :: topV :: topV :: topV :: topV :: topV :: topV :: topV :: topV :: topV :: topV :: topV :: topV :: topV :: topV :: topV :: topV :: topV :: topV :: topV :: topV :: topV :: topV :: topV :: topV :: topV :: topV :: topV :: topV :: topV :: topV :: topV :: topV :: topV :: topV :: topV :: topV :: topV :: topV :: topV :: topV :: topV :: topV :: topV :: topV :: topV :: topV :: topV :: topV :: topV :: topV :: topV :: topV :: topV :: topV :: topV :: topV :: topV :: topV :: topV :: topV :: topV :: topV :: topV :: topV :: topV :: topV :: topV :: topV :: topV :: topV :: topV :: topV :: topV :: topV :: topV :: topV :: topV :: topV :: topV :: topV :: topV :: topV :: topV :: topV :: topV :: topV :: topV :: topV :: topV :: topV :: topV :: topV :: topV :: topV :: topV :: []), [some ⟨.view, .ints (flat gs)⟩, some deadB, some ⟨.row 3 1, .ints (os)⟩, some deadB, some ⟨.row 3 1, .ints (st)⟩, some ⟨.box, .vals [.int .i64 (x), .int .i64 (y)]⟩]⟩)))))))))))))) (.need ((0 : Int) ≤ IntKind.i64.wrap ((↑j : Int) - (1 : Int)) ∧ IntKind.i64.wrap ((↑j : Int) - (1 : Int)) < (↑j : Int)) (.need ((0 : Nat) + (IntKind.i64.wrap ((↑j : Int) - (1 : Int))).toNat * (1 : Nat) < st.length) (.need ((0 : Int) ≤ st.getD ((0 : Nat) + (IntKind.i64.wrap ((↑j : Int) - (1 : Int))).toNat * (1 : Nat)) (0 : Int) ∧ st.getD ((0 : Nat) + (IntKind.i64.wrap ((↑j : Int) - (1 : Int))).toNat * (1 : Nat)) (0 : Int) < (↑gs.length : Int)) (.need ((0 : Nat) + (st.getD ((0 : Nat) + (IntKind.i64.wrap ((↑j : Int) - (1 : Int))).toNat * (1 : Nat)) (0 : Int)).toNat * (2 : Nat) + (0 : Nat) < (flat gs).length) (.leaf (.exit 6) ⟨(.slice (some ⟨0, 0, none⟩) (gs.length) (gs.length) :: topV :: topV :: .slice (some ⟨2, 0, none⟩) (z) (z) :: topV :: topV :: topV :: .slice (some ⟨4, 0, none⟩) (j) (j) :: .int .i64 ((↑i : Int)) :: topV :: topV :: topV :: topV :: topV :: topV :: topV :: topV :: topV :: topV :: topV :: topV :: topV :: topV :: topV :: topV :: topV :: topV :: topV :: topV :: topV :: topV :: topV :: topV :: topV :: topV :: topV :: topV :: topV :: topV :: topV :: topV :: topV :: topV :: topV :: topV :: topV :: topV :: topV :: topV :: topV :: topV :: topV :: topV :: topV :: topV :: topV :: topV :: topV :: topV :: topV :: topV :: topV :: topV :: topV :: topV :: topV :: topV :: topV :: topV :: topV :: topV :: topV :: topV :: topV :: topV :: topV :: topV :: topV :: topV :: topV :: topV :: topV :: topV :: topV :: topV :: topV :: topV :: topV :: topV :: topV :: topV :: topV :: topV :: topV :: topV :: topV :: topV :: topV :: topV :: topV :: topV :: topV :: topV :: topV :: topV :: topV :: topV :: topV :: topV :: topV :: topV :: topV :: topV :: topV :: topV :: topV :: topV :: topV :: topV :: topV :: topV :: topV :: topV :: topV :: topV :: topV :: topV :: topV :: topV :: topV :: topV :: topV :: topV :: topV :: topV :: topV :: topV :: topV :: topV :: topV :: topV :: topV :: topV :: topV :: topV :: topV :: topV :: topV :: topV :: topV :: topV :: topV :: topV :: topV :: topV :: topV :: topV :: topV :: topV :: topV :: topV :: topV :: topV :: []), [some ⟨.view, .ints (flat gs)⟩, some deadB, some ⟨.row 3 1, .ints (os)⟩, some deadB, some ⟨.row 3 1, .ints (st)⟩, some ⟨.box, .vals [.int .i64 (x), .int .i64 (y)]⟩]⟩))))))) (brT (decide (1 < (↑j : Int))) (.need ((0 : Int) ≤ IntKind.i64.wrap ((↑j : Int) - (2 : Int)) ∧ IntKind.i64.wrap ((↑j : Int) - (2 : Int)) < (↑j : Int)) (.need ((0 : Nat) + (IntKind.i64.wrap ((↑j : Int) - (2 : Int))).toNat * (1 : Nat) < st.length) (.need ((0 : Int) ≤ st.getD ((0 : Nat) + (IntKind.i64.wrap ((↑j : Int) - (2 : Int))).toNat * (1 : Nat)) (0 : Int) ∧ st.getD ((0 : Nat) + (IntKind.i64.wrap ((↑j : Int) - (2 : Int))).toNat * (1 : Nat)) (0 : Int) < (↑gs.length : Int)) (.need ((0 : Nat) + (st.getD ((0 : Nat) + (IntKind.i64.wrap ((↑j : Int) - (2 : Int))).toNat * (1 : Nat)) (0 : Int)).toNat * (2 : Nat) + (2 : Nat) ≤ (flat gs).length) (.need ((0 : Int) ≤ IntKind.i64.wrap ((↑j : Int) - (1 : Int)) ∧ IntKind.i64.wrap ((↑j : Int) - (1 : Int)) < (↑j : Int)) (.need ((0 : Nat) + (IntKind.i64.wrap ((↑j : Int) - (1 : Int))).toNat * (1 : Nat) < st.length) (.need ((0 : Int) ≤ st.getD ((0 : Nat) + (IntKind.i64.wrap ((↑j : Int) - (1 : Int))).toNat * (1 : Nat)) (0 : Int) ∧ st.getD ((0 : Nat) + (IntKind.i64.wrap ((↑j : Int) - (1 : Int))).toNat * (1 : Nat)) (0 : Int) < (↑gs.length : Int)) (.need ((0 : Nat) + (st.getD ((0 : Nat) + (IntKind.i64.wrap ((↑j : Int) - (1 : Int))).toNat * (1 : Nat)) (0 : Int)).toNat * (2 : Nat) + (2 : Nat) ≤ (flat gs).length) (brT (decide (IntKind.i64.wrap (IntKind.i64.wrap (y - (flat gs).getD (0 + (st.getD (0 + (IntKind.i64.wrap ((↑j : Int) - 2)).toNat * 1) 0).toNat * 2 + 1) 0) * IntKind.i64.wrap ((flat gs).getD (0 + (st.getD (0 + (IntKind.i64.wrap ((↑j : Int) - 1)).toNat * 1) 0).toNat * 2) 0 - (flat gs).getD (0 + (st.getD (0 + (IntKind.i64.wrap ((↑j : Int) - 2)).toNat * 1) 0).toNat * 2) 0)) ≤ IntKind.i64.wrap (IntKind.i64.wrap ((flat gs).getD (0 + (st.getD (0 + (IntKind.i64.wrap ((↑j : Int) - 1)).toNat * 1) 0).toNat * 2 + 1) 0 - (flat gs).getD (0 + (st.getD (0 + (IntKind.i64.wrap ((↑j : Int) - 2)).toNat * 1) 0).toNat * 2 + 1) 0) * IntKind.i64.wrap (x - (flat gs).getD (0 + (st.getD (0 + (IntKind.i64.wrap ((↑j : Int) - 2)).toNat * 1) 0).toNat * 2) 0)))) (.need ((0 : Int) ≤ bndI none (0 : Int) ∧ bndI none (0 : Int) ≤ bndI (some (IntKind.i64, IntKind.i64.wrap ((↑j : Int) - (1 : Int)))) (↑j : Int) ∧ bndI (some (IntKind.i64, IntKind.i64.wrap ((↑j : Int) - (1 : Int)))) (↑j : Int) ≤ (↑j : Int)) (.leaf .normal ⟨(.slice (some ⟨0, 0, none⟩) (gs.length) (gs.length) :: topV :: topV :: .slice (some ⟨2, 0, none⟩) (z) (z) :: topV :: topV :: topV :: .slice (some ⟨4, 0, none⟩) ((bndI (some (IntKind.i64, IntKind.i64.wrap ((↑j : Int) - 1))) (↑j : Int)).toNat - 0) ((bndI (some (IntKind.i64, IntKind.i64.wrap ((↑j : Int) - 1))) (↑j : Int)).toNat - 0) :: .int .i64 ((↑i : Int)) :: .pointer (some ⟨5, 0, none⟩) :: topV :: topV :: topV :: topV :: topV :: topV :: topV :: topV :: topV :: topV :: topV :: topV :: topV :: topV :: topV :: topV :: topV :: topV :: topV :: topV :: topV :: topV :: topV :: topV :: topV :: topV :: topV :: topV :: topV :: topV :: topV :: topV :: topV :: topV :: topV :: topV :: topV :: topV :: topV :: topV :: topV :: topV :: topV :: topV :: topV :: topV :: topV :: topV :: topV :: topV :: topV :: topV :: topV :: topV :: topV :: topV :: topV :: topV :: topV :: topV :: topV :: topV :: topV :: topV :: topV :: topV :: topV :: topV :: topV :: topV :: topV :: topV :: topV :: topV :: topV :: topV :: topV :: topV :: topV :: topV :: topV :: topV :: topV :: topV :: topV :: topV :: topV :: topV :: topV :: topV :: topV :: topV :: topV :: topV :: topV :: topV :: topV :: topV :: topV :: topV :: topV :: topV :: topV :: topV :: topV :: topV :: topV :: topV :: topV :: topV :: topV :: topV :: topV :: topV :: topV :: topV :: topV :: topV :: topV :: topV :: topV :: topV :: topV :: topV :: topV :: topV :: topV :: topV :: topV :: topV :: topV :: topV :: topV :: topV :: topV :: topV :: topV :: topV :: topV :: topV :: topV :: topV :: topV :: topV :: topV :: topV :: topV :: topV :: topV :: topV :: topV :: topV :: topV :: []), [some ⟨.view, .ints (flat gs)⟩, some deadB, some ⟨.row 3 1, .ints (os)⟩, some deadB, some ⟨.row 3 1, .ints (st)⟩, some ⟨.box, .vals [.int .i64 (x), .int .i64 (y)]⟩]⟩)) (.leaf (.exit 6) ⟨(.slice (some ⟨0, 0, none⟩) (gs.length) (gs.length) :: topV :: topV :: .slice (some ⟨2, 0, none⟩) (z) (z) :: topV :: topV :: topV :: .slice (some ⟨4, 0, none⟩) (j) (j) :: .int .i64 ((↑i : Int)) :: topV :: topV :: topV :: topV :: topV :: topV :: topV :: topV :: topV :: topV :: topV :: topV :: topV :: topV :: topV :: topV :: topV :: topV :: topV :: topV :: topV :: topV :: topV :: topV :: topV :: topV :: topV :: topV :: topV :: topV :: topV :: topV :: topV :: topV :: topV :: topV :: topV :: topV :: topV :: topV :: topV :: topV :: topV :: topV :: topV :: topV :: topV :: topV :: topV :: topV :: topV :: topV :: topV :: topV :: topV :: topV :: topV :: topV :: topV :: topV :: topV :: topV :: topV :: topV :: topV :: topV :: topV :: topV :: topV :: topV :: topV :: topV :: topV :: topV :: topV :: topV :: topV :: topV :: topV :: topV :: topV :: topV :: topV :: topV :: topV :: topV :: topV :: topV :: topV :: topV :: topV :: topV :: topV :: topV :: topV :: topV :: topV :: topV :: topV :: topV :: topV :: topV :: topV :: topV :: topV :: topV :: topV :: topV :: topV :: topV :: topV :: topV :: topV :: topV :: topV :: topV :: topV :: topV :: topV :: topV :: topV :: topV :: topV :: topV :: topV :: topV :: topV :: topV :: topV :: topV :: topV :: topV :: topV :: topV :: topV :: topV :: topV :: topV :: topV :: topV :: topV :: topV :: topV :: topV :: topV :: topV :: topV :: topV :: topV :: topV :: topV :: topV :: topV :: topV :: []), [some ⟨.view, .ints (flat gs)⟩, some deadB, some ⟨.row 3 1, .ints (os)⟩, some deadB, some ⟨.row 3 1, .ints (st)⟩, some ⟨.box, .vals [.int .i64 (x), .int .i64 (y)]⟩]⟩)))))))))) (.leaf (.exit 6) ⟨(.slice (some ⟨0, 0, none⟩) (gs.length) (gs.length) :: topV :: topV :: .slice (some ⟨2, 0, none⟩) (z) (z) :: topV :: topV :: topV :: .slice (some ⟨4, 0, none⟩) (j) (j) :: .int .i64 ((↑i : Int)) :: topV :: topV :: topV :: topV :: topV :: topV :: topV :: topV :: topV :: topV :: topV :: topV :: topV :: topV :: topV :: topV :: topV :: topV :: topV :: topV :: topV :: topV :: topV :: topV :: topV :: topV :: topV :: topV :: topV :: topV :: topV :: topV :: topV :: topV :: topV :: topV :: topV :: topV :: topV :: topV :: topV :: topV :: topV :: topV :: topV :: topV :: topV :: topV :: topV :: topV :: topV :: topV :: topV :: topV :: topV :: topV :: topV :: topV :: topV :: topV :: topV :: topV :: topV :: topV :: topV :: topV :: topV :: topV :: topV :: topV :: topV :: topV :: topV :: topV :: topV :: topV :: topV :: topV :: topV :: topV :: topV :: topV :: topV :: topV :: topV :: topV :: topV :: topV :: topV :: topV :: topV :: topV :: topV :: topV :: topV :: topV :: topV :: topV :: topV :: topV :: topV :: topV :: topV :: topV :: topV :: topV :: topV :: topV :: topV :: topV :: topV :: topV :: topV :: topV :: topV :: topV :: topV :: topV :: topV :: topV :: topV :: topV :: topV :: topV :: topV :: topV :: topV :: topV :: topV :: topV :: topV :: topV :: topV :: topV :: topV :: topV :: topV :: topV :: topV :: topV :: topV :: topV :: topV :: topV :: topV :: topV :: topV :: topV :: topV :: topV :: topV :: topV :: topV :: topV :: []), [some ⟨.view, .ints (flat gs)⟩, some deadB, some ⟨.row 3 1, .ints (os)⟩, some deadB, some ⟨.row 3 1, .ints (st)⟩, some ⟨.box, .vals [.int .i64 (x), .int .i64 (y)]⟩]⟩)) := by kernel_rfl
set_option maxRecDepth 100000 in
theorem nl_sEp : loopsOf c_sEp = [] := by kernel_rfl
def inv_sEp (gs : List Pt) (os st : List Int) (x y : Int) (z m i : Nat) : Nat → Prop := fun j => j ≤ m ∧ popU gs st (x, y) j = popU gs st (x, y) m
def me_sEp (gs : List Pt) (os st : List Int) (x y : Int) (z m i : Nat) : Nat → Nat := fun j => j
/-- A round of this loop. -/
def Round_sEp (gs : List Pt) (os st : List Int) (x y : Int) (z m i : Nat) : Prop := ∀ xx : Nat, inv_sEp gs os st x y z m i xx → (bodyL Try.prog EUe 30 12 noL 4 c_sEp k_sEp 6 (s_sEp gs os st x y z m i xx)).ok (RoundEnd 6 (s_sEp gs os st x y z m i) (inv_sEp gs os st x y z m i) (me_sEp gs os st x y z m i) re_sEp (rs_sEp gs os st x y z m i) xx) (fun _ _ => False)
def e_sEp (s : St) (k : Ex → St → Tree) : Option Tree := match Nat.beq s.tmps.length 163, pickL s.tmps [0, 3, 7, 8, 9], s.mem with
  | true, [.slice (some ⟨0, 0, none⟩) n _, .slice (some ⟨2, 0, none⟩) z _, .slice (some ⟨4, 0, none⟩) m _, .int .i64 ii, .pointer (some ⟨5, 0, none⟩)], [some ⟨.view, .ints xs⟩, some ⟨.dead, .vals []⟩, some ⟨.row 3 1, .ints os⟩, some ⟨.dead, .vals []⟩, some ⟨.row 3 1, .ints st⟩, some ⟨.box, .vals [.int .i64 x, .int .i64 y]⟩] => some (needs [0 ≤ ii, xs.length = n * 2, n ≤ 8, st.length = m, ixIn n st, m ≤ 8, allV (ptsA n xs) = true, ptB x y = true] (k (.exit 6) ⟨(.slice (some ⟨0, 0, none⟩) n n :: topV :: topV :: .slice (some ⟨2, 0, none⟩) z z :: topV :: topV :: topV :: .slice (some ⟨4, 0, none⟩) (popU (ptsA n xs) st (x, y) m) (popU (ptsA n xs) st (x, y) m) :: .int .i64 ii :: topV :: topV :: topV :: topV :: topV :: topV :: topV :: topV :: topV :: topV :: topV :: topV :: topV :: topV :: topV :: topV :: topV :: topV :: topV :: topV :: topV :: topV :: topV :: topV :: topV :: topV :: topV :: topV :: topV :: topV :: topV :: topV :: topV :: topV :: topV :: topV :: topV :: topV :: topV :: topV :: topV :: topV :: topV :: topV :: topV :: topV :: topV :: topV :: topV :: topV :: topV :: topV :: topV :: topV :: topV :: topV :: topV :: topV :: topV :: topV :: topV :: topV :: topV :: topV :: topV :: topV :: topV :: topV :: topV :: topV :: topV :: topV :: topV :: topV :: topV :: topV :: topV :: topV :: topV :: topV :: topV :: topV :: topV :: topV :: topV :: topV :: topV :: topV :: topV :: topV :: topV :: topV :: topV :: topV :: topV :: topV :: topV :: topV :: topV :: topV :: topV :: topV :: topV :: topV :: topV :: topV :: topV :: topV :: topV :: topV :: topV :: topV :: topV :: topV :: topV :: topV :: topV :: topV :: topV :: topV :: topV :: topV :: topV :: topV :: topV :: topV :: topV :: topV :: topV :: topV :: topV :: topV :: topV :: topV :: topV :: topV :: topV :: topV :: topV :: topV :: topV :: topV :: topV :: topV :: topV :: topV :: topV :: topV :: topV :: topV :: topV :: topV :: topV :: topV :: []), [some ⟨.view, .ints xs⟩, some ⟨.dead, .vals []⟩, some ⟨.row 3 1, .ints os⟩, some ⟨.dead, .vals []⟩, some ⟨.row 3 1, .ints st⟩, some ⟨.box, .vals [.int .i64 x, .int .i64 y]⟩]⟩))
  | _, _, _ => none
set_option maxRecDepth 100000 in
theorem round_sEp (gs : List Pt) (os st : List Int) (x y : Int) (z m i : Nat) (h : gs.length ≤ 8) (hm : st.length = m) (ho : ixIn gs.length st) (hm8 : m ≤ 8) (hv : allV gs = true) (hp : ptB x y = true) : Round_sEp gs os st x y z m i := by
  rintro j ⟨h1, h2⟩
  rw [tr_sEp]
  have fl := flat_length gs
  refine brT_ok.2 ⟨fun hlt => ?_, fun hge => ?_⟩
  · have hlt := of_decide_eq_true hlt
    obtain ⟨k, rfl⟩ : ∃ k, j = k + 1 := ⟨j - 1, by omega⟩
    have w : IntKind.i64.wrap (((k + 1 : Nat) : Int) - 1) = (k : Int) := by rw [wr (by omega)]; omega
    have o := ho k (by omega)
    have ka : st.getD k 0 = (kI st k : Int) := (Int.toNat_of_nonneg o.1).symm
    have kb : kI st k < gs.length := by unfold kI; omega
    simp only [w, Int.toNat_natCast, Nat.zero_add, Nat.add_zero, Nat.mul_one, ka, flat_get0, flat_get1, bndG_some, bndG_none, Nat.sub_zero]
    have dn : offB gs st (x, y) k = true → popU gs st (x, y) k = popU gs st (x, y) m := fun e => by rw [← h2]; simp only [popU, e, cond_true]
    have up : offB gs st (x, y) k = false → popU gs st (x, y) m = k + 1 := fun e => by rw [← h2]; simp only [popU, e, cond_false]
    have ea : offB gs st (x, y) k = (decide ((gs.getD (kI st k) (0, 0)).1 = x) || (decide (0 < k) && hidB (gG gs (kI st (k - 1))) (gs.getD (kI st k) (0, 0)) (x, y))) := rfl
    refine brT_ok.2 ⟨fun g => ?_, fun g => brT_ok.2 ⟨fun g1 => ?_, fun g1 => ?_⟩⟩
    · have g : (gs.getD (kI st k) (0, 0)).1 = x := by simpa using g
      have e := dn (by rw [ea, decide_eq_true g, Bool.true_or])
      simp only [Tree.ok]
      repeat (refine And.intro (by omega) ?_)
      refine ⟨k, [], ⟨by omega, e⟩, ?_, rfl, rfl, ?_⟩
      · show k < k + 1; omega
      · repeat' (first | exact True.intro | exact rfl | exact fun _ => rfl | (simp; done) | refine And.intro ?_ ?_)
    · have g : ¬ (gs.getD (kI st k) (0, 0)).1 = x := by simpa using g
      have g1 : 0 < k := by have := of_decide_eq_true g1; omega
      have w2 : IntKind.i64.wrap (((k + 1 : Nat) : Int) - 2) = ((k - 1 : Nat) : Int) := by rw [wr (by omega)]; omega
      have o2 := ho (k - 1) (by omega)
      have ka2 : st.getD (k - 1) 0 = (kI st (k - 1) : Int) := (Int.toNat_of_nonneg o2.1).symm
      have kb2 : kI st (k - 1) < gs.length := by unfold kI; omega
      have v1 := ptB_true (allV_atU hv kb)
      have v2 := ptB_true (allV_atU hv kb2)
      have v3 := ptB_true hp
      simp only [w2, Int.toNat_natCast, ka2]
      rw [decide_eq_false g, decide_eq_true g1, Bool.false_or, Bool.true_and] at ea
      unfold gG at ea
      generalize gs.getD (kI st k) (0, 0) = B at *
      generalize gs.getD (kI st (k - 1)) (0, 0) = A at *
      have m1 := mul_bd (x := y - A.2) (y := B.1 - A.1) 2000 2000 (by omega) (by omega)
      have m2 := mul_bd (x := B.2 - A.2) (y := x - A.1) 2000 2000 (by omega) (by omega)
      simp (disch := omega) only [wr]
      simp only [Tree.ok]
      repeat (refine And.intro (by omega) ?_)
      refine brT_ok.2 ⟨fun g2 => ?_, fun g2 => ?_⟩
      · have e := dn (by rw [ea]; exact g2)
        simp only [Tree.ok]
        refine ⟨by omega, k, [], ⟨by omega, e⟩, ?_, rfl, rfl, ?_⟩
        · show k < k + 1; omega
        · repeat' (first | exact True.intro | exact rfl | exact fun _ => rfl | (simp; done) | refine And.intro ?_ ?_)
      · have e := up (by rw [ea]; exact g2)
        refine ⟨rfl, [], ?_⟩
        simp only [rs_sEp, e]
        repeat' (first | exact True.intro | exact rfl | exact fun _ => rfl | (simp; done) | refine And.intro ?_ ?_)
    · have g : ¬ (gs.getD (kI st k) (0, 0)).1 = x := by simpa using g
      have g1 : ¬ 0 < k := by have := of_decide_eq_false g1; omega
      have e := up (by rw [ea, decide_eq_false g, decide_eq_false g1]; rfl)
      simp only [Tree.ok]
      repeat (refine And.intro (by omega) ?_)
      refine ⟨rfl, [], ?_⟩
      simp only [rs_sEp, e]
      repeat' (first | exact True.intro | exact rfl | exact fun _ => rfl | (simp; done) | refine And.intro ?_ ?_)
  · have hge := of_decide_eq_false hge
    obtain rfl : j = 0 := by omega
    refine ⟨rfl, [], ?_⟩
    simp only [rs_sEp, ← h2]
    repeat' (first | exact True.intro | exact rfl | exact fun _ => rfl | (simp; done) | refine And.intro ?_ ?_)
set_option maxRecDepth 100000 in
theorem lg_sEp : LoopE Try.prog e_sEp c_sEp := by
  intro s k t F H hlt ht
  unfold e_sEp at hlt
  split at hlt
  rotate_left
  · cases hlt
  rename_i hlen hpick hmem
  obtain ⟨tmps, mem⟩ := s
  simp only at hlen hpick hmem
  subst hmem
  obtain rfl := Option.some.inj hlt
  obtain ⟨⟨h0, h1, h2, h3, h4, h5, h6, h7, _⟩, ht2⟩ := needs_ok ht
  clear ht hlt
  obtain ⟨gs, rfl, rfl⟩ := even_flat h1
  obtain ⟨i, rfl⟩ := Int.eq_ofNat_of_zero_le h0
  rw [ptsA_flat] at ht2 h6
  refine ⟨_, _, ht2, loop_run mixed EUe_ok (s_sEp gs _ _ _ _ _ _ i) (inv_sEp gs _ _ _ _ _ _ i) (me_sEp gs _ _ _ _ _ _ i) re_sEp (rs_sEp gs _ _ _ _ _ _ i) k_sEp (fun _ => rfl) (noLoops nl_sEp) (round_sEp gs _ _ _ _ _ _ i h2 h3 h4 h5 h6 h7) (x := _) ⟨Nat.le_refl _, rfl⟩ (π := []) rfl ?_⟩
  refine ⟨rfl, rfl, ?_, wvs_spread' [0, 3, 7, 8, 9] hlen rfl ?_⟩
  · repeat' (first | exact True.intro | exact rfl | exact wv_top _ _ | exact fun _ => rfl | assumption | exact Eq.symm (by assumption) | exact vI0 rfl | refine And.intro ?_ ?_)
  · rw [hpick]
    repeat' (first | exact True.intro | exact rfl | exact wv_top _ _ | exact fun _ => rfl | assumption | exact Eq.symm (by assumption) | exact vI0 rfl | refine And.intro ?_ ?_)
def pushU (gs : List Pt) (st : List Int) (o : Int) : List Int := st.take (popU gs st (gG gs o.toNat) st.length) ++ [o]
/-- The scan of the order. -/
def scanU (gs : List Pt) : List Int → List Int → List Int
  | [], st => st
  | o :: r, st => scanU gs r (pushU gs st o)
def ltUf : LT := fun j s k => match j with
  | 3 => e_sEp s k
  | _ => none
noncomputable def c_sEs : Code := ((loopsOf (codeOf Try.f16))[2]?).getD .skip
def k_sEs : Ex → List Nat := keeps [0, 3, 7, 8] [(4, [7])] [2]
def s_sEs (gs : List Pt) (os : List Int) : Nat × (List Int) → St := fun (i, st) => ⟨(.slice (some ⟨0, 0, none⟩) gs.length gs.length :: topV :: topV :: .slice (some ⟨2, 0, none⟩) os.length os.length :: topV :: topV :: topV :: .slice (some ⟨4, 0, none⟩) st.length st.length :: .int .i64 i :: topV :: topV :: topV :: topV :: topV :: topV :: topV :: topV :: topV :: topV :: topV :: topV :: topV :: topV :: topV :: topV :: topV :: topV :: topV :: topV :: topV :: topV :: topV :: topV :: topV :: topV :: topV :: topV :: topV :: topV :: topV :: topV :: topV :: topV :: topV :: topV :: topV :: topV :: topV :: topV :: topV :: topV :: topV :: topV :: topV :: topV :: topV :: topV :: topV :: topV :: topV :: topV :: topV :: topV :: topV :: topV :: topV :: topV :: topV :: topV :: topV :: topV :: topV :: topV :: topV :: topV :: topV :: topV :: topV :: topV :: topV :: topV :: topV :: topV :: topV :: topV :: topV :: topV :: topV :: topV :: topV :: topV :: topV :: topV :: topV :: topV :: topV :: topV :: topV :: topV :: topV :: topV :: topV :: topV :: topV :: topV :: topV :: topV :: topV :: topV :: topV :: topV :: topV :: topV :: topV :: topV :: topV :: topV :: topV :: topV :: topV :: topV :: topV :: topV :: topV :: topV :: topV :: topV :: topV :: topV :: topV :: topV :: topV :: topV :: topV :: topV :: topV :: topV :: topV :: topV :: topV :: topV :: topV :: topV :: topV :: topV :: topV :: topV :: topV :: topV :: topV :: topV :: topV :: topV :: topV :: topV :: topV :: topV :: topV :: topV :: topV :: topV :: topV :: topV :: []), [some ⟨.view, .ints (flat gs)⟩, some ⟨.dead, .vals []⟩, some ⟨.row 3 1, .ints os⟩, some ⟨.dead, .vals []⟩, some ⟨.row 3 1, .ints st⟩]⟩
def re_sEs : Nat × (List Int) → Ex := fun _ => .exit 4
def rs_sEs (gs : List Pt) (os : List Int) : Nat × (List Int) → St := fun (i, st) => ⟨(topV :: topV :: topV :: topV :: topV :: topV :: topV :: .slice (some ⟨4, 0, none⟩) (scanU gs (os.drop i) st).length (scanU gs (os.drop i) st).length :: topV :: topV :: topV :: topV :: topV :: topV :: topV :: topV :: topV :: topV :: topV :: topV :: topV :: topV :: topV :: topV :: topV :: topV :: topV :: topV :: topV :: topV :: topV :: topV :: topV :: topV :: topV :: topV :: topV :: topV :: topV :: topV :: topV :: topV :: topV :: topV :: topV :: topV :: topV :: topV :: topV :: topV :: topV :: topV :: topV :: topV :: topV :: topV :: topV :: topV :: topV :: topV :: topV :: topV :: topV :: topV :: topV :: topV :: topV :: topV :: topV :: topV :: topV :: topV :: topV :: topV :: topV :: topV :: topV :: topV :: topV :: topV :: topV :: topV :: topV :: topV :: topV :: topV :: topV :: topV :: topV :: topV :: topV :: topV :: topV :: topV :: topV :: topV :: topV :: topV :: topV :: topV :: topV :: topV :: topV :: topV :: topV :: topV :: topV :: topV :: topV :: topV :: topV :: topV :: topV :: topV :: topV :: topV :: topV :: topV :: topV :: topV :: topV :: topV :: topV :: topV :: topV :: topV :: topV :: topV :: topV :: topV :: topV :: topV :: topV :: topV :: topV :: topV :: topV :: topV :: topV :: topV :: topV :: topV :: topV :: topV :: topV :: topV :: topV :: topV :: topV :: topV :: topV :: topV :: topV :: topV :: topV :: topV :: topV :: topV :: topV :: topV :: topV :: topV :: topV :: []), [some ⟨.view, .ints (flat gs)⟩, some ⟨.dead, .vals []⟩, some ⟨.row 3 1, .ints os⟩, some ⟨.dead, .vals []⟩, some ⟨.row 3 1, .ints (scanU gs (os.drop i) st)⟩]⟩
set_option maxRecDepth 100000 in
theorem tr_sEs (gs : List Pt) (os : List Int) (i : Nat) (st : List Int) : bodyL Try.prog EUe 30 12 ltUf 3 c_sEs k_sEs 16 (s_sEs gs os (i, st)) = brT (decide ((↑i : Int) < (↑os.length : Int))) (.need ((0 : Int) ≤ (↑i : Int) ∧ (↑i : Int) < (↑os.length : Int)) (.need ((0 : Nat) + (↑i : Int).toNat * (1 : Nat) < os.length) (.need ((0 : Int) ≤ os.getD ((0 : Nat) + (↑i : Int).toNat * (1 : Nat)) (0 : Int) ∧ os.getD ((0 : Nat) + (↑i : Int).toNat * (1 : Nat)) (0 : Int) < (↑gs.length : Int)) (.need ((0 : Nat) + (os.getD ((0 : Nat) + (↑i : Int).toNat * (1 : Nat)) (0 : Int)).toNat * (2 : Nat) + (2 : Nat) ≤ (flat gs).length) (.need ((0 : Int) ≤ (↑i : Int)) (.need ((flat gs).length = gs.length * (2 : Nat)) (.need (gs.length ≤ (8 : Nat)) (.need (st.length = st.length) (.need (ixIn gs.length st) (.need (st.length ≤ (8 : Nat)) (.need (allV (ptsA gs.length (flat gs)) = true) (.need (ptB ((flat gs).getD ((0 : Nat) + (os.getD ((0 : Nat) + (↑i : Int).toNat * (1 : Nat)) (0 : Int)).toNat * (2 : Nat)) (0 : Int)) ((flat gs).getD ((0 : Nat) + (os.getD ((0 : Nat) + (↑i : Int).toNat * (1 : Nat)) (0 : Int)).toNat * (2 : Nat) + (1 : Nat)) (0 : Int)) = true) (.need ((0 : Int) ≤ (↑i : Int) ∧ (↑i : Int) < (↑os.length : Int)) (.need ((0 : Nat) + (↑i : Int).toNat * (1 : Nat) < os.length) (.need ((popU (ptsA gs.length (flat gs)) st ((flat gs).getD ((0 : Nat) + (os.getD ((0 : Nat) + (↑i : Int).toNat * (1 : Nat)) (0 : Int)).toNat * (2 : Nat)) (0 : Int), (flat gs).getD ((0 : Nat) + (os.getD ((0 : Nat) + (↑i : Int).toNat * (1 : Nat)) (0 : Int)).toNat * (2 : Nat) + (1 : Nat)) (0 : Int)) st.length + (1 : Nat)) * (8 : Nat) ≤ (140737488355328 : Nat) ∧ popU (ptsA gs.length (flat gs)) st ((flat gs).getD ((0 : Nat) + (os.getD ((0 : Nat) + (↑i : Int).toNat * (1 : Nat)) (0 : Int)).toNat * (2 : Nat)) (0 : Int), (flat gs).getD ((0 : Nat) + (os.getD ((0 : Nat) + (↑i : Int).toNat * (1 : Nat)) (0 : Int)).toNat * (2 : Nat) + (1 : Nat)) (0 : Int)) st.length + (1 : Nat) ≤ (1000000 : Nat)) (.need ((0 : Nat) + popU (ptsA gs.length (flat gs)) st ((flat gs).getD ((0 : Nat) + (os.getD ((0 : Nat) + (↑i : Int).toNat * (1 : Nat)) (0 : Int)).toNat * (2 : Nat)) (0 : Int), (flat gs).getD ((0 : Nat) + (os.getD ((0 : Nat) + (↑i : Int).toNat * (1 : Nat)) (0 : Int)).toNat * (2 : Nat) + (1 : Nat)) (0 : Int)) st.length * (1 : Nat) ≤ st.length) (.leaf .normal ⟨(.slice (some ⟨0, 0, none⟩) (gs.length) (gs.length) :: topV :: topV :: .slice (some ⟨2, 0, none⟩) (os.length) (os.length) :: topV :: topV :: topV :: .slice (some ⟨7, 0, none⟩) (popU (ptsA gs.length (flat gs)) st ((flat gs).getD (0 + (os.getD (0 + (↑i : Int).toNat * (1 : Nat)) 0).toNat * (2 : Nat)) 0, (flat gs).getD (0 + (os.getD (0 + (↑i : Int).toNat * (1 : Nat)) 0).toNat * (2 : Nat) + 1) 0) st.length + 1) (popU (ptsA gs.length (flat gs)) st ((flat gs).getD (0 + (os.getD (0 + (↑i : Int).toNat * (1 : Nat)) 0).toNat * (2 : Nat)) 0, (flat gs).getD (0 + (os.getD (0 + (↑i : Int).toNat * (1 : Nat)) 0).toNat * (2 : Nat) + 1) 0) st.length + 1) :: .int .i64 (IntKind.i64.wrap ((↑i : Int) + 1)) :: topV :: topV :: topV :: topV :: topV :: topV :: topV :: topV :: topV :: topV :: topV :: topV :: topV :: topV :: topV :: topV :: topV :: topV :: topV :: topV :: topV :: topV :: topV :: topV :: topV :: topV :: topV :: topV :: topV :: topV :: topV :: topV :: topV :: topV :: topV :: topV :: topV :: topV :: topV :: topV :: topV :: topV :: topV :: topV :: topV :: topV :: topV :: topV :: topV :: topV :: topV :: topV :: topV :: topV :: topV :: topV :: topV :: topV :: topV :: topV :: topV :: topV :: topV :: topV :: topV :: topV :: topV :: topV :: topV :: topV :: topV :: topV :: topV :: topV :: topV :: topV :: topV :: topV :: topV :: topV :: topV :: topV :: topV :: topV :: topV :: topV :: topV :: topV :: topV :: topV :: topV :: topV :: topV :: topV :: topV :: topV :: topV :: topV :: topV :: topV :: topV :: topV :: topV :: topV :: topV :: topV :: topV :: topV :: topV :: topV :: topV :: topV :: topV :: topV :: topV :: topV :: topV :: topV :: topV :: topV :: topV :: topV :: topV :: topV :: topV :: topV :: topV :: topV :: topV :: topV :: topV :: topV :: topV :: topV :: topV :: topV :: topV :: topV :: topV :: topV :: topV :: topV :: topV :: topV :: topV :: topV :: topV :: topV :: topV :: topV :: topV :: topV :: topV :: topV :: []), [some ⟨.view, .ints (flat gs)⟩, some deadB, some ⟨.row 3 1, .ints (os)⟩, some deadB, some deadB, some ⟨.box, .vals [.int .i64 ((flat gs).getD (0 + (os.getD (0 + (↑i : Int).toNat * 1) 0).toNat * 2) 0), .int .i64 ((flat gs).getD (0 + (os.getD (0 + (↑i : Int).toNat * 1) 0).toNat * 2 + 1) 0)]⟩, some ⟨.row 3 1, .vals [.int .i64 (os.getD (0 + (↑i : Int).toNat * 1) 0)]⟩, some ⟨.row 3 1, .ints (List.take (popU (ptsA gs.length (flat gs)) st ((flat gs).getD (0 + (os.getD (0 + (↑i : Int).toNat * (1 : Nat)) 0).toNat * (2 : Nat)) 0, (flat gs).getD (0 + (os.getD (0 + (↑i : Int).toNat * (1 : Nat)) 0).toNat * (2 : Nat) + 1) 0) st.length * 1) (List.drop 0 st) ++ [os.getD (0 + (↑i : Int).toNat * 1) 0])⟩]⟩))))))))))))))))) (.leaf (.exit 4) ⟨(topV :: topV :: topV :: topV :: topV :: topV :: topV :: .slice (some ⟨4, 0, none⟩) (st.length) (st.length) :: topV :: topV :: topV :: topV :: topV :: topV :: topV :: topV :: topV :: topV :: topV :: topV :: topV :: topV :: topV :: topV :: topV :: topV :: topV :: topV :: topV :: topV :: topV :: topV :: topV :: topV :: topV :: topV :: topV :: topV :: topV :: topV :: topV :: topV :: topV :: topV :: topV :: topV :: topV :: topV :: topV :: topV :: topV :: topV :: topV :: topV :: topV :: topV :: topV :: topV :: topV :: topV :: topV :: topV :: topV :: topV :: topV :: topV :: topV :: topV :: topV :: topV :: topV :: topV :: topV :: topV :: topV :: topV :: topV :: topV :: topV :: topV :: topV :: topV :: topV :: topV :: topV :: topV :: topV :: topV :: topV :: topV :: topV :: topV :: topV :: topV :: topV :: topV :: topV :: topV :: topV :: topV :: topV :: topV :: topV :: topV :: topV :: topV :: topV :: topV :: topV :: topV :: topV :: topV :: topV :: topV :: topV :: topV :: topV :: topV :: topV :: topV :: topV :: topV :: topV :: topV :: topV :: topV :: topV :: topV :: topV :: topV :: topV :: topV :: topV :: topV :: topV :: topV :: topV :: topV :: topV :: topV :: topV :: topV :: topV :: topV :: topV :: topV :: topV :: topV :: topV :: topV :: topV :: topV :: topV :: topV :: topV :: topV :: topV :: topV :: topV :: topV :: topV :: topV :: topV :: []), [some ⟨.view, .ints (flat gs)⟩, some deadB, some ⟨.row 3 1, .ints (os)⟩, some deadB, some ⟨.row 3 1, .ints (st)⟩]⟩) := by kernel_rfl
def inv_sEs (gs : List Pt) (os : List Int) : Nat × (List Int) → Prop := fun (i, st) => i ≤ os.length ∧ st.length ≤ i ∧ ixIn gs.length st
def me_sEs (gs : List Pt) (os : List Int) : Nat × (List Int) → Nat := fun (i, st) => os.length - i
/-- A round of this loop. -/
def Round_sEs (gs : List Pt) (os : List Int) : Prop := ∀ xx : Nat × (List Int), inv_sEs gs os xx → (bodyL Try.prog EUe 30 12 ltUf 3 c_sEs k_sEs 16 (s_sEs gs os xx)).ok (RoundEnd 4 (s_sEs gs os) (inv_sEs gs os) (me_sEs gs os) re_sEs (rs_sEs gs os) xx) (fun _ _ => False)
def e_sEs (s : St) (k : Ex → St → Tree) : Option Tree := match Nat.beq s.tmps.length 163, pickL s.tmps [0, 3, 7, 8], s.mem with
  | true, [.slice (some ⟨0, 0, none⟩) n _, .slice (some ⟨2, 0, none⟩) z _, .slice (some ⟨3, 0, none⟩) z2 _, .int .i64 ii], [some ⟨.view, .ints xs⟩, some ⟨.dead, .vals []⟩, some ⟨.row 3 1, .ints os⟩, some ⟨.row 3 1, .vals []⟩] => some (needs [ii = 0, z2 = 0, xs.length = n * 2, n ≤ 8, os.length = z, ixIn n os, z ≤ 8, allV (ptsA n xs) = true] (k (.exit 4) ⟨(topV :: topV :: topV :: topV :: topV :: topV :: topV :: .slice (some ⟨4, 0, none⟩) (scanU (ptsA n xs) os []).length (scanU (ptsA n xs) os []).length :: topV :: topV :: topV :: topV :: topV :: topV :: topV :: topV :: topV :: topV :: topV :: topV :: topV :: topV :: topV :: topV :: topV :: topV :: topV :: topV :: topV :: topV :: topV :: topV :: topV :: topV :: topV :: topV :: topV :: topV :: topV :: topV :: topV :: topV :: topV :: topV :: topV :: topV :: topV :: topV :: topV :: topV :: topV :: topV :: topV :: topV :: topV :: topV :: topV :: topV :: topV :: topV :: topV :: topV :: topV :: topV :: topV :: topV :: topV :: topV :: topV :: topV :: topV :: topV :: topV :: topV :: topV :: topV :: topV :: topV :: topV :: topV :: topV :: topV :: topV :: topV :: topV :: topV :: topV :: topV :: topV :: topV :: topV :: topV :: topV :: topV :: topV :: topV :: topV :: topV :: topV :: topV :: topV :: topV :: topV :: topV :: topV :: topV :: topV :: topV :: topV :: topV :: topV :: topV :: topV :: topV :: topV :: topV :: topV :: topV :: topV :: topV :: topV :: topV :: topV :: topV :: topV :: topV :: topV :: topV :: topV :: topV :: topV :: topV :: topV :: topV :: topV :: topV :: topV :: topV :: topV :: topV :: topV :: topV :: topV :: topV :: topV :: topV :: topV :: topV :: topV :: topV :: topV :: topV :: topV :: topV :: topV :: topV :: topV :: topV :: topV :: topV :: topV :: topV :: topV :: []), [some ⟨.view, .ints xs⟩, some ⟨.dead, .vals []⟩, some ⟨.row 3 1, .ints os⟩, some ⟨.dead, .vals []⟩, some ⟨.row 3 1, .ints (scanU (ptsA n xs) os [])⟩]⟩))
  | _, _, _ => none
set_option maxRecDepth 100000 in
theorem in_sEs : loopsOf c_sEs = [c_sEp] := by kernel_rfl
theorem ltUf_good : LoopsGood Try.prog ltUf 3 c_sEs := by
  intro i d hd s k t F H hlt ht
  rw [in_sEs] at hd
  cases i with
  | zero =>
    obtain rfl : c_sEp = d := by simpa using hd
    exact lg_sEp s k t F H hlt ht
  | succ i => simp at hd
set_option maxRecDepth 100000 in
set_option maxHeartbeats 1000000 in
theorem round_sEs (gs : List Pt) (os : List Int) (h : gs.length ≤ 8) (ho : ixIn gs.length os) (h8 : os.length ≤ 8) (hv : allV gs = true) : Round_sEs gs os := by
  rintro ⟨i, st⟩ ⟨h1, h2, h3⟩
  rw [tr_sEs]
  have fl := flat_length gs
  refine brT_ok.2 ⟨fun hlt => ?_, fun hge => ?_⟩
  · have hlt := of_decide_eq_true hlt
    have hi : i < os.length := by omega
    have o := ho i hi
    have ka : os.getD i 0 = (kI os i : Int) := (Int.toNat_of_nonneg o.1).symm
    have kb : kI os i < gs.length := by unfold kI; omega
    have hd : os.drop i = (kI os i : Int) :: os.drop (i + 1) := by rw [drop_cons hi 0, ka]
    have st0 : scanU gs (os.drop i) st = scanU gs (os.drop (i + 1)) (pushU gs st (kI os i : Int)) := by rw [hd]; rfl
    have hg : ((gs.getD (kI os i) (0, 0)).1, (gs.getD (kI os i) (0, 0)).2) = gG gs (kI os i) := rfl
    have hp : pushU gs st (kI os i : Int) = st.take (popU gs st (gG gs (kI os i)) st.length) ++ [(kI os i : Int)] := rfl
    have hq := popU_le gs st (gG gs (kI os i)) st.length
    rw [wsucc (n := os.length) hi (by omega)]
    simp only [Int.toNat_natCast, Nat.zero_add, Nat.mul_one, ka, flat_get0, flat_get1, ptsA_flat, hg, List.drop_zero]
    generalize popU gs st (gG gs (kI os i)) st.length = q at *
    have l1 : (st.take q).length = q := by rw [List.length_take]; omega
    have l2 : q + 1 = (pushU gs st (kI os i : Int)).length := by rw [hp, List.length_append, l1]; rfl
    rw [← hp, l2]
    have e4 : ixIn gs.length (pushU gs st (kI os i : Int)) := by
      intro k hk
      rw [hp]
      simp only [List.getD_eq_getElem?_getD]
      rcases Nat.lt_or_ge k q with hlt | hge
      · rw [List.getElem?_append_left (by omega), List.getElem?_take, if_pos hlt, ← List.getD_eq_getElem?_getD]
        exact h3 k (by omega)
      · rw [List.getElem?_append_right (by omega), l1, show k - q = 0 by omega]
        show 0 ≤ (kI os i : Int) ∧ (kI os i : Int) < gs.length
        omega
    simp only [Tree.ok]
    refine ⟨by omega, by omega, by omega, by omega, by omega, fl, h, trivial, h3, by omega, hv, allV_atU hv kb, by omega, by omega, by omega, by omega, (i + 1, pushU gs st (kI os i : Int)), [some 7], ⟨by omega, by omega, e4⟩, ?_, rfl, by simp only [rs_sEs, st0], ?_⟩
    · show os.length - (i + 1) < os.length - i; omega
    · repeat' (first | exact True.intro | exact rfl | exact fun _ => rfl | (simp; done) | refine And.intro ?_ ?_)
  · have hge := of_decide_eq_false hge
    have e : scanU gs (os.drop i) st = st := by rw [List.drop_of_length_le (by omega)]; rfl
    refine ⟨rfl, [some 4], ?_⟩
    simp only [rs_sEs, e]
    repeat' (first | exact True.intro | exact rfl | exact fun _ => rfl | (simp; done) | refine And.intro ?_ ?_)
set_option maxRecDepth 100000 in
theorem lg_sEs : LoopE Try.prog e_sEs c_sEs := by
  intro s k t F H hlt ht
  unfold e_sEs at hlt
  split at hlt
  rotate_left
  · cases hlt
  rename_i hlen hpick hmem
  obtain ⟨tmps, mem⟩ := s
  simp only at hlen hpick hmem
  subst hmem
  obtain rfl := Option.some.inj hlt
  obtain ⟨⟨rfl, rfl, h1, h2, h3, h4, h5, h6, _⟩, ht2⟩ := needs_ok ht
  clear ht hlt
  obtain ⟨gs, rfl, rfl⟩ := even_flat h1
  subst h3
  rw [ptsA_flat] at ht2 h6
  refine ⟨_, _, ht2, loop_run2 mixed EUe_ok (s_sEs gs _) (inv_sEs gs _) (me_sEs gs _) re_sEs (rs_sEs gs _) k_sEs (fun _ => rfl) ltUf_good (round_sEs gs _ h2 h4 h5 h6) (x := (0, [])) ⟨Nat.zero_le _, Nat.le_refl _, fun k hk => absurd hk (Nat.not_lt_zero k)⟩ (π := [some 3]) rfl ?_⟩
  refine ⟨rfl, rfl, ?_, wvs_spread' [0, 3, 7, 8] hlen rfl ?_⟩
  · repeat' (first | exact True.intro | exact rfl | exact wv_top _ _ | exact fun _ => rfl | assumption | exact Eq.symm (by assumption) | exact vI0 rfl | refine And.intro ?_ ?_)
  · rw [hpick]
    repeat' (first | exact True.intro | exact rfl | exact wv_top _ _ | exact fun _ => rfl | assumption | exact Eq.symm (by assumption) | exact vI0 rfl | refine And.intro ?_ ?_)
end Go.Proofs.Ytolodncpegajkab
namespace Go.Proofs.Ytolodncpegajkab
set_option linter.all false
open Go.RowKit
def ltUg : LT := fun j s k => match j with
  | 0 => e_sEo s k
  | 2 => e_sEs s k
  | _ => none
set_option maxRecDepth 100000 in
theorem in_Ug : loopsOf (codeOf Try.f16) = [c_sEo, c_sEi, c_sEs, c_sEp] := by kernel_rfl
theorem ltUg_good : LoopsGood Try.prog ltUg 0 (codeOf Try.f16) := by
  intro i d hd s k t F H hlt ht
  rw [in_Ug] at hd
  match i with
  | 0 =>
    obtain rfl : c_sEo = d := by simpa using hd
    exact lg_sEo s k t F H hlt ht
  | 1 => simp [ltUg] at hlt
  | 2 =>
    obtain rfl : c_sEs = d := by simpa using hd
    exact lg_sEs s k t F H hlt ht
  | i + 3 => simp [ltUg] at hlt
theorem Lr_ug {fn : Func} (hf : Try.prog.funcs[16]? = some fn) : LoopsGood Try.prog ltUg 0 (codeOf fn) := by
  obtain rfl := fn_is Try.func16 hf
  exact ltUg_good
def LUg : FuncId → LT := fun f => match f with
  | 16 => ltUg
  | _ => noL
def EUg : Env := mkE TVg (fun _ _ => none) LUg
theorem EUg_ok : EnvOk Try.prog EUg := mkEOk TVg_ok (fun _ _ _ _ _ h => (by cases h)) (by
  intro f fn hf
  unfold LUg
  split
  all_goals first | with_reducible exact Lr_ug hf | exact noL_good)
set_option maxRecDepth 100000 in
theorem tr_sUe (gs : List Pt) : bodyX Try.prog EUg 30 12 16 [.row gs.length (.ints (flat gs))] = .need (gs.length * (2 : Nat) ≤ (List.drop (0 : Nat) (flat gs)).length) (.need (gs.length ≤ (1000000000 : Nat)) (brT (!vgB (ptsA gs.length (List.drop 0 (flat gs)))) (.fin (.slice none (0) (0)) [some ⟨.view, .ints (flat gs)⟩]) (.need ((0 : Int) = (0 : Int)) (.need ((0 : Nat) = (0 : Nat)) (.need ((flat gs).length = gs.length * (2 : Nat)) (.need (gs.length ≤ (8 : Nat)) (.need ((0 : Int) = (0 : Int)) (.need ((0 : Nat) = (0 : Nat)) (.need ((flat gs).length = gs.length * (2 : Nat)) (.need (gs.length ≤ (8 : Nat)) (.need ((ordL (ptsA gs.length (flat gs)) gs.length (0 : Nat) []).length = (ordL (ptsA gs.length (flat gs)) gs.length (0 : Nat) []).length) (.need (ixIn gs.length (ordL (ptsA gs.length (flat gs)) gs.length (0 : Nat) [])) (.need ((ordL (ptsA gs.length (flat gs)) gs.length (0 : Nat) []).length ≤ (8 : Nat)) (.need (allV (ptsA gs.length (flat gs)) = true) (.fin (.slice (some ⟨4, 0, none⟩) ((scanU (ptsA gs.length (flat gs)) (ordL (ptsA gs.length (flat gs)) gs.length 0 []) []).length) ((scanU (ptsA gs.length (flat gs)) (ordL (ptsA gs.length (flat gs)) gs.length 0 []) []).length)) [some ⟨.view, .ints (flat gs)⟩, some deadB, some ⟨.row 3 1, .ints (ordL (ptsA gs.length (flat gs)) gs.length 0 [])⟩, some deadB, some ⟨.row 3 1, .ints (scanU (ptsA gs.length (flat gs)) (ordL (ptsA gs.length (flat gs)) gs.length 0 []) [])⟩]))))))))))))))) := by kernel_rfl
/-- The model's order of graphs. -/
def ordG (gs : List Pt) : List Int := ordL gs gs.length 0 []
/-- What the model's UpperEnvelope answers. -/
def ueS (gs : List Pt) : List Int := bif vgB gs then scanU gs (ordG gs) [] else []
theorem vg_iff {gs : List Pt} (h : vgB gs = true) : allV gs = true ∧ gs.length ≤ 8 := by
  unfold vgB at h
  rw [Bool.and_eq_true] at h
  refine ⟨List.all_eq_true.2 fun p hp => ?_, of_decide_eq_true h.2⟩
  obtain ⟨k, hk, rfl⟩ := List.mem_iff_getElem.1 hp
  have := allQ_get _ _ h.1 k (Nat.zero_le _) (by omega)
  unfold vgQ gG at this
  rw [Bool.and_eq_true] at this
  have e : gs.getD k (0, 0) = gs[k] := by simp [hk]
  rw [e] at this
  exact this.1
theorem insI_in {gs : List Pt} {n i : Nat} {os : List Int} (h : ixIn n os) (hi : i < n) : ixIn n (insI gs os i) := by
  have hq := posG_le gs os i os.length
  intro k hk
  unfold insI
  generalize posG gs os i os.length = q at *
  have l1 : (os.take q).length = q := by rw [List.length_take]; omega
  unfold insI at hk
  simp only [List.getD_eq_getElem?_getD]
  rcases Nat.lt_or_ge k q with hlt | hge
  · rw [List.getElem?_append_left (by omega), List.getElem?_take, if_pos hlt, ← List.getD_eq_getElem?_getD]
    exact h k (by omega)
  · rw [List.getElem?_append_right (by omega), l1]
    rcases Nat.eq_zero_or_pos (k - q) with h0 | hp
    · rw [h0]
      show 0 ≤ (i : Int) ∧ (i : Int) < n
      omega
    · obtain ⟨j, hj⟩ : ∃ j, k - q = j + 1 := ⟨k - q - 1, by omega⟩
      rw [hj, List.getElem?_cons_succ, List.getElem?_drop, ← List.getD_eq_getElem?_getD]
      rcases Nat.lt_or_ge (q + j) os.length with h2 | h2
      · exact h (q + j) h2
      · rw [List.getD_eq_getElem?_getD, List.getElem?_eq_none h2]
        show 0 ≤ (0 : Int) ∧ (0 : Int) < n
        omega
theorem insI_len (gs : List Pt) (os : List Int) (i : Nat) : (insI gs os i).length = os.length + 1 := by
  have hq := posG_le gs os i os.length
  unfold insI
  rw [List.length_append, List.length_take, List.length_cons, List.length_drop]
  omega
theorem ordL_in {gs : List Pt} {n : Nat} : ∀ (m i : Nat) {os : List Int}, i + m ≤ n → ixIn n os → ixIn n (ordL gs m i os) ∧ (ordL gs m i os).length = os.length + m
  | 0, i, os, _, h => ⟨h, rfl⟩
  | m + 1, i, os, hi, h => by
    have := ordL_in (gs := gs) m (i + 1) (os := insI gs os i) (by omega) (insI_in h (by omega))
    rw [insI_len] at this
    exact ⟨this.1, this.2.trans (by omega)⟩
theorem ordG_in (gs : List Pt) : ixIn gs.length (ordG gs) ∧ (ordG gs).length = gs.length := by
  have := ordL_in (gs := gs) (n := gs.length) gs.length 0 (os := []) (by omega) (fun k hk => absurd hk (Nat.not_lt_zero k))
  exact ⟨this.1, this.2.trans (by simp)⟩
abbrev rowUe (xs : List Int) : Value := .slice (some ⟨0, 0, none⟩) xs.length xs.length
theorem resR_sUe (gs : List Pt) (h : Big gs) : ResR Try.prog 16 [.row gs.length (.ints (flat gs))] (rowUe (ueS gs)) ⟨.row 3 1, .ints (ueS gs)⟩ := by
  refine bodyX_resR mixed EUg_ok (m := 30) (n := 12) rfl ?_
  rw [tr_sUe]
  unfold Big at h
  simp only [List.drop_zero, ptsA_flat, flat_length]
  unfold ueS
  rcases hv : vgB gs with _ | _
  · exact ⟨Nat.le_refl _, h, none, ⟨rfl, rfl⟩, trivial⟩
  obtain ⟨v1, v2⟩ := vg_iff hv
  obtain ⟨o1, o2⟩ := ordG_in gs
  have eo : ordL gs gs.length 0 [] = ordG gs := rfl
  rw [eo]
  simp only [Bool.not_true, brT_f, cond_true, Tree.ok]
  refine ⟨Nat.le_refl _, h, trivial, trivial, trivial, v2, ?_⟩
  repeat (refine And.intro (by first | exact True.intro | assumption | omega) ?_)
  exact ⟨some 4, ⟨rfl, rfl, rfl⟩, rfl, rfl, rfl⟩
end Go.Proofs.Ytolodncpegajkab
namespace Go.Proofs.Ytolodncpegajkab
set_option linter.all false
open Go.RowKit
noncomputable def c_iDu : Code := ((loopsOf (codeOf Try.f18))[0]?).getD .skip
def k_iDu : Ex → List Nat := keeps [0, 3, 12, 13, 14] [(0, [0, 3])] [2]
def s_iDu (gs : List Pt) : Nat → St := fun i => ⟨(.slice (some ⟨0, 0, none⟩) gs.length gs.length :: topV :: topV :: .slice (some ⟨1, 0, none⟩) i i :: topV :: topV :: topV :: topV :: topV :: topV :: topV :: topV :: .slice (some ⟨0, 0, none⟩) gs.length gs.length :: .int .i64 gs.length :: .int .i64 i :: topV :: topV :: topV :: topV :: topV :: topV :: topV :: topV :: topV :: topV :: topV :: topV :: topV :: topV :: topV :: topV :: topV :: topV :: topV :: topV :: topV :: topV :: topV :: topV :: topV :: topV :: topV :: topV :: []), [some ⟨.view, .ints (flat gs)⟩, some ⟨.row 44 2, .ints (flat (gs.take i))⟩]⟩
def re_iDu : Nat → Ex := fun _ => .exit 0
def rs_iDu (gs : List Pt) : Nat → St := fun i => ⟨(.slice (some ⟨0, 0, none⟩) gs.length gs.length :: topV :: topV :: .slice (some ⟨1, 0, none⟩) gs.length gs.length :: topV :: topV :: topV :: topV :: topV :: topV :: topV :: topV :: topV :: topV :: topV :: topV :: topV :: topV :: topV :: topV :: topV :: topV :: topV :: topV :: topV :: topV :: topV :: topV :: topV :: topV :: topV :: topV :: topV :: topV :: topV :: topV :: topV :: topV :: topV :: topV :: topV :: topV :: topV :: []), [some ⟨.view, .ints (flat gs)⟩, some ⟨.row 44 2, .ints (flat gs)⟩]⟩
set_option maxRecDepth 100000 in
theorem tr_iDu (gs : List Pt) (i : Nat) : bodyL Try.prog EUe 30 12 noL 1 c_iDu k_iDu 16 (s_iDu gs i) = brT (decide ((↑i : Int) < (↑gs.length : Int))) (.need ((0 : Int) ≤ (↑i : Int) ∧ (↑i : Int) < (↑gs.length : Int)) (.need ((0 : Nat) + (↑i : Int).toNat * (2 : Nat) + (2 : Nat) ≤ (flat gs).length) (brT (!ptB ((flat gs).getD (0 + (↑i : Int).toNat * 2) 0) ((flat gs).getD (0 + (↑i : Int).toNat * 2 + 1) 0)) (.need ((i + (1 : Nat)) * (16 : Nat) ≤ (140737488355328 : Nat) ∧ i + (1 : Nat) ≤ (1000000 : Nat)) (.need ((0 : Nat) + i * (2 : Nat) ≤ (flat (List.take i gs)).length) (.leaf .normal ⟨(.slice (some ⟨0, 0, none⟩) (gs.length) (gs.length) :: topV :: topV :: .slice (some ⟨4, 0, none⟩) (i + 1) (i + 1) :: topV :: topV :: topV :: topV :: topV :: topV :: topV :: topV :: .slice (some ⟨0, 0, none⟩) (gs.length) (gs.length) :: .int .i64 ((↑gs.length : Int)) :: .int .i64 (IntKind.i64.wrap ((↑i : Int) + 1)) :: topV :: topV :: topV :: topV :: topV :: topV :: topV :: topV :: topV :: topV :: topV :: topV :: topV :: topV :: topV :: topV :: topV :: topV :: topV :: topV :: topV :: topV :: topV :: topV :: topV :: topV :: topV :: topV :: []), [some ⟨.view, .ints (flat gs)⟩, some deadB, some ⟨.box, .vals [.int .i64 ((flat gs).getD (0 + (↑i : Int).toNat * 2) 0), .int .i64 ((flat gs).getD (0 + (↑i : Int).toNat * 2 + 1) 0)]⟩, some ⟨.row 44 2, .vals [.int .i64 (0), .int .i64 (0)]⟩, some ⟨.row 44 2, .ints (List.take (i * 2) (List.drop 0 (flat (List.take i gs))) ++ [0, 0])⟩, some ⟨.box, .vals [.int .i64 ((flat gs).getD (0 + (↑i : Int).toNat * 2) 0), .int .i64 ((flat gs).getD (0 + (↑i : Int).toNat * 2 + 1) 0)]⟩, some ⟨.box, .vals [.int .i64 (0), .int .i64 (0)]⟩]⟩))) (.need ((i + (1 : Nat)) * (16 : Nat) ≤ (140737488355328 : Nat) ∧ i + (1 : Nat) ≤ (1000000 : Nat)) (.need ((0 : Nat) + i * (2 : Nat) ≤ (flat (List.take i gs)).length) (.leaf .normal ⟨(.slice (some ⟨0, 0, none⟩) (gs.length) (gs.length) :: topV :: topV :: .slice (some ⟨4, 0, none⟩) (i + 1) (i + 1) :: topV :: topV :: topV :: topV :: topV :: topV :: topV :: topV :: .slice (some ⟨0, 0, none⟩) (gs.length) (gs.length) :: .int .i64 ((↑gs.length : Int)) :: .int .i64 (IntKind.i64.wrap ((↑i : Int) + 1)) :: topV :: topV :: topV :: topV :: topV :: topV :: topV :: topV :: topV :: topV :: topV :: topV :: topV :: topV :: topV :: topV :: topV :: topV :: topV :: topV :: topV :: topV :: topV :: topV :: topV :: topV :: topV :: topV :: []), [some ⟨.view, .ints (flat gs)⟩, some deadB, some ⟨.box, .vals [.int .i64 ((flat gs).getD (0 + (↑i : Int).toNat * 2) 0), .int .i64 ((flat gs).getD (0 + (↑i : Int).toNat * 2 + 1) 0)]⟩, some ⟨.row 44 2, .vals [.int .i64 ((flat gs).getD (0 + (↑i : Int).toNat * 2) 0), .int .i64 ((flat gs).getD (0 + (↑i : Int).toNat * 2 + 1) 0)]⟩, some ⟨.row 44 2, .ints (List.take (i * 2) (List.drop 0 (flat (List.take i gs))) ++ [(flat gs).getD (0 + (↑i : Int).toNat * 2) 0, (flat gs).getD (0 + (↑i : Int).toNat * 2 + 1) 0])⟩, some ⟨.box, .vals [.int .i64 ((flat gs).getD (0 + (↑i : Int).toNat * 2) 0), .int .i64 ((flat gs).getD (0 + (↑i : Int).toNat * 2 + 1) 0)]⟩, some ⟨.box, .vals [.int .i64 ((flat gs).getD (0 + (↑i : Int).toNat * 2) 0), .int .i64 ((flat gs).getD (0 + (↑i : Int).toNat * 2 + 1) 0)]⟩]⟩)))))) (.leaf (.exit 0) ⟨(.slice (some ⟨0, 0, none⟩) (gs.length) (gs.length) :: topV :: topV :: .slice (some ⟨1, 0, none⟩) (i) (i) :: topV :: topV :: topV :: topV :: topV :: topV :: topV :: topV :: topV :: topV :: topV :: topV :: topV :: topV :: topV :: topV :: topV :: topV :: topV :: topV :: topV :: topV :: topV :: topV :: topV :: topV :: topV :: topV :: topV :: topV :: topV :: topV :: topV :: topV :: topV :: topV :: topV :: topV :: topV :: []), [some ⟨.view, .ints (flat gs)⟩, some ⟨.row 44 2, .ints (flat (List.take i gs))⟩]⟩) := by kernel_rfl
set_option maxRecDepth 100000 in
theorem nl_iDu : loopsOf c_iDu = [] := by kernel_rfl
def inv_iDu (gs : List Pt) : Nat → Prop := fun i => i ≤ gs.length
def me_iDu (gs : List Pt) : Nat → Nat := fun i => gs.length - i
/-- A round of this loop. -/
def Round_iDu (gs : List Pt) : Prop := ∀ xx : Nat, inv_iDu gs xx → (bodyL Try.prog EUe 30 12 noL 1 c_iDu k_iDu 16 (s_iDu gs xx)).ok (RoundEnd 1 (s_iDu gs) (inv_iDu gs) (me_iDu gs) re_iDu (rs_iDu gs) xx) (fun _ _ => False)
def e_iDu (s : St) (k : Ex → St → Tree) : Option Tree := match Nat.beq s.tmps.length 43, pickL s.tmps [0, 3, 12, 13, 14], s.mem with
  | true, [.slice (some ⟨0, 0, none⟩) n _, .slice none 0 0, .slice (some ⟨0, 0, none⟩) n1 _, .int .i64 n2, .int .i64 ii], [some ⟨.view, .ints xs⟩] => some (needs [ii = 0, n1 = n, n2 = n, xs.length = n * 2, n ≤ 8, allV (ptsA n xs) = true] (k (.exit 0) ⟨(.slice (some ⟨0, 0, none⟩) n n :: topV :: topV :: .slice (some ⟨1, 0, none⟩) n n :: topV :: topV :: topV :: topV :: topV :: topV :: topV :: topV :: topV :: topV :: topV :: topV :: topV :: topV :: topV :: topV :: topV :: topV :: topV :: topV :: topV :: topV :: topV :: topV :: topV :: topV :: topV :: topV :: topV :: topV :: topV :: topV :: topV :: topV :: topV :: topV :: topV :: topV :: topV :: []), [some ⟨.view, .ints xs⟩, some ⟨.row 44 2, .ints xs⟩]⟩))
  | _, _, _ => none
set_option maxRecDepth 100000 in
theorem round_iDu (gs : List Pt) (h : gs.length ≤ 8) (hv : allV gs = true) : Round_iDu gs := by
  intro i h1
  have h1 : i ≤ gs.length := h1
  rw [tr_iDu]
  have fl := flat_length gs
  have lt : (gs.take i).length = i := by rw [List.length_take]; omega
  have ft := flat_length (gs.take i)
  refine brT_ok.2 ⟨fun hlt => ?_, fun hge => ?_⟩
  · have hlt := of_decide_eq_true hlt
    have hi : i < gs.length := by omega
    have hv1 := allV_atU hv hi
    have tk : gs.take (i + 1) = gs.take i ++ [gs.getD i (0, 0)] := by
      rw [List.take_add_one]
      simp [List.getD, hi]
    have fk : List.take (i * 2) (flat (gs.take i)) = flat (gs.take i) := List.take_of_length_le (by omega)
    rw [wsucc (n := gs.length) hi (by omega)]
    simp only [Int.toNat_natCast, Nat.zero_add, flat_get0, flat_get1, List.drop_zero, fk, flat_snoc, hv1, Bool.not_true, brT_f, Tree.ok]
    refine ⟨by omega, by omega, by omega, by omega, i + 1, [some 4], ?_, ?_, rfl, rfl, ?_⟩
    · show i + 1 ≤ gs.length; omega
    · show gs.length - (i + 1) < gs.length - i; omega
    · unfold s_iDu
      rw [tk]
      repeat' (first | exact True.intro | exact rfl | exact fun _ => rfl | (simp; done) | refine And.intro ?_ ?_)
  · have hge := of_decide_eq_false hge
    obtain rfl : i = gs.length := by omega
    refine ⟨rfl, [some 1], ?_⟩
    simp only [rs_iDu, List.take_length]
    repeat' (first | exact True.intro | exact rfl | exact fun _ => rfl | (simp; done) | refine And.intro ?_ ?_)
set_option maxRecDepth 100000 in
theorem lg_iDu : LoopE Try.prog e_iDu c_iDu := by
  intro s k t F H hlt ht
  unfold e_iDu at hlt
  split at hlt
  rotate_left
  · cases hlt
  rename_i hlen hpick hmem
  obtain ⟨tmps, mem⟩ := s
  simp only at hlen hpick hmem
  subst hmem
  obtain rfl := Option.some.inj hlt
  obtain ⟨⟨rfl, rfl, rfl, h1, h2, h3, _⟩, ht2⟩ := needs_ok ht
  clear ht hlt
  obtain ⟨gs, rfl, rfl⟩ := even_flat h1
  rw [ptsA_flat] at h3
  refine ⟨_, _, ht2, loop_run2 mixed EUe_ok (s_iDu gs) (inv_iDu gs) (me_iDu gs) re_iDu (rs_iDu gs) k_iDu (fun _ => rfl) (noLoops nl_iDu) (round_iDu gs h2 h3) (x := 0) (Nat.zero_le _) (π := [none]) rfl ?_⟩
  refine ⟨rfl, rfl, ?_, wvs_spread' [0, 3, 12, 13, 14] hlen rfl ?_⟩
  · repeat' (first | exact True.intro | exact rfl | exact wv_top _ _ | exact fun _ => rfl | assumption | exact Eq.symm (by assumption) | exact vI0 rfl | refine And.intro ?_ ?_)
  · rw [hpick]
    repeat' (first | exact True.intro | exact rfl | exact wv_top _ _ | exact fun _ => rfl | assumption | exact Eq.symm (by assumption) | exact vI0 rfl | refine And.intro ?_ ?_)
end Go.Proofs.Ytolodncpegajkab
