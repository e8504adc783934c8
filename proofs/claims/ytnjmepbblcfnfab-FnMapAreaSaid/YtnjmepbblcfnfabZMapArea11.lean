/-
  Texts that the proof needs, merged. Written by an AI agent.
-/
import Derived.Orders
import Derived.Below
import Derived.OrdersIn
import Derived.Deep.LoopGhost
import Derived.WalkKit
import Derived.Laws.CopyRow
import Derived.Laws.AppendOwn
import Derived.Laws.Slices
import Derived.Laws.MakeOwn
import Derived.Test.YtnjmepbblcfnfabRows
import Derived.ProofKit
import Derived.OpenShut
import Derived.Carry
import Derived.IntWalk
import Derived.Test.YtnjmepbblcfnfabProg
import Derived.WalkSpells
import Derived.WalkLawsBesides
import Derived.Lib.Hide
import Derived.Deep.QuietTactic
import Derived.BigQuiet
import Derived.KernelRfl
import Derived.Deep.RegionHeld3
import Derived.LoopTactic
import Derived.Laws.StructEq
import Derived.Laws.Tables
import Derived.RangeFuncNested
import Derived.RangeFuncLeaves
import Derived.Deep.Slices
import Derived.Deep.Fields
import Derived.ChangeSame
import Derived.Shelf.SlSortCmp.WholeK
import Derived.Sort.Grow
import Derived.Deep.DeepCutAuto
import Derived.Shelf.SlSortCmp.NoneTotal
import Derived.Test.YtnjmepbblcfnfabZMapArea10
namespace Go.Proofs.Ytnjmepbblcfnfab
set_option linter.all false
open Go.RowKit
theorem Lr_eqQ {fn : Func} (hf : Try.prog.funcs[37]? = some fn) : LoopsGood Try.prog (lt1 e_eqQ) 0 (codeOf fn) := by
  obtain rfl := fn_is Try.func37 hf
  exact lt1_good lg_eqQ
def LeqQ : FuncId → LT := fun f => match f with
  | 37 => lt1 e_eqQ
  | _ => noL
def EeqQ : Env := mkE B0 (fun _ _ => none) LeqQ
theorem EeqQ_ok : EnvOk Try.prog EeqQ := mkEOk B0_ok (fun _ _ _ _ _ h => (by cases h)) (by
  intro f fn hf
  unfold LeqQ
  split
  all_goals first | with_reducible exact Lr_eqQ hf | exact noL_good)
set_option maxRecDepth 100000 in
theorem tr_eqQF (ps : List Pt) : bodyV Try.prog EeqQ 30 12 37 [.row ps.length (.ints (flat ps)), .row ps.length (.ints (flat ps))] = brT (!(↑ps.length : Int) == (↑ps.length : Int)) (.fin (.bool (false)) []) (.need ((0 : Int) = (0 : Int)) (.need (ps.length = ps.length) (.need (flat ps = flat ps) (.need ((flat ps).length = ps.length * (2 : Nat)) (.need (ps.length ≤ (1000000000 : Nat)) (.fin (.bool (true)) [])))))) := by kernel_rfl
theorem res_eqQ (ps : List Pt) (h : Lim ps.length) : Res Try.prog 37 [.row ps.length (.ints (flat ps)), .row ps.length (.ints (flat ps))] (.bool true) := by
  refine bodyV_res mixed EeqQ_ok (m := 30) (n := 12) rfl ?_
  rw [tr_eqQF]
  simp [brT_ok, Tree.ok, flat_length]
  exact h
def pEqQ : List DArg → Option (Value × List Prop)
  | [.row n (.ints xs), .row m (.ints ys)] => some (.bool true, [n = m, xs = ys, xs.length = n * 2, Lim n])
  | _ => none
theorem pEqQ_ok {ds : List DArg} {v : Value} {C : List Prop} (h : pEqQ ds = some (v, C)) (hC : AllP C) : Res Try.prog 37 ds v := by
  unfold pEqQ at h
  split at h
  · obtain ⟨rfl, rfl⟩ : _ ∧ _ := by simpa using h
    obtain ⟨rfl, rfl, h1, h2, _⟩ := hC
    obtain ⟨ps, rfl, rfl⟩ := even_flat h1
    exact res_eqQ ps h2
  · cases h
def TLma : Tab := fun f ds => match f with
  | 37 => pEqQ ds
  | 50 => pDt ds
  | f => TBp f ds
theorem TLma_ok : TabOk Try.prog TLma := by
  intro f ds v C h hC
  unfold TLma at h
  (try split at h)
  all_goals first | with_reducible exact pEqQ_ok h hC | with_reducible exact pDt_i h | exact TBp_ok _ _ _ _ h hC
def RLma : TabR := fun f ds => match f, ds with
  | 47, [.row n (.bytes bs)] => some (dMdL bs (rdL n), dMdR bs (rdL n), [Bytes bs, n ≤ bs.length])
  | 49, [.v (.agg ⟨[.int .i64 a, .int .i64 b, .int .i64 c, .int .i64 d]⟩), .row m (.ints xs)] => some (rowBP (mpB a b c d (ptsA m xs)) (mpV a b c d (ptsA m xs)), ⟨.row 31 2, .ints (flat (mpV a b c d (ptsA m xs)))⟩, [m * 2 ≤ xs.length, m ≤ 1000000000])
  | 48, [.v (.agg ⟨[.int .i64 a, .int .i64 b, .int .i64 c, .int .i64 d]⟩), .row m (.ints xs)] => some (rowBP (mpB a b c d (ptsA m xs)) (mpV a b c d (ptsA m xs)), ⟨.row 31 2, .ints (flat (mpV a b c d (ptsA m xs)))⟩, [m * 2 ≤ xs.length, m ≤ 1000000000])
  | _, _ => none
theorem RLma_ok : TabROk Try.prog RLma := by
  intro f ds v b C h hC
  unfold RLma at h
  split at h
  · obtain ⟨rfl, rfl, rfl⟩ : _ ∧ _ ∧ _ := by simpa using h
    exact resR_dMd _ _ hC.1 hC.2.1
  · obtain ⟨rfl, rfl, rfl⟩ : _ ∧ _ ∧ _ := by simpa using h
    obtain ⟨_, h2⟩ := ptsA_spec hC.1
    exact resR_pts1 (pre := [_]) (post := []) hC.1 (resR_specMap _ _ _ _ _ (by unfold Big; rw [h2]; exact hC.2.1))
  · obtain ⟨rfl, rfl, rfl⟩ : _ ∧ _ ∧ _ := by simpa using h
    obtain ⟨_, h2⟩ := ptsA_spec hC.1
    exact resR_pts1 (pre := [_]) (post := []) hC.1 (resR_implMap _ _ _ _ _ (by unfold Big; rw [h2]; exact hC.2.1))
  · cases h
def ELma : Env := mkE TLma RLma (fun _ => noL)
theorem ELma_ok : EnvOk Try.prog ELma := mkEOk TLma_ok RLma_ok (fun _ _ _ => noL_good)
abbrev zlMa_0 (bs : List Int) := (mpV (rmE (List.drop (0 : Nat) bs) (rdL bs.length) (0 : Int) (0 : Nat)) (rmE (List.drop (0 : Nat) bs) (rdL bs.length) (0 : Int) (1 : Nat)) (rmE (List.drop (0 : Nat) bs) (rdL bs.length) (0 : Int) (2 : Nat)) (rmE (List.drop (0 : Nat) bs) (rdL bs.length) (0 : Int) (3 : Nat)) (ptsA (pgL (List.drop (0 : Nat) bs) (rdL bs.length) (rmP (List.drop (0 : Nat) bs) (rdL bs.length) (0 : Int))).length (List.drop (0 : Nat) (flat (pgL (List.drop (0 : Nat) bs) (rdL bs.length) (rmP (List.drop (0 : Nat) bs) (rdL bs.length) (0 : Int)))))))
abbrev zlMa_1 (bs : List Int) := (ptsA (pgL (List.drop 0 bs) (rdL bs.length) (rmP (List.drop 0 bs) (rdL bs.length) 0)).length (List.drop 0 (flat (pgL (List.drop 0 bs) (rdL bs.length) (rmP (List.drop 0 bs) (rdL bs.length) 0)))))
abbrev zlMa_2 (bs : List Int) := (pgL (List.drop (0 : Nat) bs) (rdL bs.length) (rmP (List.drop (0 : Nat) bs) (rdL bs.length) (0 : Int)))
abbrev zlMa_3 (bs : List Int) := (mpB (rmE (List.drop 0 bs) (rdL bs.length) 0 0) (rmE (List.drop 0 bs) (rdL bs.length) 0 1) (rmE (List.drop 0 bs) (rdL bs.length) 0 2) (rmE (List.drop 0 bs) (rdL bs.length) 0 3) (zlMa_1 bs) == mpB (rmE (List.drop 0 bs) (rdL bs.length) 0 0) (rmE (List.drop 0 bs) (rdL bs.length) 0 1) (rmE (List.drop 0 bs) (rdL bs.length) 0 2) (rmE (List.drop 0 bs) (rdL bs.length) 0 3) (zlMa_1 bs))
abbrev zlMa_4 (bs : List Int) := (mpV (rmE (List.drop 0 bs) (rdL bs.length) 0 0) (rmE (List.drop 0 bs) (rdL bs.length) 0 1) (rmE (List.drop 0 bs) (rdL bs.length) 0 2) (rmE (List.drop 0 bs) (rdL bs.length) 0 3) (zlMa_1 bs))
set_option maxRecDepth 100000 in
theorem tr_lMa (bs : List Int) : bodyV Try.prog ELma 30 12 11 [.row bs.length (.bytes bs)] = brT (decide (1048576 < (↑bs.length : Int))) (.fin (.bool (true)) []) (.need (Bytes (List.drop (0 : Nat) bs)) (.need (bs.length ≤ (List.drop (0 : Nat) bs).length) (.need ((zlMa_2 bs).length * (2 : Nat) ≤ (List.drop (0 : Nat) (flat (zlMa_2 bs))).length) (.need ((zlMa_2 bs).length ≤ (1000000000 : Nat)) (.need ((zlMa_2 bs).length * (2 : Nat) ≤ (List.drop (0 : Nat) (flat (zlMa_2 bs))).length) (.need ((zlMa_2 bs).length ≤ (1000000000 : Nat)) (.need ((zlMa_2 bs).length * (2 : Nat) ≤ (List.drop (0 : Nat) (flat (zlMa_2 bs))).length) (.need ((zlMa_2 bs).length ≤ (1000000000 : Nat)) (.need ((zlMa_2 bs).length * (2 : Nat) ≤ (List.drop (0 : Nat) (flat (zlMa_2 bs))).length) (.need ((zlMa_2 bs).length ≤ (1000000000 : Nat)) (brT (!daV (zlMa_1 bs) == daV (zlMa_1 bs)) (.need ((zlMa_2 bs).length * (2 : Nat) ≤ (List.drop (0 : Nat) (flat (zlMa_2 bs))).length) (.need ((zlMa_2 bs).length ≤ (1000000000 : Nat)) (brT (daV (zlMa_1 bs) == daV (zlMa_1 bs)) (brT (zlMa_3 bs) (.need ((zlMa_0 bs).length = (zlMa_0 bs).length) (.need (List.drop (0 : Nat) (flat (zlMa_0 bs)) = List.drop (0 : Nat) (flat (zlMa_0 bs))) (.need ((List.drop (0 : Nat) (flat (zlMa_0 bs))).length = (zlMa_0 bs).length * (2 : Nat)) (.need (Lim (zlMa_0 bs).length) (.fin (.bool (true)) []))))) (.fin (.bool (false)) [])) (.fin (.bool (false)) [])))) (brT (!mpB (rmE (List.drop 0 bs) (rdL bs.length) 0 0) (rmE (List.drop 0 bs) (rdL bs.length) 0 1) (rmE (List.drop 0 bs) (rdL bs.length) 0 2) (rmE (List.drop 0 bs) (rdL bs.length) 0 3) (zlMa_1 bs) == mpB (rmE (List.drop 0 bs) (rdL bs.length) 0 0) (rmE (List.drop 0 bs) (rdL bs.length) 0 1) (rmE (List.drop 0 bs) (rdL bs.length) 0 2) (rmE (List.drop 0 bs) (rdL bs.length) 0 3) (zlMa_1 bs)) (.need ((zlMa_2 bs).length * (2 : Nat) ≤ (List.drop (0 : Nat) (flat (zlMa_2 bs))).length) (.need ((zlMa_2 bs).length ≤ (1000000000 : Nat)) (brT (daV (zlMa_1 bs) == daV (zlMa_1 bs)) (brT (zlMa_3 bs) (.need ((zlMa_0 bs).length = (zlMa_0 bs).length) (.need (List.drop (0 : Nat) (flat (zlMa_0 bs)) = List.drop (0 : Nat) (flat (zlMa_0 bs))) (.need ((List.drop (0 : Nat) (flat (zlMa_0 bs))).length = (zlMa_0 bs).length * (2 : Nat)) (.need (Lim (zlMa_0 bs).length) (.fin (.bool (true)) []))))) (.fin (.bool (false)) [])) (.fin (.bool (false)) [])))) (.need ((zlMa_0 bs).length = (zlMa_0 bs).length) (.need (List.drop (0 : Nat) (flat (zlMa_0 bs)) = List.drop (0 : Nat) (flat (zlMa_0 bs))) (.need ((List.drop (0 : Nat) (flat (zlMa_0 bs))).length = (zlMa_0 bs).length * (2 : Nat)) (.need (Lim (zlMa_0 bs).length) (brT (!mpB (rmE (List.drop 0 bs) (rdL bs.length) 0 0) (rmE (List.drop 0 bs) (rdL bs.length) 0 1) (rmE (List.drop 0 bs) (rdL bs.length) 0 2) (rmE (List.drop 0 bs) (rdL bs.length) 0 3) (zlMa_1 bs)) (.need ((zlMa_2 bs).length * (2 : Nat) ≤ (List.drop (0 : Nat) (flat (zlMa_2 bs))).length) (.need ((zlMa_2 bs).length ≤ (1000000000 : Nat)) (brT (daV (zlMa_1 bs) == daV (zlMa_1 bs)) (brT (zlMa_3 bs) (.need ((zlMa_0 bs).length = (zlMa_0 bs).length) (.need (List.drop (0 : Nat) (flat (zlMa_0 bs)) = List.drop (0 : Nat) (flat (zlMa_0 bs))) (.need ((List.drop (0 : Nat) (flat (zlMa_0 bs))).length = (zlMa_0 bs).length * (2 : Nat)) (.need (Lim (zlMa_0 bs).length) (.fin (.bool (true)) []))))) (.fin (.bool (false)) [])) (.fin (.bool (false)) [])))) (brT (daV (zlMa_1 bs) == 0) (.need ((zlMa_2 bs).length * (2 : Nat) ≤ (List.drop (0 : Nat) (flat (zlMa_2 bs))).length) (.need ((zlMa_2 bs).length ≤ (1000000000 : Nat)) (brT (daV (zlMa_1 bs) == daV (zlMa_1 bs)) (brT (zlMa_3 bs) (.need ((zlMa_0 bs).length = (zlMa_0 bs).length) (.need (List.drop (0 : Nat) (flat (zlMa_0 bs)) = List.drop (0 : Nat) (flat (zlMa_0 bs))) (.need ((List.drop (0 : Nat) (flat (zlMa_0 bs))).length = (zlMa_0 bs).length * (2 : Nat)) (.need (Lim (zlMa_0 bs).length) (.fin (.bool (true)) []))))) (.fin (.bool (false)) [])) (.fin (.bool (false)) [])))) (brT (dtR (rmE (List.drop 0 bs) (rdL bs.length) 0 0) (rmE (List.drop 0 bs) (rdL bs.length) 0 1) (rmE (List.drop 0 bs) (rdL bs.length) 0 2) (rmE (List.drop 0 bs) (rdL bs.length) 0 3) == 0) (.need ((zlMa_2 bs).length * (2 : Nat) ≤ (List.drop (0 : Nat) (flat (zlMa_2 bs))).length) (.need ((zlMa_2 bs).length ≤ (1000000000 : Nat)) (brT (daV (zlMa_1 bs) == daV (zlMa_1 bs)) (brT (zlMa_3 bs) (.need ((zlMa_0 bs).length = (zlMa_0 bs).length) (.need (List.drop (0 : Nat) (flat (zlMa_0 bs)) = List.drop (0 : Nat) (flat (zlMa_0 bs))) (.need ((List.drop (0 : Nat) (flat (zlMa_0 bs))).length = (zlMa_0 bs).length * (2 : Nat)) (.need (Lim (zlMa_0 bs).length) (.fin (.bool (true)) []))))) (.fin (.bool (false)) [])) (.fin (.bool (false)) [])))) (.need ((zlMa_0 bs).length * (2 : Nat) ≤ (List.drop (0 : Nat) (flat (zlMa_0 bs))).length) (.need ((zlMa_0 bs).length ≤ (1000000000 : Nat)) (brT (issI (ptsA (zlMa_4 bs).length (List.drop 0 (flat (zlMa_4 bs))))) (.need ((zlMa_0 bs).length * (2 : Nat) ≤ (List.drop (0 : Nat) (flat (zlMa_0 bs))).length) (.need ((zlMa_0 bs).length ≤ (1000000000 : Nat)) (.fin (.bool (daV (ptsA (zlMa_4 bs).length (List.drop 0 (flat (zlMa_4 bs)))) == IntKind.i64.wrap (dtR (rmE (List.drop 0 bs) (rdL bs.length) 0 0) (rmE (List.drop 0 bs) (rdL bs.length) 0 1) (rmE (List.drop 0 bs) (rdL bs.length) 0 2) (rmE (List.drop 0 bs) (rdL bs.length) 0 3) * daV (zlMa_1 bs)))) []))) (.fin (.bool (false)) []))))))))))))))))))))))) := by kernel_rfl
theorem mpB_is {a b c d : Int} {ps : List Pt} (h : mpB a b c d ps = true) : mtB a b c d = true ∧ allV ps = true ∧ ps.length ≤ 20 ∧ mpV a b c d ps = liL a b c d ps ∧ allV (liL a b c d ps) = true := by
  have e : mpV a b c d ps = liL a b c d ps := by unfold mpV; rw [h]; rfl
  unfold mpB okL at h
  simp only [Bool.and_eq_true, decide_eq_true_eq] at h
  exact ⟨h.1.1, h.1.2.1, h.1.2.2, e, h.2⟩
theorem mpV_len (a b c d : Int) (ps : List Pt) : (mpV a b c d ps).length ≤ 20 := by
  cases h : mpB a b c d ps
  · unfold mpV; rw [h]; exact Nat.zero_le _
  · obtain ⟨_, _, h2, e, _⟩ := mpB_is h
    rw [e, liL_len]
    exact h2
theorem area_li {a b c d : Int} {ps : List Pt} (h : mpB a b c d ps = true) (hn : daV ps ≠ 0) (hd : dtR a b c d ≠ 0) : issI (mpV a b c d ps) = true ∧ daV (mpV a b c d ps) = dtR a b c d * daV ps := by
  obtain ⟨h1, h2, h3, e, h5⟩ := mpB_is h
  have hs : issI ps = true := by
    cases g : issI ps
    · exact absurd (by unfold daV; rw [g]; rfl) hn
    · rfl
  have ed : dtR a b c d = a * d - b * c := by unfold dtR; rw [h1]; rfl
  rw [ed] at hd ⊢
  have hq : issI (liL a b c d ps) = true := by rw [issI_li hd h2 h5]; exact hs
  rw [e]
  refine ⟨hq, ?_⟩
  unfold daV
  rw [hq, hs, cond_true, cond_true, liL_len, sgA_li]
set_option maxRecDepth 100000 in
theorem law_ma (bs : List Int) (hb : Bytes bs) (_ : bs.length ≤ maxLen) : Res Try.prog 11 [.row bs.length (.bytes bs)] (.bool true) := by
  refine bodyV_res mixed ELma_ok (m := 30) (n := 12) rfl ?_
  rw [tr_lMa]
  try delta zB2 zB4 zR2 zI zlMa_0 zlMa_1 zlMa_2 zlMa_3 zlMa_4
  simp only [List.drop_zero, ptsA_flat, flat_length]
  obtain ⟨_, _, _, hL⟩ := dqKey hb (Nat.le_refl _) (l := rdL bs.length) (by unfold rdL; omega) (by unfold rdL; omega)
  generalize pgL bs (rdL bs.length) (rmP bs (rdL bs.length) 0) = ps at *
  generalize rmE bs (rdL bs.length) 0 0 = a
  generalize rmE bs (rdL bs.length) 0 1 = b
  generalize rmE bs (rdL bs.length) 0 2 = c
  generalize rmE bs (rdL bs.length) 0 3 = d
  have hl : ps.length ≤ 1000000000 := by omega
  have l1 := mpV_len a b c d ps
  have l2 : (mpV a b c d ps).length ≤ 1000000000 := by omega
  have l3 : Lim (mpV a b c d ps).length := l2
  rcases cl_or ((1048576 : Int) < bs.length) with cl | cl
  · rw [cl]
    exact rfl
  rw [cl]
  have nb : ∀ x : Bool, negB true (x == x) = false := by decide
  have nb2 : ∀ x : Bool, negB false (x == x) = true := by decide
  have nc : ∀ x : Bool, (x == x) = true := by decide
  have ap := area_li (a := a) (b := b) (c := c) (d := d) (ps := ps)
  have mi := mpB_is (a := a) (b := b) (c := c) (d := d) (ps := ps)
  have fn : ∀ {t : Tree}, (brT true t (.fin (.bool false) [])) = t := rfl
  rcases hB : mpB a b c d ps with _ | _
  · simp only [beq_self_eq_true, Bool.not_true, Bool.not_false, nb, nb2, nc, brT_t, brT_f, Tree.ok]
    repeat' (first | exact hb | exact hl | exact l2 | exact l3 | exact rfl | exact True.intro | omega | refine And.intro ?_ ?_)
  by_cases hn : daV ps = 0
  · simp only [hn, beq_self_eq_true, Bool.not_true, Bool.not_false, nb, nb2, nc, brT_t, brT_f, Tree.ok]
    repeat' (first | exact hb | exact hl | exact l2 | exact l3 | exact rfl | exact True.intro | omega | refine And.intro ?_ ?_)
  have hn0 : (daV ps == 0) = false := beq_eq_false_iff_ne.2 hn
  by_cases hd : dtR a b c d = 0
  · simp only [hn0, hd, beq_self_eq_true, Bool.not_true, Bool.not_false, nb, nb2, nc, brT_t, brT_f, Tree.ok]
    repeat' (first | exact hb | exact hl | exact l2 | exact l3 | exact rfl | exact True.intro | omega | refine And.intro ?_ ?_)
  have hd0 : (dtR a b c d == 0) = false := beq_eq_false_iff_ne.2 hd
  obtain ⟨s1, s2⟩ := ap hB hn hd
  obtain ⟨m1, _⟩ := mi hB
  obtain ⟨a1, b1, c1, d1⟩ := mtB_is m1
  obtain ⟨p1, p2⟩ := prods a1 d1 b1 c1
  have ed : dtR a b c d = a * d - b * c := by unfold dtR; rw [m1]; rfl
  have hs : issI ps = true := by
    cases g : issI ps
    · exact absurd (by unfold daV; rw [g]; rfl) hn
    · rfl
  have pf := (pick_fact hs).2.2.2
  have pm := mul_bd (x := dtR a b c d) (y := daV ps) 2000000 40000000 (by omega) pf
  have hw : IntKind.i64.wrap (dtR a b c d * daV ps) = dtR a b c d * daV ps := wr (by omega)
  rw [hw, s2]
  simp only [hn0, hd0, s1, beq_self_eq_true, Bool.not_true, Bool.not_false, nb, nb2, nc, brT_t, brT_f, Tree.ok]
  repeat' (first | exact hb | exact hl | exact l2 | exact l3 | exact rfl | exact True.intro | omega | refine And.intro ?_ ?_)
end Go.Proofs.Ytnjmepbblcfnfab
