/-
  TotalLength, both ways; the exact law. Written by an AI agent.
-/
import Derived.Test.YtfjcbindeimoiabTl
namespace Go.Proofs.Ytfjcbindeimoiab
open Go.RowKit

theorem Lr_toPr {fn : Func} (hf : Try.prog.funcs[31]? = some fn) : LoopsGood Try.prog (lt1 e_toPr) 0 (codeOf fn) := by
  obtain rfl := fn_is Try.func31 hf
  exact lt1_good lg_toPr
theorem Lr_eqPr {fn : Func} (hf : Try.prog.funcs[33]? = some fn) : LoopsGood Try.prog (lt1 e_eqPr) 0 (codeOf fn) := by
  obtain rfl := fn_is Try.func33 hf
  exact lt1_good lg_eqPr
theorem Lr_sTl {fn : Func} (hf : Try.prog.funcs[30]? = some fn) : LoopsGood Try.prog (lt1 e_sTl) 0 (codeOf fn) := by
  obtain rfl := fn_is Try.func30 hf
  exact lt1_good lg_sTl
theorem Lr_aEd {fn : Func} (hf : Try.prog.funcs[82]? = some fn) : LoopsGood Try.prog (lt1 e_aEd) 0 (codeOf fn) := by
  obtain rfl := fn_is Try.func82 hf
  exact lt1_good lg_aEd
def LTl : FuncId → LT := fun f => match f with
  | 31 => lt1 e_toPr
  | 33 => lt1 e_eqPr
  | 30 => lt1 e_sTl
  | 82 => lt1 e_aEd
  | _ => noL
def ETl1 : Env := mkE TTl (fun _ _ => none) LTl
theorem ETl1_ok : EnvOk Try.prog ETl1 := mkEOk TTl_ok (fun _ _ _ _ _ h => (by cases h)) (by
  intro f fn hf
  unfold LTl
  split
  all_goals first | with_reducible exact Lr_toPr hf | with_reducible exact Lr_eqPr hf | with_reducible exact Lr_sTl hf | with_reducible exact Lr_aEd hf | exact noL_good)
set_option maxRecDepth 100000 in
theorem tr_toPrF (ps : List Pt) : bodyX Try.prog ETl1 30 12 31 [.row ps.length (.ints (flat ps))] = .need ((0 : Int) ≤ (↑ps.length : Int) ∧ (↑ps.length : Int) ≤ (↑ps.length : Int) ∧ (16 : Nat) * (↑ps.length : Int).toNat ≤ (281474976710656 : Nat) ∧ (↑ps.length : Int) ≤ (9223372036854775807 : Int)) (.need ((0 : Int) = (0 : Int)) (.need ((↑ps.length : Int).toNat = ps.length) (.need ((flat ps).length = ps.length * (2 : Nat)) (.need ((List.replicate ((↑ps.length : Int).toNat * (2 : Nat)) (0 : Int)).length = ps.length * (2 : Nat)) (.need (ps.length ≤ (1000000000 : Nat)) (.fin (.slice (some ⟨1, 0, none⟩) ((↑ps.length : Int).toNat) ((↑ps.length : Int).toNat)) [some ⟨.view, .ints (flat ps)⟩, some ⟨.row 107 2, .ints (flat ps)⟩])))))) := by kernel_rfl
set_option maxRecDepth 100000 in
theorem tr_eqPrF (ps : List Pt) : bodyV Try.prog ETl1 30 12 33 [.row ps.length (.ints (flat ps)), .row ps.length (.ints (flat ps))] = brT (!(↑ps.length : Int) == (↑ps.length : Int)) (.fin (.bool (false)) []) (.need ((0 : Int) = (0 : Int)) (.need (ps.length = ps.length) (.need (flat ps = flat ps) (.need ((flat ps).length = ps.length * (2 : Nat)) (.need (ps.length ≤ (1000000000 : Nat)) (.fin (.bool (true)) [])))))) := by kernel_rfl
set_option maxRecDepth 100000 in
theorem tr_sTlF (ps es : List Pt) : bodyV Try.prog ETl1 30 12 30 [.row ps.length (.ints (flat ps)), .row es.length (.ints (flat es))] = .need (ps.length * (2 : Nat) ≤ (List.drop (0 : Nat) (flat ps)).length) (.need (ps.length ≤ (1000000000 : Nat)) (brT (!okL (ptsA ps.length (List.drop 0 (flat ps)))) (.fin (.int .i64 (-1)) []) (brT (decide (20 < (↑es.length : Int))) (.fin (.int .i64 (-1)) []) (.need ((0 : Int) = (0 : Int)) (.need ((0 : Int) = (0 : Int)) (.need ((flat ps).length = ps.length * (2 : Nat)) (.need ((flat es).length = es.length * (2 : Nat)) (.need (ps.length ≤ (20 : Nat)) (.need (es.length ≤ (20 : Nat)) (.need (allV (ptsA ps.length (flat ps)) = true) (brT (evA ps.length (ptsA es.length (flat es))) (.fin (.int .i64 (0 + tlS (ptsA ps.length (flat ps)) (ptsA es.length (flat es)))) []) (.fin (.int .i64 (-1)) [])))))))))))) := by kernel_rfl
set_option maxRecDepth 100000 in
theorem tr_aEdF (ps es : List Pt) : bodyV Try.prog ETl1 30 12 82 [.row ps.length (.ints (flat ps)), .row es.length (.ints (flat es))] = .need ((0 : Int) = (0 : Int)) (.need ((↑es.length : Int) = (↑es.length : Int)) (.need ((flat ps).length = ps.length * (2 : Nat)) (.need ((flat es).length = es.length * (2 : Nat)) (.need (ps.length ≤ (20 : Nat)) (.need (es.length ≤ (20 : Nat)) (brT (evA ps.length (ptsA es.length (flat es))) (.fin (.bool (true)) []) (.fin (.bool (false)) []))))))) := by kernel_rfl
theorem resR_toPr (ps : List Pt) (h : Big ps) : ResR Try.prog 31 [.row ps.length (.ints (flat ps))] (.slice (some ⟨0, 0, none⟩) ps.length ps.length) ⟨.row 107 2, .ints (flat ps)⟩ := by
  refine bodyX_resR mixed ETl1_ok (m := 30) (n := 12) rfl ?_
  rw [tr_toPrF]
  unfold Big at h
  simp only [Tree.ok, flat_length, Int.toNat_natCast, List.length_replicate]
  exact ⟨by omega, trivial, trivial, trivial, trivial, h, some 1, ⟨rfl, rfl, rfl⟩, rfl, rfl, rfl⟩
theorem res_eqPr (ps : List Pt) (h : Big ps) : Res Try.prog 33 [.row ps.length (.ints (flat ps)), .row ps.length (.ints (flat ps))] (.bool true) := by
  refine bodyV_res mixed ETl1_ok (m := 30) (n := 12) rfl ?_
  rw [tr_eqPrF]
  unfold Big at h
  simp [brT_ok, Tree.ok, flat_length, h]
/-- What TotalLength answers. -/
def tlV (ps es : List Pt) : Int := bif okL ps && decide (es.length ≤ 20) && evA ps.length es then tlS ps es else -1
theorem res_sTl (ps es : List Pt) (h : Big ps) : Res Try.prog 30 [.row ps.length (.ints (flat ps)), .row es.length (.ints (flat es))] (iv (tlV ps es)) := by
  refine bodyV_res mixed ETl1_ok (m := 30) (n := 12) rfl ?_
  rw [tr_sTlF]
  unfold Big at h
  simp only [List.drop_zero, ptsA_flat, flat_length, Int.zero_add]
  unfold tlV
  rcases hk : okL ps with _ | _
  · simp [brT_ok, Tree.ok, h]
  have ho : allV ps = true ∧ ps.length ≤ 20 := by simpa [okL] using hk
  by_cases hl : es.length ≤ 20
  · have hl2 : ¬ (20 : Int) < es.length := by omega
    rw [decide_eq_true hl, decide_eq_false hl2]
    cases evA ps.length es <;> simp [brT, Tree.ok, h, ho, hl]
  · have hl2 : (20 : Int) < es.length := by omega
    rw [decide_eq_false hl, decide_eq_true hl2]
    simp [brT, Tree.ok, h]
theorem res_aEd (ps es : List Pt) (h : ps.length ≤ 20) (h2 : es.length ≤ 20) : Res Try.prog 82 [.row ps.length (.ints (flat ps)), .row es.length (.ints (flat es))] (.bool (evA ps.length es)) := by
  refine bodyV_res mixed ETl1_ok (m := 30) (n := 12) rfl ?_
  rw [tr_aEdF]
  simp only [List.drop_zero, ptsA_flat, flat_length]
  cases evA ps.length es <;> simp [brT, Tree.ok, h, h2]
def pAe : List DArg → Option (Value × List Prop)
  | [.row n (.ints xs), .row m (.ints ys)] => some (.bool (evA n (ptsA m ys)), [n * 2 ≤ xs.length, m * 2 ≤ ys.length, n ≤ 20, m ≤ 20])
  | _ => none
theorem pAe_ok {ds : List DArg} {v : Value} {C : List Prop} (h : pAe ds = some (v, C)) (hC : AllP C) : Res Try.prog 82 ds v := by
  unfold pAe at h
  split at h
  · rename_i n xs m ys
    obtain ⟨rfl, rfl⟩ : _ ∧ _ := by simpa using h
    obtain ⟨c1, c2, c3, c4, _⟩ := hC
    obtain ⟨_, h2⟩ := ptsA_spec c1
    obtain ⟨_, h3⟩ := ptsA_spec c2
    have h0 := res_aEd (ptsA n xs) (ptsA m ys) (by omega) (by omega)
    have h1 := res_pts1 (pre := []) (post := [_]) c1 (res_pts1 (pre := [_]) (post := []) c2 h0)
    rw [h2] at h1
    exact h1
  · cases h
def TTl2 : Tab := fun f ds => match f with
  | 82 => pAe ds
  | f => TTl f ds
theorem TTl2_ok : TabOk Try.prog TTl2 := by
  intro f ds v C h hC
  unfold TTl2 at h
  split at h
  all_goals first | with_reducible exact pAe_ok h hC | exact TTl_ok _ _ _ _ h hC
def ETl2 : Env := mkE TTl2 (fun _ _ => none) (fun _ => noL)
theorem ETl2_ok : EnvOk Try.prog ETl2 := mkEOk TTl2_ok (fun _ _ _ _ _ h => (by cases h)) (fun _ _ _ => noL_good)
noncomputable def c_iTl : Code := ((loopsOf (codeOf Try.f32))[0]?).getD .skip
def k_iTl : Ex → List Nat := keeps [0, 5, 22, 23, 24] [(0, [5])] [4]
def s_iTl (ps es : List Pt) : Nat × Int → St := fun (i, c) => ⟨(.slice (some ⟨0, 0, none⟩) ps.length ps.length :: topV :: topV :: topV :: topV :: .int .i64 c :: topV :: topV :: topV :: topV :: topV :: topV :: topV :: topV :: topV :: topV :: topV :: topV :: topV :: topV :: topV :: topV :: .slice (some ⟨1, 0, none⟩) es.length es.length :: .int .i64 es.length :: .int .i64 i :: topV :: topV :: topV :: topV :: topV :: topV :: topV :: topV :: topV :: topV :: []), [some ⟨.view, .ints (flat ps)⟩, some ⟨.view, .ints (flat es)⟩]⟩
def re_iTl : Nat × Int → Ex := fun _ => .exit 0
def rs_iTl (ps es : List Pt) : Nat × Int → St := fun (i, c) => ⟨(topV :: topV :: topV :: topV :: topV :: .int .i64 (c + tlS ps (es.drop i)) :: topV :: topV :: topV :: topV :: topV :: topV :: topV :: topV :: topV :: topV :: topV :: topV :: topV :: topV :: topV :: topV :: topV :: topV :: topV :: topV :: topV :: topV :: topV :: topV :: topV :: topV :: topV :: topV :: topV :: []), [some ⟨.view, .ints (flat ps)⟩, some ⟨.view, .ints (flat es)⟩]⟩
set_option maxRecDepth 100000 in
theorem tr_iTl (ps es : List Pt) (i : Nat) (c : Int) : bodyL Try.prog ETl2 30 12 noL 1 c_iTl k_iTl 2 (s_iTl ps es (i, c)) = brT (decide ((↑i : Int) < (↑es.length : Int))) (.need ((0 : Int) ≤ (↑i : Int) ∧ (↑i : Int) < (↑es.length : Int)) (.need ((0 : Nat) + (↑i : Int).toNat * (2 : Nat) + (2 : Nat) ≤ (flat es).length) (.need ((0 : Int) ≤ (flat es).getD ((0 : Nat) + (↑i : Int).toNat * (2 : Nat)) (0 : Int) ∧ (flat es).getD ((0 : Nat) + (↑i : Int).toNat * (2 : Nat)) (0 : Int) < (↑ps.length : Int)) (.need ((0 : Nat) + ((flat es).getD ((0 : Nat) + (↑i : Int).toNat * (2 : Nat)) (0 : Int)).toNat * (2 : Nat) + (2 : Nat) ≤ (flat ps).length) (.need ((0 : Int) ≤ (flat es).getD ((0 : Nat) + (↑i : Int).toNat * (2 : Nat) + (1 : Nat)) (0 : Int) ∧ (flat es).getD ((0 : Nat) + (↑i : Int).toNat * (2 : Nat) + (1 : Nat)) (0 : Int) < (↑ps.length : Int)) (.need ((0 : Nat) + ((flat es).getD ((0 : Nat) + (↑i : Int).toNat * (2 : Nat) + (1 : Nat)) (0 : Int)).toNat * (2 : Nat) + (2 : Nat) ≤ (flat ps).length) (.leaf .normal ⟨(.slice (some ⟨0, 0, none⟩) (ps.length) (ps.length) :: topV :: topV :: topV :: topV :: .int .i64 (IntKind.i64.wrap (c + mhR ((flat ps).getD (0 + ((flat es).getD (0 + (↑i : Int).toNat * 2) 0).toNat * 2) 0) ((flat ps).getD (0 + ((flat es).getD (0 + (↑i : Int).toNat * 2) 0).toNat * 2 + 1) 0) ((flat ps).getD (0 + ((flat es).getD (0 + (↑i : Int).toNat * 2 + 1) 0).toNat * 2) 0) ((flat ps).getD (0 + ((flat es).getD (0 + (↑i : Int).toNat * 2 + 1) 0).toNat * 2 + 1) 0))) :: topV :: topV :: topV :: topV :: topV :: topV :: topV :: topV :: topV :: topV :: topV :: topV :: topV :: topV :: topV :: topV :: .slice (some ⟨1, 0, none⟩) (es.length) (es.length) :: .int .i64 ((↑es.length : Int)) :: .int .i64 (IntKind.i64.wrap ((↑i : Int) + 1)) :: topV :: topV :: topV :: topV :: topV :: topV :: topV :: topV :: topV :: topV :: []), [some ⟨.view, .ints (flat ps)⟩, some ⟨.view, .ints (flat es)⟩]⟩))))))) (.leaf (.exit 0) ⟨(topV :: topV :: topV :: topV :: topV :: .int .i64 (c) :: topV :: topV :: topV :: topV :: topV :: topV :: topV :: topV :: topV :: topV :: topV :: topV :: topV :: topV :: topV :: topV :: topV :: topV :: topV :: topV :: topV :: topV :: topV :: topV :: topV :: topV :: topV :: topV :: topV :: []), [some ⟨.view, .ints (flat ps)⟩, some ⟨.view, .ints (flat es)⟩]⟩) := by kernel_rfl
set_option maxRecDepth 100000 in
theorem nl_iTl : loopsOf c_iTl = [] := by kernel_rfl
def inv_iTl (ps es : List Pt) : Nat × Int → Prop := fun (i, c) => i ≤ es.length ∧ 0 ≤ c ∧ c ≤ 4000 * i
def me_iTl (ps es : List Pt) : Nat × Int → Nat := fun (i, c) => es.length - i
/-- A round of this loop. -/
def Round_iTl (ps es : List Pt) : Prop := ∀ xx : Nat × Int, inv_iTl ps es xx → (bodyL Try.prog ETl2 30 12 noL 1 c_iTl k_iTl 2 (s_iTl ps es xx)).ok (RoundEnd 2 (s_iTl ps es) (inv_iTl ps es) (me_iTl ps es) re_iTl (rs_iTl ps es) xx) (fun _ _ => False)
def e_iTl (s : St) (k : Ex → St → Tree) : Option Tree := match Nat.beq s.tmps.length 35, pickL s.tmps [0, 5, 22, 23, 24], s.mem with
  | true, [.slice (some ⟨0, 0, none⟩) n _, .int .i64 cc, .slice (some ⟨1, 0, none⟩) m _, .int .i64 l, .int .i64 ii], [some ⟨.view, .ints xs⟩, some ⟨.view, .ints ys⟩] => some (needs [ii = 0, cc = 0, l = m, xs.length = n * 2, ys.length = m * 2, n ≤ 20, m ≤ 20, allV (ptsA n xs) = true, evA n (ptsA m ys) = true] (k (.exit 0) ⟨(topV :: topV :: topV :: topV :: topV :: .int .i64 (0 + tlS (ptsA n xs) (ptsA m ys)) :: topV :: topV :: topV :: topV :: topV :: topV :: topV :: topV :: topV :: topV :: topV :: topV :: topV :: topV :: topV :: topV :: topV :: topV :: topV :: topV :: topV :: topV :: topV :: topV :: topV :: topV :: topV :: topV :: topV :: []), [some ⟨.view, .ints xs⟩, some ⟨.view, .ints ys⟩]⟩))
  | _, _, _ => none
theorem mhR_edL {ps : List Pt} (hv : allV ps = true) (e : Pt) : mhR (ps.getD e.1.toNat (0, 0)).1 (ps.getD e.1.toNat (0, 0)).2 (ps.getD e.2.toNat (0, 0)).1 (ps.getD e.2.toNat (0, 0)).2 = edL ps e := by
  have a := allV_get hv e.1.toNat
  have b := allV_get hv e.2.toNat
  have p1 : ptB (ps.getD e.1.toNat (0, 0)).1 (ps.getD e.1.toNat (0, 0)).2 = true := by simpa [ptB, and_assoc] using a
  have p2 : ptB (ps.getD e.2.toNat (0, 0)).1 (ps.getD e.2.toNat (0, 0)).2 = true := by simpa [ptB, and_assoc] using b
  unfold mhR
  rw [p1, p2]
  rfl
set_option maxRecDepth 100000 in
theorem round_iTl (ps es : List Pt) (h : ps.length ≤ 20) (hm : es.length ≤ 20) (hv : allV ps = true) (hA : evA ps.length es = true) : Round_iTl ps es := by
  rintro ⟨i, c⟩ ⟨h1, h2, h3⟩
  rw [tr_iTl]
  simp only [brT_ok, Tree.ok, decide_eq_true_eq, decide_eq_false_iff_not, Int.toNat_natCast, Nat.zero_add, Nat.add_zero, flat_length, flat_get0, flat_get1, mhR_edL hv]
  refine ⟨fun hlt => ?_, fun hge => ?_⟩
  · rw [wsucc (n := es.length) (by omega) (by omega)]
    have bl := edL_bd hv (es.getD i (0, 0))
    have w : IntKind.i64.wrap (c + edL ps (es.getD i (0, 0))) = c + edL ps (es.getD i (0, 0)) := wr (by omega)
    have hi : i < es.length := by omega
    have ve : evB ps.length (es.getD i (0, 0)) = true := List.all_eq_true.1 hA _ (by simp [hi])
    simp only [evB, Bool.and_eq_true, decide_eq_true_eq] at ve
    have st := tlS_step (ps := ps) (es := es) (i := i) (by omega)
    rw [w]
    repeat refine And.intro (by first | omega | exact ⟨by omega, by omega⟩) ?_
    refine ⟨(i + 1, c + edL ps (es.getD i (0, 0))), [], ⟨by omega, by omega, by omega⟩, ?_, rfl, by simp only [rs_iTl, st, Int.add_assoc], ?_⟩
    · show es.length - (i + 1) < es.length - i; omega
    · repeat' (first | exact True.intro | exact rfl | exact fun _ => rfl | refine And.intro ?_ ?_)
  · refine ⟨rfl, [], ?_⟩
    simp only [rs_iTl, tlS_end (ps := ps) (es := es) (i := i) (by omega), Int.add_zero]
    repeat' (first | exact True.intro | exact rfl | exact fun _ => rfl | refine And.intro ?_ ?_)
set_option maxRecDepth 100000 in
theorem lg_iTl : LoopE Try.prog e_iTl c_iTl := by
  intro s k t F H hlt ht
  unfold e_iTl at hlt
  split at hlt
  rotate_left
  · cases hlt
  rename_i hlen hpick hmem
  obtain ⟨tmps, mem⟩ := s
  simp only at hlen hpick hmem
  subst hmem
  obtain rfl := Option.some.inj hlt
  obtain ⟨⟨rfl, rfl, rfl, h1, h2, h3, h4, h5, h6, _⟩, ht2⟩ := needs_ok ht
  clear ht hlt
  obtain ⟨ps, rfl, rfl⟩ := even_flat h1
  obtain ⟨es, rfl, rfl⟩ := even_flat h2
  rw [ptsA_flat] at h5 h6
  rw [ptsA_flat, ptsA_flat] at ht2
  refine ⟨_, _, ht2, loop_run mixed ETl2_ok (s_iTl ps es) (inv_iTl ps es) (me_iTl ps es) re_iTl (rs_iTl ps es) k_iTl (fun _ => rfl) (noLoops nl_iTl) (round_iTl ps es h3 h4 h5 h6) (x := (0, 0)) ⟨Nat.zero_le _, Int.le_refl _, Int.le_refl _⟩ (π := []) rfl ?_⟩
  refine ⟨rfl, rfl, ?_, wvs_spread' [0, 5, 22, 23, 24] hlen rfl ?_⟩
  · repeat' (first | exact True.intro | exact rfl | exact wv_top _ _ | exact fun _ => rfl | assumption | exact Eq.symm (by assumption) | exact vI0 rfl | refine And.intro ?_ ?_)
  · rw [hpick]
    repeat' (first | exact True.intro | exact rfl | exact wv_top _ _ | exact fun _ => rfl | assumption | exact Eq.symm (by assumption) | exact vI0 rfl | refine And.intro ?_ ?_)
theorem Lr_iTl {fn : Func} (hf : Try.prog.funcs[32]? = some fn) : LoopsGood Try.prog (lt1 e_iTl) 0 (codeOf fn) := by
  obtain rfl := fn_is Try.func32 hf
  exact lt1_good lg_iTl
def LTl2 : FuncId → LT := fun f => match f with
  | 32 => lt1 e_iTl
  | _ => noL
def ETl3 : Env := mkE TTl2 (fun _ _ => none) LTl2
theorem ETl3_ok : EnvOk Try.prog ETl3 := mkEOk TTl2_ok (fun _ _ _ _ _ h => (by cases h)) (by
  intro f fn hf
  unfold LTl2
  split
  all_goals first | with_reducible exact Lr_iTl hf | exact noL_good)
set_option maxRecDepth 100000 in
theorem tr_iTlF (ps es : List Pt) : bodyV Try.prog ETl3 30 12 32 [.row ps.length (.ints (flat ps)), .row es.length (.ints (flat es))] = brT (decide ((↑ps.length : Int) ≤ 20)) (.need (ps.length * (2 : Nat) ≤ (List.drop (0 : Nat) (flat ps)).length) (.need (ps.length ≤ (1000000000 : Nat)) (brT (!allV (ptsA ps.length (List.drop 0 (flat ps)))) (.fin (.int .i64 (-1)) []) (brT (decide (20 < (↑es.length : Int))) (.fin (.int .i64 (-1)) []) (.need (ps.length * (2 : Nat) ≤ (List.drop (0 : Nat) (flat ps)).length) (.need (es.length * (2 : Nat) ≤ (List.drop (0 : Nat) (flat es)).length) (.need (ps.length ≤ (20 : Nat)) (.need (es.length ≤ (20 : Nat)) (brT (!evA ps.length (ptsA es.length (List.drop 0 (flat es)))) (.fin (.int .i64 (-1)) []) (.need ((0 : Int) = (0 : Int)) (.need ((0 : Int) = (0 : Int)) (.need ((↑es.length : Int) = (↑es.length : Int)) (.need ((flat ps).length = ps.length * (2 : Nat)) (.need ((flat es).length = es.length * (2 : Nat)) (.need (ps.length ≤ (20 : Nat)) (.need (es.length ≤ (20 : Nat)) (.need (allV (ptsA ps.length (flat ps)) = true) (.need (evA ps.length (ptsA es.length (flat es)) = true) (.fin (.int .i64 (0 + tlS (ptsA ps.length (flat ps)) (ptsA es.length (flat es)))) []))))))))))))))))))) (.fin (.int .i64 (-1)) []) := by kernel_rfl
theorem res_iTl (ps es : List Pt) (h : Big ps) : Res Try.prog 32 [.row ps.length (.ints (flat ps)), .row es.length (.ints (flat es))] (iv (tlV ps es)) := by
  refine bodyV_res mixed ETl3_ok (m := 30) (n := 12) rfl ?_
  rw [tr_iTlF]
  unfold Big at h
  simp only [List.drop_zero, ptsA_flat, flat_length, Int.zero_add]
  unfold tlV okL
  by_cases hp : ps.length ≤ 20
  · have hp2 : (ps.length : Int) ≤ 20 := by omega
    rw [decide_eq_true hp, decide_eq_true hp2]
    rcases hk : allV ps with _ | _
    · simp [brT, Tree.ok, h]
    by_cases hl : es.length ≤ 20
    · have hl2 : ¬ (20 : Int) < es.length := by omega
      rw [decide_eq_true hl, decide_eq_false hl2]
      rcases hA : evA ps.length es with _ | _ <;> simp [brT, Tree.ok, h, hp, hl]
    · have hl2 : (20 : Int) < es.length := by omega
      rw [decide_eq_false hl, decide_eq_true hl2]
      simp [brT, Tree.ok, h]
  · have hp2 : ¬ (ps.length : Int) ≤ 20 := by omega
    rw [decide_eq_false hp, decide_eq_false hp2]
    simp [brT, Tree.ok]
def pTl : List DArg → Option (Value × List Prop)
  | [.row n (.ints xs), .row m (.ints ys)] => some (iv (tlV (ptsA n xs) (ptsA m ys)), [n * 2 ≤ xs.length, m * 2 ≤ ys.length, n ≤ 1000000000])
  | _ => none
theorem pTls_ok {ds : List DArg} {v : Value} {C : List Prop} (h : pTl ds = some (v, C)) (hC : AllP C) : Res Try.prog 30 ds v := by
  unfold pTl at h
  split at h
  · rename_i n xs m ys
    obtain ⟨rfl, rfl⟩ : _ ∧ _ := by simpa using h
    obtain ⟨c1, c2, c3, _⟩ := hC
    obtain ⟨_, h2⟩ := ptsA_spec c1
    exact res_pts1 (pre := []) (post := [_]) c1 (res_pts1 (pre := [_]) (post := []) c2 (res_sTl _ _ (by unfold Big; rw [h2]; exact c3)))
  · cases h
theorem pTli_ok {ds : List DArg} {v : Value} {C : List Prop} (h : pTl ds = some (v, C)) (hC : AllP C) : Res Try.prog 32 ds v := by
  unfold pTl at h
  split at h
  · rename_i n xs m ys
    obtain ⟨rfl, rfl⟩ : _ ∧ _ := by simpa using h
    obtain ⟨c1, c2, c3, _⟩ := hC
    obtain ⟨_, h2⟩ := ptsA_spec c1
    exact res_pts1 (pre := []) (post := [_]) c1 (res_pts1 (pre := [_]) (post := []) c2 (res_iTl _ _ (by unfold Big; rw [h2]; exact c3)))
  · cases h
def pEp : List DArg → Option (Value × List Prop)
  | [.row n (.ints xs), .row m (.ints ys)] => some (.bool true, [n = m, xs = ys, xs.length = n * 2, n ≤ 1000000000])
  | _ => none
theorem pEp_ok {ds : List DArg} {v : Value} {C : List Prop} (h : pEp ds = some (v, C)) (hC : AllP C) : Res Try.prog 33 ds v := by
  unfold pEp at h
  split at h
  · obtain ⟨rfl, rfl⟩ : _ ∧ _ := by simpa using h
    obtain ⟨rfl, rfl, h1, h2, _⟩ := hC
    obtain ⟨ps, rfl, rfl⟩ := even_flat h1
    exact res_eqPr ps h2
  · cases h
def TTl4 : Tab := fun f ds => match f with
  | 30 => pTl ds
  | 32 => pTl ds
  | 33 => pEp ds
  | f => T3 f ds
theorem TTl4_ok : TabOk Try.prog TTl4 := by
  intro f ds v C h hC
  unfold TTl4 at h
  split at h
  all_goals first | with_reducible exact pTls_ok h hC | with_reducible exact pTli_ok h hC | with_reducible exact pEp_ok h hC | exact T3_ok _ _ _ _ h hC
def RTl : TabR := fun f ds => match f, ds with
  | 31, [.row n (.ints xs)] => some (.slice (some ⟨0, 0, none⟩) n n, ⟨.row 107 2, .ints (xs.take (n * 2))⟩, [n * 2 ≤ xs.length, n ≤ 1000000000])
  | f, ds => R4 f ds
theorem RTl_ok : TabROk Try.prog RTl := by
  intro f ds v b C h hC
  unfold RTl at h
  split at h
  · rename_i n xs
    obtain ⟨rfl, rfl, rfl⟩ : _ ∧ _ ∧ _ := by simpa using h
    obtain ⟨h1, h2⟩ := ptsA_spec hC.1
    have h0 := resR_toPr (ptsA n xs) (by unfold Big; rw [h2]; exact hC.2.1)
    have h3 := resR_pts1 (pre := []) (post := []) hC.1 h0
    rw [h2, ← h1] at h3
    exact h3
  · exact R4_ok _ _ _ _ _ h hC
def ETl4 : Env := mkE TTl4 RTl (fun _ => noL)
theorem ETl4_ok : EnvOk Try.prog ETl4 := mkEOk TTl4_ok RTl_ok (fun _ _ _ => noL_good)
set_option maxRecDepth 100000 in
theorem tr_exTl (ps es : List Pt) : bodyV Try.prog ETl4 30 12 6 [.row ps.length (.ints (flat ps)), .row es.length (.ints (flat es))] = brT (decide (IntKind.i64.wrap (1048576 - (↑ps.length : Int)) < 0)) (.fin (.bool (true)) []) (brT (decide (IntKind.i64.wrap (1048576 - (↑ps.length : Int)) < 0)) (.fin (.bool (true)) []) (brT (decide (IntKind.i64.wrap (IntKind.i64.wrap (1048576 - (↑ps.length : Int)) - (↑es.length : Int)) < 0)) (.fin (.bool (true)) []) (brT (decide (IntKind.i64.wrap (IntKind.i64.wrap (1048576 - (↑ps.length : Int)) - (↑es.length : Int)) < 0)) (.fin (.bool (true)) []) (.need (ps.length * (2 : Nat) ≤ (List.drop (0 : Nat) (flat ps)).length) (.need (ps.length ≤ (1000000000 : Nat)) (.need (es.length * (2 : Nat) ≤ (List.drop (0 : Nat) (flat es)).length) (.need (es.length ≤ (1000000000 : Nat)) (.need (ps.length * (2 : Nat) ≤ (List.drop (0 : Nat) (List.take (ps.length * (2 : Nat)) (List.drop (0 : Nat) (flat ps)))).length) (.need (es.length * (2 : Nat) ≤ (List.drop (0 : Nat) (List.take (es.length * (2 : Nat)) (List.drop (0 : Nat) (flat es)))).length) (.need (ps.length ≤ (1000000000 : Nat)) (.need (ps.length * (2 : Nat) ≤ (List.drop (0 : Nat) (flat ps)).length) (.need (ps.length ≤ (1000000000 : Nat)) (.need (es.length * (2 : Nat) ≤ (List.drop (0 : Nat) (flat es)).length) (.need (es.length ≤ (1000000000 : Nat)) (.need (ps.length * (2 : Nat) ≤ (List.drop (0 : Nat) (List.take (ps.length * (2 : Nat)) (List.drop (0 : Nat) (flat ps)))).length) (.need (es.length * (2 : Nat) ≤ (List.drop (0 : Nat) (List.take (es.length * (2 : Nat)) (List.drop (0 : Nat) (flat es)))).length) (.need (ps.length ≤ (1000000000 : Nat)) (brT (!tlV (ptsA ps.length (List.drop 0 (List.take (ps.length * 2) (List.drop 0 (flat ps))))) (ptsA es.length (List.drop 0 (List.take (es.length * 2) (List.drop 0 (flat es))))) == tlV (ptsA ps.length (List.drop 0 (List.take (ps.length * 2) (List.drop 0 (flat ps))))) (ptsA es.length (List.drop 0 (List.take (es.length * 2) (List.drop 0 (flat es)))))) (.fin (.bool (false)) []) (.need (ps.length * (2 : Nat) ≤ (List.drop (0 : Nat) (flat ps)).length) (.need (ps.length ≤ (1000000000 : Nat)) (.need (ps.length * (2 : Nat) ≤ (List.drop (0 : Nat) (List.take (ps.length * (2 : Nat)) (List.drop (0 : Nat) (flat ps)))).length) (.need (ps.length * (2 : Nat) ≤ (List.drop (0 : Nat) (List.take (ps.length * (2 : Nat)) (List.drop (0 : Nat) (flat ps)))).length) (.need (ps.length ≤ (1000000000 : Nat)) (brT (!eqL (ptsA ps.length (List.drop 0 (List.take (ps.length * 2) (List.drop 0 (flat ps))))) (ptsA ps.length (List.drop 0 (List.take (ps.length * 2) (List.drop 0 (flat ps)))))) (.fin (.bool (false)) []) (.need (es.length * (2 : Nat) ≤ (List.drop (0 : Nat) (flat es)).length) (.need (es.length ≤ (1000000000 : Nat)) (.need (es.length = es.length) (.need (List.drop (0 : Nat) (List.take (es.length * (2 : Nat)) (List.drop (0 : Nat) (flat es))) = List.drop (0 : Nat) (List.take (es.length * (2 : Nat)) (List.drop (0 : Nat) (flat es)))) (.need ((List.drop (0 : Nat) (List.take (es.length * (2 : Nat)) (List.drop (0 : Nat) (flat es)))).length = es.length * (2 : Nat)) (.need (es.length ≤ (1000000000 : Nat)) (.fin (.bool (true)) []))))))))))))))))))))))))))))))) := by kernel_rfl
theorem ExactTotalLength_res (ps es : List Pt) (h : (ps.length : Int) ≤ 9223372036854775807) (h2 : (es.length : Int) ≤ 9223372036854775807) : Res Try.prog 6 [.row ps.length (.ints (flat ps)), .row es.length (.ints (flat es))] (.bool true) := by
  refine bodyV_res mixed ETl4_ok (m := 30) (n := 12) rfl ?_
  rw [tr_exTl]
  simp only [List.drop_zero, flat_all, ptsA_flat, flat_length]
  by_cases hl : (1048576 : Int) - ps.length < 0
  · simp (disch := omega) only [wr]
    simp only [hl, decide_true, brT_t, Tree.ok]
    repeat' (first | exact True.intro | exact rfl | omega | refine And.intro ?_ ?_)
  · by_cases hm : (1048576 : Int) - ps.length - es.length < 0
    · simp (disch := omega) only [wr]
      simp only [hl, hm, decide_true, decide_false, brT_t, brT_f, Tree.ok]
      repeat' (first | exact True.intro | exact rfl | omega | refine And.intro ?_ ?_)
    · simp (disch := omega) only [wr]
      simp only [hl, hm, decide_false, brT_f, Tree.ok, beq_self_eq_true, Bool.not_true, eqL, decide_true]
      repeat' (first | exact True.intro | assumption | omega | exact rfl | refine And.intro ?_ ?_)
end Go.Proofs.Ytfjcbindeimoiab
