/-
  The law of Collinear over drawn lists. Written by an AI agent.
-/
import Derived.Test.YtieibbdfdepmbaaFnE
import Derived.Test.YtieibbdfdepmbaaSpt
import Derived.Test.YtieibbdfdepmbaaDrh
import Derived.Test.YtieibbdfdepmbaaPubA
namespace Go.Proofs.Ytieibbdfdepmbaa
set_option linter.all false
open Go.RowKit

def RLk : TabR := fun f ds => match f, ds with
  | 47, [.row n (.bytes bs)] => some (rowP (apsL bs (rdL n) 0 5), blkP (apsL bs (rdL n) 0 5), [Bytes bs, n ≤ bs.length])
  | f, ds => RSq f ds
theorem RLk_ok : TabROk Try.prog RLk := by
  intro f ds v b C h hC
  unfold RLk at h
  split at h
  · obtain ⟨rfl, rfl, rfl⟩ : _ ∧ _ ∧ _ := by simpa using h
    exact resR_dCo _ _ hC.1 hC.2.1
  · exact RSq_ok _ _ _ _ _ h hC
def TLk : Tab := fun f ds => match f with
  | 49 => q_TA_2 ds
  | f => T8' f ds
theorem TLk_ok : TabOk Try.prog TLk := by
  intro f ds v C h hC
  unfold TLk at h
  (try split at h)
  all_goals first | with_reducible exact TA_r2 h hC | exact T8'_ok _ _ _ _ h hC
def ELk0 : Env := mkE TLk RLk (fun _ => noL)
theorem ELk0_ok : EnvOk Try.prog ELk0 := mkEOk TLk_ok RLk_ok (fun _ _ _ => noL_good)
/-- Are so many points on the line through the first and the last? -/
def lnQ (ss ps : List Pt) (j : Nat) : Bool := orientR (ss.getD 0 (0, 0)).1 (ss.getD 0 (0, 0)).2 (ss.getD (ss.length - 1) (0, 0)).1 (ss.getD (ss.length - 1) (0, 0)).2 (ps.getD j (0, 0)).1 (ps.getD j (0, 0)).2 == 0
def lnA (ss ps : List Pt) : Nat → Bool
  | 0 => true
  | i + 1 => lnA ss ps i && lnQ ss ps i
noncomputable def c_lco : Code := ((loopsOf (codeOf Try.f13))[0]?).getD .skip
def k_lco : Ex → List Nat := keeps [3, 4, 5, 6, 7] [(0, [4, 6])] []
def s_lco (bs : List Int) (ps ss : List Pt) (b : Bool) : Nat → St := fun i => ⟨(topV :: topV :: topV :: .slice (some ⟨1, 0, none⟩) ps.length ps.length :: .bool b :: .slice (some ⟨2, 0, none⟩) ss.length ss.length :: .bool (lnA ss ps i) :: .int .i64 i :: topV :: topV :: topV :: topV :: topV :: topV :: topV :: topV :: topV :: topV :: topV :: topV :: topV :: topV :: topV :: topV :: topV :: topV :: topV :: topV :: topV :: topV :: topV :: topV :: topV :: topV :: topV :: topV :: topV :: topV :: topV :: topV :: topV :: topV :: topV :: topV :: topV :: topV :: topV :: topV :: topV :: topV :: topV :: topV :: topV :: topV :: topV :: topV :: topV :: []), [some ⟨.view, .bytes bs⟩, some ⟨.row 32 2, .ints (flat ps)⟩, some ⟨.row 32 2, .ints (flat ss)⟩]⟩
def re_lco : Nat → Ex := fun _ => .exit 0
def rs_lco (bs : List Int) (ps ss : List Pt) (b : Bool) : Nat → St := fun i => ⟨(topV :: topV :: topV :: topV :: .bool b :: topV :: .bool (lnA ss ps ps.length) :: topV :: topV :: topV :: topV :: topV :: topV :: topV :: topV :: topV :: topV :: topV :: topV :: topV :: topV :: topV :: topV :: topV :: topV :: topV :: topV :: topV :: topV :: topV :: topV :: topV :: topV :: topV :: topV :: topV :: topV :: topV :: topV :: topV :: topV :: topV :: topV :: topV :: topV :: topV :: topV :: topV :: topV :: topV :: topV :: topV :: topV :: topV :: topV :: topV :: topV :: []), [some ⟨.view, .bytes bs⟩, some ⟨.row 32 2, .ints (flat ps)⟩, some ⟨.row 32 2, .ints (flat ss)⟩]⟩
set_option maxRecDepth 100000 in
theorem tr_lco (bs : List Int) (ps ss : List Pt) (b : Bool) (i : Nat) : bodyL Try.prog ELk0 30 12 noL 1 c_lco k_lco 3 (s_lco bs ps ss b i) = brT (decide ((↑i : Int) < (↑ps.length : Int))) (brT (lnA ss ps i) (.need ((0 : Int) ≤ (0 : Int) ∧ (0 : Int) < (↑ss.length : Int)) (.need ((2 : Nat) ≤ (flat ss).length) (.need ((0 : Int) ≤ IntKind.i64.wrap ((↑ss.length : Int) - (1 : Int)) ∧ IntKind.i64.wrap ((↑ss.length : Int) - (1 : Int)) < (↑ss.length : Int)) (.need ((0 : Nat) + (IntKind.i64.wrap ((↑ss.length : Int) - (1 : Int))).toNat * (2 : Nat) + (2 : Nat) ≤ (flat ss).length) (.need ((0 : Int) ≤ (↑i : Int) ∧ (↑i : Int) < (↑ps.length : Int)) (.need ((0 : Nat) + (↑i : Int).toNat * (2 : Nat) + (2 : Nat) ≤ (flat ps).length) (.leaf .normal ⟨(topV :: topV :: topV :: .slice (some ⟨1, 0, none⟩) (ps.length) (ps.length) :: .bool (b) :: .slice (some ⟨2, 0, none⟩) (ss.length) (ss.length) :: .bool (orientR ((flat ss).getD 0 0) ((flat ss).getD 1 0) ((flat ss).getD (0 + (IntKind.i64.wrap ((↑ss.length : Int) - 1)).toNat * 2) 0) ((flat ss).getD (0 + (IntKind.i64.wrap ((↑ss.length : Int) - 1)).toNat * 2 + 1) 0) ((flat ps).getD (0 + (↑i : Int).toNat * 2) 0) ((flat ps).getD (0 + (↑i : Int).toNat * 2 + 1) 0) == 0) :: .int .i64 (IntKind.i64.wrap ((↑i : Int) + 1)) :: topV :: topV :: topV :: topV :: topV :: topV :: topV :: topV :: topV :: topV :: topV :: topV :: topV :: topV :: topV :: topV :: topV :: topV :: topV :: topV :: topV :: topV :: topV :: topV :: topV :: topV :: topV :: topV :: topV :: topV :: topV :: topV :: topV :: topV :: topV :: topV :: topV :: topV :: topV :: topV :: topV :: topV :: topV :: topV :: topV :: topV :: topV :: topV :: topV :: []), [some ⟨.view, .bytes (bs)⟩, some ⟨.row 32 2, .ints (flat ps)⟩, some ⟨.row 32 2, .ints (flat ss)⟩]⟩))))))) (.leaf .normal ⟨(topV :: topV :: topV :: .slice (some ⟨1, 0, none⟩) (ps.length) (ps.length) :: .bool (b) :: .slice (some ⟨2, 0, none⟩) (ss.length) (ss.length) :: .bool (false) :: .int .i64 (IntKind.i64.wrap ((↑i : Int) + 1)) :: topV :: topV :: topV :: topV :: topV :: topV :: topV :: topV :: topV :: topV :: topV :: topV :: topV :: topV :: topV :: topV :: topV :: topV :: topV :: topV :: topV :: topV :: topV :: topV :: topV :: topV :: topV :: topV :: topV :: topV :: topV :: topV :: topV :: topV :: topV :: topV :: topV :: topV :: topV :: topV :: topV :: topV :: topV :: topV :: topV :: topV :: topV :: topV :: topV :: []), [some ⟨.view, .bytes (bs)⟩, some ⟨.row 32 2, .ints (flat ps)⟩, some ⟨.row 32 2, .ints (flat ss)⟩]⟩)) (.leaf (.exit 0) ⟨(topV :: topV :: topV :: topV :: .bool (b) :: topV :: .bool (lnA ss ps i) :: topV :: topV :: topV :: topV :: topV :: topV :: topV :: topV :: topV :: topV :: topV :: topV :: topV :: topV :: topV :: topV :: topV :: topV :: topV :: topV :: topV :: topV :: topV :: topV :: topV :: topV :: topV :: topV :: topV :: topV :: topV :: topV :: topV :: topV :: topV :: topV :: topV :: topV :: topV :: topV :: topV :: topV :: topV :: topV :: topV :: topV :: topV :: topV :: topV :: topV :: []), [some ⟨.view, .bytes (bs)⟩, some ⟨.row 32 2, .ints (flat ps)⟩, some ⟨.row 32 2, .ints (flat ss)⟩]⟩) := by kernel_rfl
set_option maxRecDepth 100000 in
theorem nl_lco : loopsOf c_lco = [] := by kernel_rfl
def inv_lco (bs : List Int) (ps ss : List Pt) (b : Bool) : Nat → Prop := fun i => i ≤ ps.length
def me_lco (bs : List Int) (ps ss : List Pt) (b : Bool) : Nat → Nat := fun i => ps.length - i
/-- A round of this loop. -/
def Round_lco (bs : List Int) (ps ss : List Pt) (b : Bool) : Prop := ∀ xx : Nat, inv_lco bs ps ss b xx → (bodyL Try.prog ELk0 30 12 noL 1 c_lco k_lco 3 (s_lco bs ps ss b xx)).ok (RoundEnd 3 (s_lco bs ps ss b) (inv_lco bs ps ss b) (me_lco bs ps ss b) re_lco (rs_lco bs ps ss b) xx) (fun _ _ => False)
def e_lco (s : St) (k : Ex → St → Tree) : Option Tree := match Nat.beq s.tmps.length 57, pickL s.tmps [3, 4, 5, 6, 7], s.mem with
  | true, [.slice (some ⟨1, 0, none⟩) m _, .bool b, .slice (some ⟨2, 0, none⟩) q _, .bool a0, .int .i64 i], [some ⟨.view, .bytes bs⟩, some ⟨.row 32 2, .ints xs⟩, some ⟨.row 32 2, .ints ys⟩] => some (needs [i = 0, a0 = true, xs.length = m * 2, m ≤ 1000000000, ys.length = q * 2, q ≤ 1000000000, 0 < q] (k (.exit 0) ⟨(topV :: topV :: topV :: topV :: .bool b :: topV :: .bool (lnA (ptsA q ys) (ptsA m xs) m) :: topV :: topV :: topV :: topV :: topV :: topV :: topV :: topV :: topV :: topV :: topV :: topV :: topV :: topV :: topV :: topV :: topV :: topV :: topV :: topV :: topV :: topV :: topV :: topV :: topV :: topV :: topV :: topV :: topV :: topV :: topV :: topV :: topV :: topV :: topV :: topV :: topV :: topV :: topV :: topV :: topV :: topV :: topV :: topV :: topV :: topV :: topV :: topV :: topV :: topV :: []), [some ⟨.view, .bytes bs⟩, some ⟨.row 32 2, .ints xs⟩, some ⟨.row 32 2, .ints ys⟩]⟩))
  | _, _, _ => none
theorem gd_mem {ps : List Pt} {k : Nat} (h : k < ps.length) : ps.getD k (0, 0) ∈ ps := by simp [h]
theorem flat_00 {ss : List Pt} (h : 0 < ss.length) : (flat ss).getD 0 0 = (ss.getD 0 (0, 0)).1 ∧ (flat ss).getD 1 0 = (ss.getD 0 (0, 0)).2 := by
  cases ss with
  | nil => cases h
  | cons a r => exact ⟨rfl, rfl⟩
set_option maxRecDepth 100000 in
theorem round_lco (bs : List Int) (ps ss : List Pt) (b : Bool) (h : ps.length ≤ 1000000000) (h2 : ss.length ≤ 1000000000) (h3 : 0 < ss.length) : Round_lco bs ps ss b := by
  intro i h1
  have h1 : i ≤ ps.length := h1
  rw [tr_lco]
  have w : IntKind.i64.wrap ((ss.length : Int) - 1) = ((ss.length - 1 : Nat) : Int) := by rw [wr (by omega)]; omega
  simp only [w, List.drop_zero, ptsA_flat, Int.toNat_natCast, Nat.zero_add, Nat.add_zero, flat_length, flat_get0, flat_get1]
  refine brT_ok.2 ⟨fun hlt => ?_, fun hge => ?_⟩
  · have hlt := of_decide_eq_true hlt
    have hi : i < ps.length := by omega
    rw [wsucc (n := ps.length) hi h]
    have st : lnA ss ps (i + 1) = (lnA ss ps i && lnQ ss ps i) := rfl
    rcases ha : lnA ss ps i with _ | _
    · rw [ha, Bool.false_and] at st
      simp only [brT_t, brT_f, Tree.ok]
      refine ⟨i + 1, [], ?_, ?_, rfl, rfl, ?_⟩
      · show i + 1 ≤ ps.length; omega
      · show ps.length - (i + 1) < ps.length - i; omega
      · unfold s_lco
        simp only [st]
        repeat' (first | exact True.intro | exact rfl | exact fun _ => rfl | refine And.intro ?_ ?_)
    · rw [ha, Bool.true_and] at st
      simp only [brT_t, brT_f, Tree.ok]
      repeat (refine And.intro (by first | omega | exact Nat.le_refl _) ?_)
      refine ⟨i + 1, [], ?_, ?_, rfl, rfl, ?_⟩
      · show i + 1 ≤ ps.length; omega
      · show ps.length - (i + 1) < ps.length - i; omega
      · unfold s_lco
        simp only [st, lnQ, (flat_00 h3).1, (flat_00 h3).2]
        repeat' (first | exact True.intro | exact rfl | exact fun _ => rfl | refine And.intro ?_ ?_)
  · have hge := of_decide_eq_false hge
    obtain rfl : i = ps.length := by omega
    refine ⟨rfl, [], ?_⟩
    repeat' (first | exact True.intro | exact rfl | exact fun _ => rfl | refine And.intro ?_ ?_)
set_option maxRecDepth 100000 in
theorem lg_lco : LoopE Try.prog e_lco c_lco := by
  intro s k t F H hlt ht
  unfold e_lco at hlt
  split at hlt
  rotate_left
  · cases hlt
  rename_i hlen hpick hmem
  obtain ⟨tmps, mem⟩ := s
  simp only at hlen hpick hmem
  subst hmem
  obtain rfl := Option.some.inj hlt
  obtain ⟨⟨rfl, rfl, h1, h2, g1, g2, g3, _⟩, ht2⟩ := needs_ok ht
  clear ht hlt
  obtain ⟨ps, rfl, rfl⟩ := even_flat h1
  obtain ⟨ss, rfl, rfl⟩ := even_flat g1
  rw [ptsA_flat, ptsA_flat] at ht2
  refine ⟨_, _, ht2, loop_run mixed ELk0_ok (s_lco _ _ _ _) (inv_lco _ _ _ _) (me_lco _ _ _ _) re_lco (rs_lco _ _ _ _) k_lco (fun _ => rfl) (noLoops nl_lco) (round_lco _ _ _ _ h2 g2 g3) (x := 0) (Nat.zero_le _) (π := []) rfl ?_⟩
  refine ⟨rfl, rfl, ?_, wvs_spread' [3, 4, 5, 6, 7] hlen rfl ?_⟩
  · repeat' (first | exact True.intro | exact rfl | exact wv_top _ _ | exact fun _ => rfl | assumption | exact Eq.symm (by assumption) | exact vI0 rfl | refine And.intro ?_ ?_)
  · rw [hpick]
    repeat' (first | exact True.intro | exact rfl | exact wv_top _ _ | exact fun _ => rfl | assumption | exact Eq.symm (by assumption) | exact vI0 rfl | refine And.intro ?_ ?_)
theorem Lr_lco {fn : Func} (hf : Try.prog.funcs[13]? = some fn) : LoopsGood Try.prog (lt1 e_lco) 0 (codeOf fn) := by
  obtain rfl := fn_is Try.func13 hf
  exact lt1_good lg_lco
def LLk : FuncId → LT := fun f => match f with
  | 13 => lt1 e_lco
  | _ => noL
def ELk : Env := mkE TLk RLk LLk
theorem ELk_ok : EnvOk Try.prog ELk := mkEOk TLk_ok RLk_ok (by
  intro f fn hf
  unfold LLk
  split
  all_goals first | with_reducible exact Lr_lco hf | exact noL_good)
set_option maxRecDepth 100000 in
theorem tr_lCo (bs : List Int) : bodyV Try.prog ELk 30 12 13 [.row bs.length (.bytes bs)] = brT (decide (1048576 < (↑bs.length : Int))) (.fin (.bool (true)) []) (.need (Bytes (List.drop (0 : Nat) bs)) (.need (bs.length ≤ (List.drop (0 : Nat) bs).length) (.need ((apsL (List.drop (0 : Nat) bs) (rdL bs.length) (0 : Int) (5 : Int)).length * (2 : Nat) ≤ (List.drop (0 : Nat) (flat (apsL (List.drop (0 : Nat) bs) (rdL bs.length) (0 : Int) (5 : Int)))).length) (.need ((apsL (List.drop (0 : Nat) bs) (rdL bs.length) (0 : Int) (5 : Int)).length ≤ (1000000000 : Nat)) (.need ((apsL (List.drop (0 : Nat) bs) (rdL bs.length) (0 : Int) (5 : Int)).length * (2 : Nat) ≤ (List.drop (0 : Nat) (flat (apsL (List.drop (0 : Nat) bs) (rdL bs.length) (0 : Int) (5 : Int)))).length) (.need ((apsL (List.drop (0 : Nat) bs) (rdL bs.length) (0 : Int) (5 : Int)).length ≤ (1000000000 : Nat)) (.need ((apsL (List.drop (0 : Nat) bs) (rdL bs.length) (0 : Int) (5 : Int)).length * (2 : Nat) ≤ (List.drop (0 : Nat) (flat (apsL (List.drop (0 : Nat) bs) (rdL bs.length) (0 : Int) (5 : Int)))).length) (.need ((apsL (List.drop (0 : Nat) bs) (rdL bs.length) (0 : Int) (5 : Int)).length ≤ (1000000000 : Nat)) (brT (!colV (ptsA (apsL (List.drop 0 bs) (rdL bs.length) 0 5).length (List.drop 0 (flat (apsL (List.drop 0 bs) (rdL bs.length) 0 5)))) == colV (ptsA (apsL (List.drop 0 bs) (rdL bs.length) 0 5).length (List.drop 0 (flat (apsL (List.drop 0 bs) (rdL bs.length) 0 5))))) (.need ((apsL (List.drop (0 : Nat) bs) (rdL bs.length) (0 : Int) (5 : Int)).length * (2 : Nat) ≤ (List.drop (0 : Nat) (flat (apsL (List.drop (0 : Nat) bs) (rdL bs.length) (0 : Int) (5 : Int)))).length) (.need ((apsL (List.drop (0 : Nat) bs) (rdL bs.length) (0 : Int) (5 : Int)).length ≤ (1000000000 : Nat)) (.fin (.bool (colV (ptsA (apsL (List.drop 0 bs) (rdL bs.length) 0 5).length (List.drop 0 (flat (apsL (List.drop 0 bs) (rdL bs.length) 0 5)))) == colV (ptsA (apsL (List.drop 0 bs) (rdL bs.length) 0 5).length (List.drop 0 (flat (apsL (List.drop 0 bs) (rdL bs.length) 0 5)))))) []))) (brT ((↑(spV (ptsA (apsL (List.drop 0 bs) (rdL bs.length) 0 5).length (List.drop 0 (flat (apsL (List.drop 0 bs) (rdL bs.length) 0 5))))).length : Int) == 0) (.need ((apsL (List.drop (0 : Nat) bs) (rdL bs.length) (0 : Int) (5 : Int)).length * (2 : Nat) ≤ (List.drop (0 : Nat) (flat (apsL (List.drop (0 : Nat) bs) (rdL bs.length) (0 : Int) (5 : Int)))).length) (.need ((apsL (List.drop (0 : Nat) bs) (rdL bs.length) (0 : Int) (5 : Int)).length ≤ (1000000000 : Nat)) (.fin (.bool (colV (ptsA (apsL (List.drop 0 bs) (rdL bs.length) 0 5).length (List.drop 0 (flat (apsL (List.drop 0 bs) (rdL bs.length) 0 5)))) == colV (ptsA (apsL (List.drop 0 bs) (rdL bs.length) 0 5).length (List.drop 0 (flat (apsL (List.drop 0 bs) (rdL bs.length) 0 5)))))) []))) (.need ((0 : Int) = (0 : Int)) (.need (true = true) (.need ((flat (apsL (List.drop (0 : Nat) bs) (rdL bs.length) (0 : Int) (5 : Int))).length = (apsL (List.drop (0 : Nat) bs) (rdL bs.length) (0 : Int) (5 : Int)).length * (2 : Nat)) (.need ((apsL (List.drop (0 : Nat) bs) (rdL bs.length) (0 : Int) (5 : Int)).length ≤ (1000000000 : Nat)) (.need ((flat (spV (ptsA (apsL (List.drop (0 : Nat) bs) (rdL bs.length) (0 : Int) (5 : Int)).length (List.drop (0 : Nat) (flat (apsL (List.drop (0 : Nat) bs) (rdL bs.length) (0 : Int) (5 : Int))))))).length = (spV (ptsA (apsL (List.drop (0 : Nat) bs) (rdL bs.length) (0 : Int) (5 : Int)).length (List.drop (0 : Nat) (flat (apsL (List.drop (0 : Nat) bs) (rdL bs.length) (0 : Int) (5 : Int)))))).length * (2 : Nat)) (.need ((spV (ptsA (apsL (List.drop (0 : Nat) bs) (rdL bs.length) (0 : Int) (5 : Int)).length (List.drop (0 : Nat) (flat (apsL (List.drop (0 : Nat) bs) (rdL bs.length) (0 : Int) (5 : Int)))))).length ≤ (1000000000 : Nat)) (.need ((0 : Nat) < (spV (ptsA (apsL (List.drop (0 : Nat) bs) (rdL bs.length) (0 : Int) (5 : Int)).length (List.drop (0 : Nat) (flat (apsL (List.drop (0 : Nat) bs) (rdL bs.length) (0 : Int) (5 : Int)))))).length) (.fin (.bool (colV (ptsA (apsL (List.drop 0 bs) (rdL bs.length) 0 5).length (List.drop 0 (flat (apsL (List.drop 0 bs) (rdL bs.length) 0 5)))) == lnA (ptsA (spV (ptsA (apsL (List.drop 0 bs) (rdL bs.length) 0 5).length (List.drop 0 (flat (apsL (List.drop 0 bs) (rdL bs.length) 0 5))))).length (flat (spV (ptsA (apsL (List.drop 0 bs) (rdL bs.length) 0 5).length (List.drop 0 (flat (apsL (List.drop 0 bs) (rdL bs.length) 0 5))))))) (ptsA (apsL (List.drop 0 bs) (rdL bs.length) 0 5).length (flat (apsL (List.drop 0 bs) (rdL bs.length) 0 5))) (apsL (List.drop 0 bs) (rdL bs.length) 0 5).length)) [])))))))))))))))))) := by kernel_rfl
theorem lnA_iff {ss ps : List Pt} : ∀ {n : Nat}, lnA ss ps n = true ↔ ∀ j, j < n → lnQ ss ps j = true
  | 0 => ⟨fun _ j h => by omega, fun _ => rfl⟩
  | n + 1 => by
    show (lnA ss ps n && lnQ ss ps n) = true ↔ _
    rw [Bool.and_eq_true, lnA_iff]
    constructor
    · rintro ⟨h1, h2⟩ j hj
      rcases Nat.lt_or_ge j n with h | h
      · exact h1 j h
      · obtain rfl : j = n := by omega
        exact h2
    · exact fun h => ⟨fun j hj => h j (by omega), h n (by omega)⟩
theorem sgn_is0 {n : Int} : sgn n = 0 ↔ n = 0 := by
  unfold sgn
  constructor
  · intro h
    split at h
    · cases h
    · split at h
      · cases h
      · omega
  · rintro rfl
    rfl
/-- On the line through the first and the last: as collinear. -/
theorem ln_col {ps : List Pt} (h : okL ps = true) (h0 : 0 < (srtL ps).length) : lnA (srtL ps) ps ps.length = specCol ps := by
  obtain ⟨hv, _⟩ := okL_20 h
  have hF : (srtL ps).getD 0 (0, 0) ∈ srtL ps := gd_mem h0
  have hL : (srtL ps).getD ((srtL ps).length - 1) (0, 0) ∈ srtL ps := gd_mem (by omega)
  have mF := (srtL_mem ps _).1 hF
  have mL := (srtL_mem ps _).1 hL
  have key : ∀ p ∈ ps, (orientR ((srtL ps).getD 0 (0, 0)).1 ((srtL ps).getD 0 (0, 0)).2 ((srtL ps).getD ((srtL ps).length - 1) (0, 0)).1 ((srtL ps).getD ((srtL ps).length - 1) (0, 0)).2 p.1 p.2 == 0) = true ↔ crs ((srtL ps).getD 0 (0, 0)) ((srtL ps).getD ((srtL ps).length - 1) (0, 0)) p = 0 := by
    intro p hp
    have v1 : ptB _ _ = true := List.all_eq_true.1 hv _ mF
    have v2 : ptB _ _ = true := List.all_eq_true.1 hv _ mL
    have v3 : ptB _ _ = true := List.all_eq_true.1 hv _ hp
    rw [orientR_yes (by rw [v1, v2, v3]; rfl), beq_iff_eq, sgn_is0]
    exact Iff.rfl
  rw [Bool.eq_iff_iff, lnA_iff, specCol_iff]
  constructor
  · intro hj
    have all : ∀ p ∈ ps, crs ((srtL ps).getD 0 (0, 0)) ((srtL ps).getD ((srtL ps).length - 1) (0, 0)) p = 0 := by
      intro p hp
      obtain ⟨j, hjl, e⟩ := List.getElem_of_mem hp
      have t := hj j hjl
      unfold lnQ at t
      have g : ps.getD j (0, 0) = p := by simp [hjl, e]
      rw [g] at t
      exact (key p hp).1 t
    intro a ha b hb c hc
    rcases Nat.lt_or_ge 1 (srtL ps).length with h1 | h1
    · have lt := List.pairwise_iff_getElem.1 (srtL_asc ps) 0 ((srtL ps).length - 1) h0 (by omega) (by omega)
      have e1 : (srtL ps).getD 0 (0, 0) = (srtL ps)[0] := by simp [h0]
      have e2 : (srtL ps).getD ((srtL ps).length - 1) (0, 0) = (srtL ps)[(srtL ps).length - 1] := by simp [show (srtL ps).length - 1 < (srtL ps).length by omega]
      rw [← e1, ← e2] at lt
      refine crs_line (f := (srtL ps).getD 0 (0, 0)) (l := (srtL ps).getD ((srtL ps).length - 1) (0, 0)) ?_ (all a ha) (all b hb) (all c hc)
      intro e
      rw [e, plt_irr] at lt
      cases lt
    · have one : ∀ q ∈ ps, q = (srtL ps).getD 0 (0, 0) := by
        intro q hq
        obtain ⟨j, hjl, e⟩ := List.getElem_of_mem ((srtL_mem ps q).2 hq)
        obtain rfl : j = 0 := by omega
        rw [← e]
        simp [h0]
      rw [one a ha, one b hb]
      exact crs_aac _ _
  · intro hc j hj
    unfold lnQ
    exact (key _ (gd_mem hj)).2 (hc _ mF _ mL _ (gd_mem hj))
set_option maxRecDepth 100000 in
theorem law_co (bs : List Int) (hb : Bytes bs) (_ : bs.length ≤ maxLen) : Res Try.prog 13 [.row bs.length (.bytes bs)] (.bool true) := by
  refine bodyV_res mixed ELk_ok (m := 30) (n := 12) rfl ?_
  rw [tr_lCo]
  simp only [List.drop_zero, ptsA_flat, flat_length]
  obtain ⟨_, _, _, hL⟩ := drKey hb (Nat.le_refl _) (l := rdL bs.length) (by unfold rdL; omega) (by unfold rdL; omega) (m := 5) (by omega)
  generalize apsL bs (rdL bs.length) 0 5 = ps at *
  have hp := spV_len ps
  rcases ho : okL ps with _ | _
  · have e0 : (spV ps).length = 0 := by unfold spV; rw [ho]; rfl
    simp only [brT_ok, Tree.ok, e0]
    repeat' (first | exact hb | exact rfl | exact True.intro | omega | intro _ | refine And.intro ?_ ?_ | (simp_all; done))
  · have e1 : spV ps = srtL ps := by unfold spV; rw [ho]; rfl
    rcases Nat.eq_zero_or_pos (spV ps).length with h0 | h0
    · simp only [brT_ok, Tree.ok, h0]
      repeat' (first | exact hb | exact rfl | exact True.intro | omega | intro _ | refine And.intro ?_ ?_ | (simp_all; done))
    · have e2 : lnA (spV ps) ps ps.length = colV ps := by
        rw [e1] at h0 ⊢
        rw [ln_col ho h0]
        unfold colV
        rw [ho, Bool.true_and]
      rw [e2]
      simp only [brT_ok, Tree.ok, beq_self_eq_true]
      repeat' (first | exact hb | exact rfl | exact True.intro | omega | intro _ | refine And.intro ?_ ?_ | (simp_all; done))
end Go.Proofs.Ytieibbdfdepmbaa
