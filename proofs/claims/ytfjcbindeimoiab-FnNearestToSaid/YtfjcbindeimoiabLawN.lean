/-
  The law of NearestTo over drawn lists. Written by an AI agent.
-/
import Derived.Test.YtfjcbindeimoiabNear
import Derived.Test.YtfjcbindeimoiabDrwA
namespace Go.Proofs.Ytfjcbindeimoiab
open Go.RowKit

def ENl0 : Env := mkE T4n (fun _ _ => none) (fun _ => noL)
theorem ENl0_ok : EnvOk Try.prog ENl0 := mkEOk T4n_ok (fun _ _ _ _ _ h => (by cases h)) (fun _ _ _ => noL_good)
def sqP (ps : List Pt) (j : Nat) (x y : Int) : Int := sqK (ps.getD j (0, 0)).1 (ps.getD j (0, 0)).2 x y
/-- No point is nearer than that at k. -/
def Near (ps : List Pt) (k : Nat) (x y : Int) : Prop := ∀ j, j < ps.length → sqP ps k x y ≤ sqP ps j x y
noncomputable def c_lawN : Code := ((loopsOf (codeOf Try.f10))[0]?).getD .skip
def k_lawN : Ex → List Nat := keeps [3, 4, 5, 6] [(0, [3])] [2]
def s_lawN (bs : List Int) (ps : List Pt) (x y : Int) (k : Nat) : Nat → St := fun i => ⟨(topV :: topV :: topV :: .slice (some ⟨2, 0, none⟩) ps.length ps.length :: .pointer (some ⟨1, 0, none⟩) :: .int .i64 k :: .int .i64 i :: topV :: topV :: topV :: topV :: topV :: topV :: topV :: topV :: topV :: topV :: topV :: topV :: topV :: topV :: topV :: topV :: topV :: topV :: topV :: topV :: topV :: topV :: topV :: topV :: topV :: topV :: topV :: topV :: topV :: topV :: topV :: topV :: topV :: topV :: topV :: topV :: topV :: topV :: topV :: topV :: topV :: topV :: topV :: topV :: topV :: topV :: topV :: topV :: topV :: topV :: topV :: topV :: []), [some ⟨.view, .bytes bs⟩, some ⟨.box, .vals [.int .i64 x, .int .i64 y]⟩, some ⟨.row 32 2, .ints (flat ps)⟩]⟩
def re_lawN : Nat → Ex := fun _ => .exit 0
def rs_lawN (bs : List Int) (ps : List Pt) (x y : Int) (k : Nat) : Nat → St := fun i => ⟨(topV :: topV :: topV :: .slice (some ⟨2, 0, none⟩) ps.length ps.length :: topV :: topV :: topV :: topV :: topV :: topV :: topV :: topV :: topV :: topV :: topV :: topV :: topV :: topV :: topV :: topV :: topV :: topV :: topV :: topV :: topV :: topV :: topV :: topV :: topV :: topV :: topV :: topV :: topV :: topV :: topV :: topV :: topV :: topV :: topV :: topV :: topV :: topV :: topV :: topV :: topV :: topV :: topV :: topV :: topV :: topV :: topV :: topV :: topV :: topV :: topV :: topV :: topV :: topV :: topV :: []), [some ⟨.view, .bytes bs⟩, some ⟨.box, .vals [.int .i64 x, .int .i64 y]⟩, some ⟨.row 32 2, .ints (flat ps)⟩]⟩
set_option maxRecDepth 100000 in
theorem tr_lawN (bs : List Int) (ps : List Pt) (x y : Int) (k : Nat) (i : Nat) : bodyL Try.prog ENl0 30 12 noL 1 c_lawN k_lawN 3 (s_lawN bs ps x y k i) = brT (decide ((↑i : Int) < (↑ps.length : Int))) (.need ((0 : Int) ≤ (↑i : Int) ∧ (↑i : Int) < (↑ps.length : Int)) (.need ((0 : Nat) + (↑i : Int).toNat * (2 : Nat) + (2 : Nat) ≤ (flat ps).length) (.need ((0 : Int) ≤ (↑k : Int) ∧ (↑k : Int) < (↑ps.length : Int)) (.need ((0 : Nat) + (↑k : Int).toNat * (2 : Nat) + (2 : Nat) ≤ (flat ps).length) (brT (decide (sqK ((flat ps).getD (0 + (↑i : Int).toNat * 2) 0) ((flat ps).getD (0 + (↑i : Int).toNat * 2 + 1) 0) x y < sqK ((flat ps).getD (0 + (↑k : Int).toNat * 2) 0) ((flat ps).getD (0 + (↑k : Int).toNat * 2 + 1) 0) x y)) (.leaf .ret ⟨(topV :: topV :: .bool (false) :: topV :: topV :: topV :: topV :: topV :: topV :: topV :: topV :: topV :: topV :: topV :: topV :: topV :: topV :: topV :: topV :: topV :: topV :: topV :: topV :: topV :: topV :: topV :: topV :: topV :: topV :: topV :: topV :: topV :: topV :: topV :: topV :: topV :: topV :: topV :: topV :: topV :: topV :: topV :: topV :: topV :: topV :: topV :: topV :: topV :: topV :: topV :: topV :: topV :: topV :: topV :: topV :: topV :: topV :: topV :: topV :: []), [some ⟨.view, .bytes (bs)⟩, some ⟨.box, .vals [.int .i64 (x), .int .i64 (y)]⟩, some ⟨.row 32 2, .ints (flat ps)⟩]⟩) (.leaf .normal ⟨(topV :: topV :: topV :: .slice (some ⟨2, 0, none⟩) (ps.length) (ps.length) :: .pointer (some ⟨1, 0, none⟩) :: .int .i64 ((↑k : Int)) :: .int .i64 (IntKind.i64.wrap ((↑i : Int) + 1)) :: topV :: topV :: topV :: topV :: topV :: topV :: topV :: topV :: topV :: topV :: topV :: topV :: topV :: topV :: topV :: topV :: topV :: topV :: topV :: topV :: topV :: topV :: topV :: topV :: topV :: topV :: topV :: topV :: topV :: topV :: topV :: topV :: topV :: topV :: topV :: topV :: topV :: topV :: topV :: topV :: topV :: topV :: topV :: topV :: topV :: topV :: topV :: topV :: topV :: topV :: topV :: topV :: []), [some ⟨.view, .bytes (bs)⟩, some ⟨.box, .vals [.int .i64 (x), .int .i64 (y)]⟩, some ⟨.row 32 2, .ints (flat ps)⟩]⟩)))))) (.leaf (.exit 0) ⟨(topV :: topV :: topV :: .slice (some ⟨2, 0, none⟩) (ps.length) (ps.length) :: topV :: topV :: topV :: topV :: topV :: topV :: topV :: topV :: topV :: topV :: topV :: topV :: topV :: topV :: topV :: topV :: topV :: topV :: topV :: topV :: topV :: topV :: topV :: topV :: topV :: topV :: topV :: topV :: topV :: topV :: topV :: topV :: topV :: topV :: topV :: topV :: topV :: topV :: topV :: topV :: topV :: topV :: topV :: topV :: topV :: topV :: topV :: topV :: topV :: topV :: topV :: topV :: topV :: topV :: topV :: []), [some ⟨.view, .bytes (bs)⟩, some ⟨.box, .vals [.int .i64 (x), .int .i64 (y)]⟩, some ⟨.row 32 2, .ints (flat ps)⟩]⟩) := by kernel_rfl
set_option maxRecDepth 100000 in
theorem nl_lawN : loopsOf c_lawN = [] := by kernel_rfl
def inv_lawN (bs : List Int) (ps : List Pt) (x y : Int) (k : Nat) : Nat → Prop := fun i => i ≤ ps.length
def me_lawN (bs : List Int) (ps : List Pt) (x y : Int) (k : Nat) : Nat → Nat := fun i => ps.length - i
/-- A round of this loop. -/
def Round_lawN (bs : List Int) (ps : List Pt) (x y : Int) (k : Nat) : Prop := ∀ xx : Nat, inv_lawN bs ps x y k xx → (bodyL Try.prog ENl0 30 12 noL 1 c_lawN k_lawN 3 (s_lawN bs ps x y k xx)).ok (RoundEnd 3 (s_lawN bs ps x y k) (inv_lawN bs ps x y k) (me_lawN bs ps x y k) re_lawN (rs_lawN bs ps x y k) xx) (fun _ _ => False)
def e_lawN (s : St) (k : Ex → St → Tree) : Option Tree := match Nat.beq s.tmps.length 59, pickL s.tmps [3, 4, 5, 6], s.mem with
  | true, [.slice (some ⟨2, 0, none⟩) m _, .pointer (some ⟨1, 0, none⟩), .int .i64 k1, .int .i64 i], [some ⟨.view, .bytes bs⟩, some ⟨.box, .vals [.int .i64 x, .int .i64 y]⟩, some ⟨.row 32 2, .ints xs⟩] => some (needs [i = 0, 0 ≤ k1 ∧ k1 < m, xs.length = m * 2, m ≤ 1000000000, Near (ptsA m xs) k1.toNat x y] (k (.exit 0) ⟨(topV :: topV :: topV :: .slice (some ⟨2, 0, none⟩) m m :: topV :: topV :: topV :: topV :: topV :: topV :: topV :: topV :: topV :: topV :: topV :: topV :: topV :: topV :: topV :: topV :: topV :: topV :: topV :: topV :: topV :: topV :: topV :: topV :: topV :: topV :: topV :: topV :: topV :: topV :: topV :: topV :: topV :: topV :: topV :: topV :: topV :: topV :: topV :: topV :: topV :: topV :: topV :: topV :: topV :: topV :: topV :: topV :: topV :: topV :: topV :: topV :: topV :: topV :: topV :: []), [some ⟨.view, .bytes bs⟩, some ⟨.box, .vals [.int .i64 x, .int .i64 y]⟩, some ⟨.row 32 2, .ints xs⟩]⟩))
  | _, _, _ => none
set_option maxRecDepth 100000 in
theorem round_lawN (bs : List Int) (ps : List Pt) (x y : Int) (k : Nat) (h : ps.length ≤ 1000000000) (hk : k < ps.length) (hn : Near ps k x y) : Round_lawN bs ps x y k := by
  intro i h1
  have h1 : i ≤ ps.length := h1
  rw [tr_lawN]
  simp only [brT_ok, Tree.ok, decide_eq_true_eq, decide_eq_false_iff_not, Int.toNat_natCast, Nat.zero_add, flat_length, flat_get0, flat_get1]
  refine ⟨fun hlt => ?_, fun hge => ?_⟩
  · rw [wsucc (n := ps.length) (by omega) h]
    have := hn i (by omega)
    unfold sqP at this
    refine ⟨by omega, by omega, by omega, by omega, fun hc => by omega, fun _ => ⟨i + 1, [], ?_, ?_, rfl, rfl, ?_⟩⟩
    · show i + 1 ≤ ps.length; omega
    · show ps.length - (i + 1) < ps.length - i; omega
    · repeat' (first | exact True.intro | exact rfl | exact fun _ => rfl | refine And.intro ?_ ?_)
  · refine ⟨rfl, [], ?_⟩
    repeat' (first | exact True.intro | exact rfl | exact fun _ => rfl | refine And.intro ?_ ?_)
set_option maxRecDepth 100000 in
theorem lg_lawN : LoopE Try.prog e_lawN c_lawN := by
  intro s k t F H hlt ht
  unfold e_lawN at hlt
  split at hlt
  rotate_left
  · cases hlt
  rename_i hlen hpick hmem
  obtain ⟨tmps, mem⟩ := s
  simp only at hlen hpick hmem
  subst hmem
  obtain rfl := Option.some.inj hlt
  obtain ⟨⟨rfl, h0, h1, h2, h3, _⟩, ht2⟩ := needs_ok ht
  clear ht hlt
  obtain ⟨ps, rfl, rfl⟩ := even_flat h1
  obtain ⟨k, rfl⟩ := Int.eq_ofNat_of_zero_le h0.1
  rw [ptsA_flat, Int.toNat_natCast] at h3
  refine ⟨_, _, ht2, loop_run mixed ENl0_ok (s_lawN _ _ _ _ _) (inv_lawN _ _ _ _ _) (me_lawN _ _ _ _ _) re_lawN (rs_lawN _ _ _ _ _) k_lawN (fun _ => rfl) (noLoops nl_lawN) (round_lawN _ _ _ _ _ h2 (by omega) h3) (x := 0) (Nat.zero_le _) (π := []) rfl ?_⟩
  refine ⟨rfl, rfl, ?_, wvs_spread' [3, 4, 5, 6] hlen rfl ?_⟩
  · repeat' (first | exact True.intro | exact rfl | exact wv_top _ _ | exact fun _ => rfl | assumption | exact Eq.symm (by assumption) | exact vI0 rfl | refine And.intro ?_ ?_)
  · rw [hpick]
    repeat' (first | exact True.intro | exact rfl | exact wv_top _ _ | exact fun _ => rfl | assumption | exact Eq.symm (by assumption) | exact vI0 rfl | refine And.intro ?_ ?_)
def EDn : Env := mkE B0 (fun f ds => match f, ds with
  | 109, [.row n (.bytes bs)] => some (dExL bs (rdL n), dRow bs (rdL n) 8, [Bytes bs, n ≤ bs.length])
  | _, _ => none) (fun _ => noL)
theorem EDn_ok : EnvOk Try.prog EDn := mkEOk B0_ok (by
  intro f ds v b C h hC
  dsimp only at h
  split at h
  · obtain ⟨rfl, rfl, rfl⟩ : _ ∧ _ ∧ _ := by simpa using h
    exact resR_dExt _ _ hC.1 hC.2.1
  · cases h) (fun _ _ _ => noL_good)
set_option maxRecDepth 100000 in
theorem tr_dNear (bs : List Int) (n : Nat) : bodyX Try.prog EDn 30 12 47 [.row n (.bytes bs)] = .need (Bytes (List.drop (0 : Nat) bs)) (.need (n ≤ (List.drop (0 : Nat) bs).length) (.fin (.tuple #[.slice (some ⟨2, 0, none⟩) ((apsL (List.drop 0 bs) (rdL n) 0 8).length) ((apsL (List.drop 0 bs) (rdL n) 0 8).length), .agg #[.int .i64 (apX (List.drop 0 bs) (rdL n) (apsP (List.drop 0 bs) (rdL n) 0 8)), .int .i64 (apY (List.drop 0 bs) (rdL n) (apsP (List.drop 0 bs) (rdL n) 0 8))]]) [some ⟨.view, .bytes (bs)⟩, some ⟨.box, .vals [.int .i64 (apX (List.drop 0 bs) (rdL n) (apsP (List.drop 0 bs) (rdL n) 0 8)), .int .i64 (apY (List.drop 0 bs) (rdL n) (apsP (List.drop 0 bs) (rdL n) 0 8))]⟩, some ⟨.row 32 2, .ints (flat (apsL (List.drop 0 bs) (rdL n) 0 8))⟩])) := by kernel_rfl
theorem resR_dNear (bs : List Int) (n : Nat) (hb : Bytes bs) (hn : n ≤ bs.length) : ResR Try.prog 47 [.row n (.bytes bs)] (dExL bs (rdL n)) (dRow bs (rdL n) 8) := by
  refine bodyX_resR mixed EDn_ok (m := 30) (n := 12) rfl ?_
  rw [tr_dNear]
  simp only [List.drop_zero]
  exact ⟨hb, hn, some 2, ⟨⟨rfl, rfl, rfl⟩, ⟨rfl, rfl⟩, trivial⟩, rfl, rfl, rfl⟩
def RDn : TabR := fun f ds => match f, ds with
  | 47, [.row n (.bytes bs)] => some (dExL bs (rdL n), dRow bs (rdL n) 8, [Bytes bs, n ≤ bs.length])
  | _, _ => none
theorem RDn_ok : TabROk Try.prog RDn := by
  intro f ds v b C h hC
  unfold RDn at h
  split at h
  · obtain ⟨rfl, rfl, rfl⟩ : _ ∧ _ ∧ _ := by simpa using h
    exact resR_dNear _ _ hC.1 hC.2.1
  · cases h
theorem Lr_lawN {fn : Func} (hf : Try.prog.funcs[10]? = some fn) : LoopsGood Try.prog (lt1 e_lawN) 0 (codeOf fn) := by
  obtain rfl := code_of Try.func10 hf
  exact lt1_good lg_lawN
def LlN : FuncId → LT := fun f => match f with
  | 10 => lt1 e_lawN
  | _ => noL
def ENl : Env := mkE T4n RDn LlN
theorem ENl_ok : EnvOk Try.prog ENl := mkEOk T4n_ok RDn_ok (by
  intro f fn hf
  unfold LlN
  split
  all_goals first | with_reducible exact Lr_lawN hf | exact noL_good)
set_option maxRecDepth 100000 in
theorem tr_lNear (bs : List Int) : bodyV Try.prog ENl 30 12 10 [.row bs.length (.bytes bs)] = brT (decide (1048576 < (↑bs.length : Int))) (.fin (.bool (true)) []) (.need (Bytes (List.drop (0 : Nat) bs)) (.need (bs.length ≤ (List.drop (0 : Nat) bs).length) (.need ((apsL (List.drop (0 : Nat) bs) (rdL bs.length) (0 : Int) (8 : Int)).length * (2 : Nat) ≤ (List.drop (0 : Nat) (flat (apsL (List.drop (0 : Nat) bs) (rdL bs.length) (0 : Int) (8 : Int)))).length) (.need ((apsL (List.drop (0 : Nat) bs) (rdL bs.length) (0 : Int) (8 : Int)).length ≤ (1000000000 : Nat)) (.need ((apsL (List.drop (0 : Nat) bs) (rdL bs.length) (0 : Int) (8 : Int)).length * (2 : Nat) ≤ (List.drop (0 : Nat) (flat (apsL (List.drop (0 : Nat) bs) (rdL bs.length) (0 : Int) (8 : Int)))).length) (.need ((apsL (List.drop (0 : Nat) bs) (rdL bs.length) (0 : Int) (8 : Int)).length ≤ (1000000000 : Nat)) (brT (!nearV (ptsA (apsL (List.drop 0 bs) (rdL bs.length) 0 8).length (List.drop 0 (flat (apsL (List.drop 0 bs) (rdL bs.length) 0 8)))) (apX (List.drop 0 bs) (rdL bs.length) (apsP (List.drop 0 bs) (rdL bs.length) 0 8)) (apY (List.drop 0 bs) (rdL bs.length) (apsP (List.drop 0 bs) (rdL bs.length) 0 8)) == nearV (ptsA (apsL (List.drop 0 bs) (rdL bs.length) 0 8).length (List.drop 0 (flat (apsL (List.drop 0 bs) (rdL bs.length) 0 8)))) (apX (List.drop 0 bs) (rdL bs.length) (apsP (List.drop 0 bs) (rdL bs.length) 0 8)) (apY (List.drop 0 bs) (rdL bs.length) (apsP (List.drop 0 bs) (rdL bs.length) 0 8))) (.need ((apsL (List.drop (0 : Nat) bs) (rdL bs.length) (0 : Int) (8 : Int)).length * (2 : Nat) ≤ (List.drop (0 : Nat) (flat (apsL (List.drop (0 : Nat) bs) (rdL bs.length) (0 : Int) (8 : Int)))).length) (.need ((apsL (List.drop (0 : Nat) bs) (rdL bs.length) (0 : Int) (8 : Int)).length ≤ (1000000000 : Nat)) (.fin (.bool (nearV (ptsA (apsL (List.drop 0 bs) (rdL bs.length) 0 8).length (List.drop 0 (flat (apsL (List.drop 0 bs) (rdL bs.length) 0 8)))) (apX (List.drop 0 bs) (rdL bs.length) (apsP (List.drop 0 bs) (rdL bs.length) 0 8)) (apY (List.drop 0 bs) (rdL bs.length) (apsP (List.drop 0 bs) (rdL bs.length) 0 8)) == nearV (ptsA (apsL (List.drop 0 bs) (rdL bs.length) 0 8).length (List.drop 0 (flat (apsL (List.drop 0 bs) (rdL bs.length) 0 8)))) (apX (List.drop 0 bs) (rdL bs.length) (apsP (List.drop 0 bs) (rdL bs.length) 0 8)) (apY (List.drop 0 bs) (rdL bs.length) (apsP (List.drop 0 bs) (rdL bs.length) 0 8)))) []))) (brT (decide (nearV (ptsA (apsL (List.drop 0 bs) (rdL bs.length) 0 8).length (List.drop 0 (flat (apsL (List.drop 0 bs) (rdL bs.length) 0 8)))) (apX (List.drop 0 bs) (rdL bs.length) (apsP (List.drop 0 bs) (rdL bs.length) 0 8)) (apY (List.drop 0 bs) (rdL bs.length) (apsP (List.drop 0 bs) (rdL bs.length) 0 8)) < 0)) (.need ((apsL (List.drop (0 : Nat) bs) (rdL bs.length) (0 : Int) (8 : Int)).length * (2 : Nat) ≤ (List.drop (0 : Nat) (flat (apsL (List.drop (0 : Nat) bs) (rdL bs.length) (0 : Int) (8 : Int)))).length) (.need ((apsL (List.drop (0 : Nat) bs) (rdL bs.length) (0 : Int) (8 : Int)).length ≤ (1000000000 : Nat)) (.fin (.bool (nearV (ptsA (apsL (List.drop 0 bs) (rdL bs.length) 0 8).length (List.drop 0 (flat (apsL (List.drop 0 bs) (rdL bs.length) 0 8)))) (apX (List.drop 0 bs) (rdL bs.length) (apsP (List.drop 0 bs) (rdL bs.length) 0 8)) (apY (List.drop 0 bs) (rdL bs.length) (apsP (List.drop 0 bs) (rdL bs.length) 0 8)) == nearV (ptsA (apsL (List.drop 0 bs) (rdL bs.length) 0 8).length (List.drop 0 (flat (apsL (List.drop 0 bs) (rdL bs.length) 0 8)))) (apX (List.drop 0 bs) (rdL bs.length) (apsP (List.drop 0 bs) (rdL bs.length) 0 8)) (apY (List.drop 0 bs) (rdL bs.length) (apsP (List.drop 0 bs) (rdL bs.length) 0 8)))) []))) (.need ((0 : Int) = (0 : Int)) (.need ((0 : Int) ≤ nearV (ptsA (apsL (List.drop (0 : Nat) bs) (rdL bs.length) (0 : Int) (8 : Int)).length (List.drop (0 : Nat) (flat (apsL (List.drop (0 : Nat) bs) (rdL bs.length) (0 : Int) (8 : Int))))) (apX (List.drop (0 : Nat) bs) (rdL bs.length) (apsP (List.drop (0 : Nat) bs) (rdL bs.length) (0 : Int) (8 : Int))) (apY (List.drop (0 : Nat) bs) (rdL bs.length) (apsP (List.drop (0 : Nat) bs) (rdL bs.length) (0 : Int) (8 : Int))) ∧ nearV (ptsA (apsL (List.drop (0 : Nat) bs) (rdL bs.length) (0 : Int) (8 : Int)).length (List.drop (0 : Nat) (flat (apsL (List.drop (0 : Nat) bs) (rdL bs.length) (0 : Int) (8 : Int))))) (apX (List.drop (0 : Nat) bs) (rdL bs.length) (apsP (List.drop (0 : Nat) bs) (rdL bs.length) (0 : Int) (8 : Int))) (apY (List.drop (0 : Nat) bs) (rdL bs.length) (apsP (List.drop (0 : Nat) bs) (rdL bs.length) (0 : Int) (8 : Int))) < (↑(apsL (List.drop (0 : Nat) bs) (rdL bs.length) (0 : Int) (8 : Int)).length : Int)) (.need ((flat (apsL (List.drop (0 : Nat) bs) (rdL bs.length) (0 : Int) (8 : Int))).length = (apsL (List.drop (0 : Nat) bs) (rdL bs.length) (0 : Int) (8 : Int)).length * (2 : Nat)) (.need ((apsL (List.drop (0 : Nat) bs) (rdL bs.length) (0 : Int) (8 : Int)).length ≤ (1000000000 : Nat)) (.need (Near (ptsA (apsL (List.drop (0 : Nat) bs) (rdL bs.length) (0 : Int) (8 : Int)).length (flat (apsL (List.drop (0 : Nat) bs) (rdL bs.length) (0 : Int) (8 : Int)))) (nearV (ptsA (apsL (List.drop (0 : Nat) bs) (rdL bs.length) (0 : Int) (8 : Int)).length (List.drop (0 : Nat) (flat (apsL (List.drop (0 : Nat) bs) (rdL bs.length) (0 : Int) (8 : Int))))) (apX (List.drop (0 : Nat) bs) (rdL bs.length) (apsP (List.drop (0 : Nat) bs) (rdL bs.length) (0 : Int) (8 : Int))) (apY (List.drop (0 : Nat) bs) (rdL bs.length) (apsP (List.drop (0 : Nat) bs) (rdL bs.length) (0 : Int) (8 : Int)))).toNat (apX (List.drop (0 : Nat) bs) (rdL bs.length) (apsP (List.drop (0 : Nat) bs) (rdL bs.length) (0 : Int) (8 : Int))) (apY (List.drop (0 : Nat) bs) (rdL bs.length) (apsP (List.drop (0 : Nat) bs) (rdL bs.length) (0 : Int) (8 : Int)))) (.need ((0 : Int) ≤ (0 : Int) ∧ (0 : Int) < (↑(apsL (List.drop (0 : Nat) bs) (rdL bs.length) (0 : Int) (8 : Int)).length : Int)) (.need ((2 : Nat) ≤ (flat (apsL (List.drop (0 : Nat) bs) (rdL bs.length) (0 : Int) (8 : Int))).length) (.need ((apsL (List.drop (0 : Nat) bs) (rdL bs.length) (0 : Int) (8 : Int)).length * (2 : Nat) ≤ (List.drop (0 : Nat) (flat (apsL (List.drop (0 : Nat) bs) (rdL bs.length) (0 : Int) (8 : Int)))).length) (.need ((apsL (List.drop (0 : Nat) bs) (rdL bs.length) (0 : Int) (8 : Int)).length ≤ (1000000000 : Nat)) (.fin (.bool (nearV (ptsA (apsL (List.drop 0 bs) (rdL bs.length) 0 8).length (List.drop 0 (flat (apsL (List.drop 0 bs) (rdL bs.length) 0 8)))) ((flat (apsL (List.drop 0 bs) (rdL bs.length) 0 8)).getD 0 0) ((flat (apsL (List.drop 0 bs) (rdL bs.length) 0 8)).getD 1 0) == 0)) [])))))))))))))))))) := by kernel_rfl
theorem ag_max {f : Pt → Int} {ps : List Pt} : ∀ (n i b : Nat), b < ps.length → i + n ≤ ps.length → ag f ps n i b < ps.length ∧ f (ps.getD b (0, 0)) ≤ f (ps.getD (ag f ps n i b) (0, 0)) ∧ ∀ j, i ≤ j → j < i + n → f (ps.getD j (0, 0)) ≤ f (ps.getD (ag f ps n i b) (0, 0))
  | 0, i, b, hb, _ => ⟨hb, Int.le_refl _, fun j h1 h2 => by omega⟩
  | n + 1, i, b, hb, hi => by
    have hb' : (if f (ps.getD b (0, 0)) < f (ps.getD i (0, 0)) then i else b) < ps.length := by split <;> omega
    obtain ⟨h1, h2, h3⟩ := ag_max n (i + 1) (if f (ps.getD b (0, 0)) < f (ps.getD i (0, 0)) then i else b) hb' (by omega)
    show ag f ps n (i + 1) (if f (ps.getD b (0, 0)) < f (ps.getD i (0, 0)) then i else b) < ps.length ∧ f (ps.getD b (0, 0)) ≤ f (ps.getD (ag f ps n (i + 1) (if f (ps.getD b (0, 0)) < f (ps.getD i (0, 0)) then i else b)) (0, 0)) ∧ ∀ j, i ≤ j → j < i + (n + 1) → f (ps.getD j (0, 0)) ≤ f (ps.getD (ag f ps n (i + 1) (if f (ps.getD b (0, 0)) < f (ps.getD i (0, 0)) then i else b)) (0, 0))
    refine ⟨h1, ?_, fun j hj1 hj2 => ?_⟩
    · refine Int.le_trans ?_ h2
      split <;> omega
    · rcases Nat.lt_or_ge i j with h | h
      · exact h3 j (by omega) (by omega)
      · obtain rfl : j = i := by omega
        refine Int.le_trans ?_ h2
        split <;> omega
theorem ag_same {f : Pt → Int} {ps : List Pt} {b : Nat} (h : ∀ j, f (ps.getD j (0, 0)) ≤ f (ps.getD b (0, 0))) : ∀ (n i : Nat), ag f ps n i b = b
  | 0, _ => rfl
  | n + 1, i => by
    have := h i
    show ag f ps n (i + 1) (if f (ps.getD b (0, 0)) < f (ps.getD i (0, 0)) then i else b) = b
    rw [if_neg (by omega)]
    exact ag_same h n (i + 1)
theorem sq_pos (p q : Pt) : 0 ≤ sq p q := by
  unfold sq
  have h : ∀ x : Int, 0 ≤ x * x := fun x => by
    rcases Int.le_total 0 x with k | k
    · exact Int.mul_nonneg k k
    · exact Int.mul_nonneg_of_nonpos_of_nonpos k k
  have := h (p.1 - q.1)
  have := h (p.2 - q.2)
  omega
theorem near_part (ps : List Pt) (x y : Int) : nearV ps x y = -1 ∨ ∃ k : Nat, nearV ps x y = k ∧ k < ps.length ∧ Near ps k x y ∧ nearV ps (ps.getD 0 (0, 0)).1 (ps.getD 0 (0, 0)).2 = 0 := by
  unfold nearV flV
  rcases h : (okL ps && ptB x y) with _ | _
  · exact .inl rfl
  simp only [cond_true]
  simp only [Bool.and_eq_true, okL] at h
  have hv : ∀ p ∈ ps, vB p = true := List.all_eq_true.1 h.1.1
  by_cases hl : ps.length = 0
  · left
    unfold fl
    rw [if_pos (by omega), if_pos (by omega)]
  right
  have e : ∀ f : Pt → Int, fl f ps 0 (-1) = (ag f ps (ps.length - 1) 1 0 : Nat) := fun f => by
    unfold fl
    rw [if_pos (by omega), if_neg (by omega)]
  obtain ⟨h1, h2, h3⟩ := ag_max (f := fN (x, y)) (ps := ps) (ps.length - 1) 1 0 (by omega) (by omega)
  rw [e]
  refine ⟨_, rfl, h1, fun j hj => ?_, ?_⟩
  · have hm : fN (x, y) (ps.getD j (0, 0)) ≤ fN (x, y) (ps.getD (ag (fN (x, y)) ps (ps.length - 1) 1 0) (0, 0)) := by
      rcases Nat.eq_zero_or_pos j with rfl | hj0
      · exact h2
      · exact h3 j hj0 (by omega)
    have val : ∀ i, i < ps.length → sqP ps i x y = sq (ps.getD i (0, 0)) (x, y) := fun i hi => by
      have : vB (ps.getD i (0, 0)) = true := hv _ (by simp [hi])
      unfold vB at this
      unfold sqP sqK
      rw [this, h.2]
      rfl
    rw [val _ h1, val _ hj]
    simp only [show ∀ p, fN (x, y) p = -sq p (x, y) from fun _ => rfl] at hm
    omega
  · have hp : 0 < ps.length := by omega
    have h0 : vB (ps.getD 0 (0, 0)) = true := hv _ (by simp [hp])
    unfold vB at h0
    have hk : (okL ps && ptB (ps.getD 0 (0, 0)).1 (ps.getD 0 (0, 0)).2) = true := by
      rw [h0]
      unfold okL
      rw [h.1.1, h.1.2]
      rfl
    rw [hk]
    simp only [cond_true]
    rw [e, ag_same]
    · rfl
    · intro j
      have a := sq_pos (ps.getD j (0, 0)) ((ps.getD 0 (0, 0)).1, (ps.getD 0 (0, 0)).2)
      have b : sq (ps.getD 0 (0, 0)) ((ps.getD 0 (0, 0)).1, (ps.getD 0 (0, 0)).2) = 0 := by unfold sq; simp
      unfold fN
      omega
theorem law_near (bs : List Int) (hb : Bytes bs) (_ : bs.length ≤ maxLen) : Res Try.prog 10 [.row bs.length (.bytes bs)] (.bool true) := by
  refine bodyV_res mixed ENl_ok (m := 30) (n := 12) rfl ?_
  rw [tr_lNear]
  simp only [List.drop_zero, ptsA_flat, flat_length]
  obtain ⟨_, _, _, hL⟩ := drKey hb (Nat.le_refl _) (l := rdL bs.length) (by unfold rdL; omega) (by unfold rdL; omega) (m := 8) (by omega)
  generalize apsL bs (rdL bs.length) 0 8 = ps at *
  generalize apX bs (rdL bs.length) (apsP bs (rdL bs.length) 0 8) = x
  generalize apY bs (rdL bs.length) (apsP bs (rdL bs.length) 0 8) = y
  have hl : ps.length ≤ 1000000000 := by omega
  have g0 : (flat ps)[0]?.getD 0 = (ps.getD 0 (0, 0)).1 := by
    have := flat_get0 ps 0
    rw [List.getD_eq_getElem?_getD] at this
    exact this
  have g1 : (flat ps)[1]?.getD 0 = (ps.getD 0 (0, 0)).2 := by
    have := flat_get1 ps 0
    rw [List.getD_eq_getElem?_getD] at this
    exact this
  rcases near_part ps x y with h | ⟨k, h1, h2, h3, h4⟩
  · simp [brT_ok, Tree.ok, hb, h, hl]
  · have nn : ¬ (k : Int) < 0 := by omega
    have hp : 0 < ps.length := by omega
    simp only [h1]
    simp [brT_ok, Tree.ok, hb, hl, nn, h2, h3, hp]
    intro _
    rw [g0, g1]
    exact ⟨by omega, h4⟩
end Go.Proofs.Ytfjcbindeimoiab
