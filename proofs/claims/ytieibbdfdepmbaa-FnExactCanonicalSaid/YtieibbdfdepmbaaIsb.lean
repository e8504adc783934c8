/-
  Simple polygons: the model's way. Written by an AI agent.
-/
import Derived.Test.YtieibbdfdepmbaaCem
import Derived.Test.YtieibbdfdepmbaaIss
namespace Go.Proofs.Ytieibbdfdepmbaa
set_option linter.all false
open Go.RowKit

/-- So many different valid points. -/
def rngQ (ps : List Pt) : Bool := okL ps && decide (3 ≤ ps.length) && ((srtL ps).length == ps.length)
set_option maxRecDepth 100000 in
theorem tr_sRng (ps : List Pt) : bodyV Try.prog EIs 30 12 97 [.row ps.length (.ints (flat ps))] = .need (ps.length * (2 : Nat) ≤ (List.drop (0 : Nat) (flat ps)).length) (.need (ps.length ≤ (1000000000 : Nat)) (brT (okL (ptsA ps.length (List.drop 0 (flat ps)))) (brT (decide (3 ≤ (↑ps.length : Int))) (brT (decide ((↑ps.length : Int) ≤ 20)) (.need (ps.length * (2 : Nat) ≤ (List.drop (0 : Nat) (flat ps)).length) (.need (ps.length ≤ (1000 : Nat)) (.fin (.bool ((↑(srtL (ptsA ps.length (List.drop 0 (flat ps)))).length : Int) == (↑ps.length : Int))) []))) (.fin (.bool (false)) [])) (.fin (.bool (false)) [])) (.fin (.bool (false)) []))) := by kernel_rfl
theorem res_sRng (ps : List Pt) (h : Big ps) : Res Try.prog 97 [.row ps.length (.ints (flat ps))] (.bool (rngQ ps)) := by
  refine bodyV_res mixed EIs_ok (m := 30) (n := 12) rfl ?_
  rw [tr_sRng]
  unfold Big at h
  simp only [List.drop_zero, ptsA_flat, flat_length]
  unfold rngQ
  have hq : ((((srtL ps).length : Nat) : Int) == (ps.length : Int)) = ((srtL ps).length == ps.length) := by rw [Bool.eq_iff_iff]; simp; omega
  rw [hq]
  rcases ho : okL ps with _ | _
  · simp [brT_ok, Tree.ok, h]
  · have hl : ps.length ≤ 20 := by
      unfold okL at ho
      simp only [Bool.and_eq_true, decide_eq_true_eq] at ho
      exact ho.2
    have a3 : (ps.length : Int) ≤ 20 := by omega
    have a4 : ps.length ≤ 1000 := by omega
    by_cases h1 : 3 ≤ ps.length
    · have a1 : (3 : Int) ≤ ps.length := by omega
      simp [brT_ok, Tree.ok, h, h1, a1, a3, a4]
    · have a1 : ¬ (3 : Int) ≤ ps.length := by omega
      simp [brT_ok, Tree.ok, h, h1, a1]
def pRng : List DArg → Option (Value × List Prop)
  | [.row m (.ints xs)] => some (.bool (rngQ (ptsA m xs)), [m * 2 ≤ xs.length, m ≤ 1000000000])
  | _ => none
theorem pRng_ok {ds : List DArg} {v : Value} {C : List Prop} (h : pRng ds = some (v, C)) (hC : AllP C) : Res Try.prog 97 ds v := by
  unfold pRng at h
  split at h
  · rename_i m xs
    obtain ⟨rfl, rfl⟩ : _ ∧ _ := by simpa using h
    obtain ⟨_, h2⟩ := ptsA_spec hC.1
    exact res_pts1 (pre := []) (post := []) hC.1 (res_sRng (ptsA m xs) (by unfold Big; rw [h2]; exact hC.2.1))
  · cases h
def TIt : Tab := fun f ds => match f with
  | 97 => pRng ds
  | f => TIs f ds
theorem TIt_ok : TabOk Try.prog TIt := by
  intro f ds v C h hC
  unfold TIt at h
  (try split at h)
  all_goals first | with_reducible exact pRng_ok h hC | exact TIs_ok _ _ _ _ h hC
def EIt : Env := mkE TIt RCe (fun _ => noL)
theorem EIt_ok : EnvOk Try.prog EIt := mkEOk TIt_ok RCe_ok (fun _ _ _ => noL_good)
def edX (ps : List Pt) (i k : Nat) : Int := relA (ps.getD i (0, 0)).1 (ps.getD i (0, 0)).2 (nxP ps i).1 (nxP ps i).2 (ps.getD k (0, 0)).1 (ps.getD k (0, 0)).2 (nxP ps k).1 (nxP ps k).2
def nbS (ps : List Pt) (i k : Nat) : Bool := decide (k + 1 = i) || decide ((i + 1) % ps.length = k)
def okS (ps : List Pt) (i k : Nat) : Bool := bif nbS ps i k then !(edX ps i k == 3) else edX ps i k == 0
def rowS (ps : List Pt) (i : Nat) : Bool := allQ (okS ps i) 0 i
def simS (ps : List Pt) : Bool := allQ (rowS ps) 0 ps.length
theorem pt_get {ps : List Pt} (h : allV ps = true) {j : Nat} (hj : j < ps.length) : ptB (ps.getD j (0, 0)).1 (ps.getD j (0, 0)).2 = true := List.all_eq_true.1 h (ps.getD j (0, 0)) (by simp [hj])
noncomputable def c_ssI : Code := ((loopsOf (codeOf Try.f62))[1]?).getD .skip
def k_ssI : Ex → List Nat := keeps [0, 3, 4, 5] [(2, [0, 3, 4]), (1, [0, 3, 4])] [2]
def s_ssI (ps : List Pt) (i : Nat) : Nat → St := fun k => ⟨(.slice (some ⟨0, 0, none⟩) ps.length ps.length :: topV :: topV :: .int .i64 ps.length :: .int .i64 i :: .int .i64 k :: topV :: topV :: topV :: topV :: topV :: topV :: topV :: topV :: topV :: topV :: topV :: topV :: topV :: topV :: topV :: topV :: topV :: topV :: topV :: topV :: topV :: topV :: topV :: topV :: topV :: topV :: topV :: topV :: topV :: topV :: topV :: topV :: topV :: topV :: topV :: topV :: topV :: topV :: topV :: topV :: topV :: topV :: topV :: topV :: topV :: topV :: topV :: topV :: topV :: []), [some ⟨.view, .ints (flat ps)⟩]⟩
def re_ssI (ps : List Pt) (i : Nat) : Nat → Ex := fun k => bif allQ (okS ps i) k (i - k) then .exit 2 else .ret
def rs_ssI (ps : List Pt) (i : Nat) : Nat → St := fun k => bif allQ (okS ps i) k (i - k) then ⟨(.slice (some ⟨0, 0, none⟩) ps.length ps.length :: topV :: topV :: .int .i64 ps.length :: .int .i64 i :: topV :: topV :: topV :: topV :: topV :: topV :: topV :: topV :: topV :: topV :: topV :: topV :: topV :: topV :: topV :: topV :: topV :: topV :: topV :: topV :: topV :: topV :: topV :: topV :: topV :: topV :: topV :: topV :: topV :: topV :: topV :: topV :: topV :: topV :: topV :: topV :: topV :: topV :: topV :: topV :: topV :: topV :: topV :: topV :: topV :: topV :: topV :: topV :: topV :: topV :: []), [some ⟨.view, .ints (flat ps)⟩]⟩ else ⟨(topV :: topV :: .bool false :: topV :: topV :: topV :: topV :: topV :: topV :: topV :: topV :: topV :: topV :: topV :: topV :: topV :: topV :: topV :: topV :: topV :: topV :: topV :: topV :: topV :: topV :: topV :: topV :: topV :: topV :: topV :: topV :: topV :: topV :: topV :: topV :: topV :: topV :: topV :: topV :: topV :: topV :: topV :: topV :: topV :: topV :: topV :: topV :: topV :: topV :: topV :: topV :: topV :: topV :: topV :: topV :: []), [some ⟨.view, .ints (flat ps)⟩]⟩
set_option maxRecDepth 100000 in
theorem tr_ssI (ps : List Pt) (i : Nat) (k : Nat) : bodyL Try.prog EIt 30 12 noL 2 c_ssI k_ssI 1 (s_ssI ps i k) = brT (decide ((↑k : Int) < (↑i : Int))) (.need ((0 : Int) ≤ (↑i : Int) ∧ (↑i : Int) < (↑ps.length : Int)) (.need ((0 : Nat) + (↑i : Int).toNat * (2 : Nat) + (2 : Nat) ≤ (flat ps).length) (.need (¬(↑ps.length : Int) = (0 : Int)) (.need ((0 : Int) ≤ (IntKind.i64.wrap ((↑i : Int) + (1 : Int))).tmod (↑ps.length : Int) ∧ (IntKind.i64.wrap ((↑i : Int) + (1 : Int))).tmod (↑ps.length : Int) < (↑ps.length : Int)) (.need ((0 : Nat) + ((IntKind.i64.wrap ((↑i : Int) + (1 : Int))).tmod (↑ps.length : Int)).toNat * (2 : Nat) + (2 : Nat) ≤ (flat ps).length) (.need ((0 : Int) ≤ (↑k : Int) ∧ (↑k : Int) < (↑ps.length : Int)) (.need ((0 : Nat) + (↑k : Int).toNat * (2 : Nat) + (2 : Nat) ≤ (flat ps).length) (.need (¬(↑ps.length : Int) = (0 : Int)) (.need ((0 : Int) ≤ (IntKind.i64.wrap ((↑k : Int) + (1 : Int))).tmod (↑ps.length : Int) ∧ (IntKind.i64.wrap ((↑k : Int) + (1 : Int))).tmod (↑ps.length : Int) < (↑ps.length : Int)) (.need ((0 : Nat) + ((IntKind.i64.wrap ((↑k : Int) + (1 : Int))).tmod (↑ps.length : Int)).toNat * (2 : Nat) + (2 : Nat) ≤ (flat ps).length) (.need (ptB ((flat ps).getD ((0 : Nat) + (↑i : Int).toNat * (2 : Nat)) (0 : Int)) ((flat ps).getD ((0 : Nat) + (↑i : Int).toNat * (2 : Nat) + (1 : Nat)) (0 : Int)) = true) (.need (ptB ((flat ps).getD ((0 : Nat) + ((IntKind.i64.wrap ((↑i : Int) + (1 : Int))).tmod (↑ps.length : Int)).toNat * (2 : Nat)) (0 : Int)) ((flat ps).getD ((0 : Nat) + ((IntKind.i64.wrap ((↑i : Int) + (1 : Int))).tmod (↑ps.length : Int)).toNat * (2 : Nat) + (1 : Nat)) (0 : Int)) = true) (.need (ptB ((flat ps).getD ((0 : Nat) + (↑k : Int).toNat * (2 : Nat)) (0 : Int)) ((flat ps).getD ((0 : Nat) + (↑k : Int).toNat * (2 : Nat) + (1 : Nat)) (0 : Int)) = true) (.need (ptB ((flat ps).getD ((0 : Nat) + ((IntKind.i64.wrap ((↑k : Int) + (1 : Int))).tmod (↑ps.length : Int)).toNat * (2 : Nat)) (0 : Int)) ((flat ps).getD ((0 : Nat) + ((IntKind.i64.wrap ((↑k : Int) + (1 : Int))).tmod (↑ps.length : Int)).toNat * (2 : Nat) + (1 : Nat)) (0 : Int)) = true) (brT (IntKind.i64.wrap ((↑k : Int) + 1) == (↑i : Int)) (brT (relA ((flat ps).getD (0 + (↑i : Int).toNat * 2) 0) ((flat ps).getD (0 + (↑i : Int).toNat * 2 + 1) 0) ((flat ps).getD (0 + ((IntKind.i64.wrap ((↑i : Int) + 1)).tmod (↑ps.length : Int)).toNat * 2) 0) ((flat ps).getD (0 + ((IntKind.i64.wrap ((↑i : Int) + 1)).tmod (↑ps.length : Int)).toNat * 2 + 1) 0) ((flat ps).getD (0 + (↑k : Int).toNat * 2) 0) ((flat ps).getD (0 + (↑k : Int).toNat * 2 + 1) 0) ((flat ps).getD (0 + ((IntKind.i64.wrap ((↑k : Int) + 1)).tmod (↑ps.length : Int)).toNat * 2) 0) ((flat ps).getD (0 + ((IntKind.i64.wrap ((↑k : Int) + 1)).tmod (↑ps.length : Int)).toNat * 2 + 1) 0) == 3) (.leaf .ret ⟨(topV :: topV :: .bool (false) :: topV :: topV :: topV :: topV :: topV :: topV :: topV :: topV :: topV :: topV :: topV :: topV :: topV :: topV :: topV :: topV :: topV :: topV :: topV :: topV :: topV :: topV :: topV :: topV :: topV :: topV :: topV :: topV :: topV :: topV :: topV :: topV :: topV :: topV :: topV :: topV :: topV :: topV :: topV :: topV :: topV :: topV :: topV :: topV :: topV :: topV :: topV :: topV :: topV :: topV :: topV :: topV :: []), [some ⟨.view, .ints (flat ps)⟩]⟩) (.leaf .normal ⟨(.slice (some ⟨0, 0, none⟩) (ps.length) (ps.length) :: topV :: topV :: .int .i64 ((↑ps.length : Int)) :: .int .i64 ((↑i : Int)) :: .int .i64 (IntKind.i64.wrap ((↑k : Int) + 1)) :: topV :: topV :: topV :: topV :: topV :: topV :: topV :: topV :: topV :: topV :: topV :: topV :: topV :: topV :: topV :: topV :: topV :: topV :: topV :: topV :: topV :: topV :: topV :: topV :: topV :: topV :: topV :: topV :: topV :: topV :: topV :: topV :: topV :: topV :: topV :: topV :: topV :: topV :: topV :: topV :: topV :: topV :: topV :: topV :: topV :: topV :: topV :: topV :: topV :: []), [some ⟨.view, .ints (flat ps)⟩]⟩)) (.need (¬(↑ps.length : Int) = (0 : Int)) (brT ((IntKind.i64.wrap ((↑i : Int) + 1)).tmod (↑ps.length : Int) == (↑k : Int)) (brT (relA ((flat ps).getD (0 + (↑i : Int).toNat * 2) 0) ((flat ps).getD (0 + (↑i : Int).toNat * 2 + 1) 0) ((flat ps).getD (0 + ((IntKind.i64.wrap ((↑i : Int) + 1)).tmod (↑ps.length : Int)).toNat * 2) 0) ((flat ps).getD (0 + ((IntKind.i64.wrap ((↑i : Int) + 1)).tmod (↑ps.length : Int)).toNat * 2 + 1) 0) ((flat ps).getD (0 + (↑k : Int).toNat * 2) 0) ((flat ps).getD (0 + (↑k : Int).toNat * 2 + 1) 0) ((flat ps).getD (0 + ((IntKind.i64.wrap ((↑k : Int) + 1)).tmod (↑ps.length : Int)).toNat * 2) 0) ((flat ps).getD (0 + ((IntKind.i64.wrap ((↑k : Int) + 1)).tmod (↑ps.length : Int)).toNat * 2 + 1) 0) == 3) (.leaf .ret ⟨(topV :: topV :: .bool (false) :: topV :: topV :: topV :: topV :: topV :: topV :: topV :: topV :: topV :: topV :: topV :: topV :: topV :: topV :: topV :: topV :: topV :: topV :: topV :: topV :: topV :: topV :: topV :: topV :: topV :: topV :: topV :: topV :: topV :: topV :: topV :: topV :: topV :: topV :: topV :: topV :: topV :: topV :: topV :: topV :: topV :: topV :: topV :: topV :: topV :: topV :: topV :: topV :: topV :: topV :: topV :: topV :: []), [some ⟨.view, .ints (flat ps)⟩]⟩) (brT (!(IntKind.i64.wrap ((↑i : Int) + 1)).tmod (↑ps.length : Int) == (↑k : Int)) (brT (!relA ((flat ps).getD (0 + (↑i : Int).toNat * 2) 0) ((flat ps).getD (0 + (↑i : Int).toNat * 2 + 1) 0) ((flat ps).getD (0 + ((IntKind.i64.wrap ((↑i : Int) + 1)).tmod (↑ps.length : Int)).toNat * 2) 0) ((flat ps).getD (0 + ((IntKind.i64.wrap ((↑i : Int) + 1)).tmod (↑ps.length : Int)).toNat * 2 + 1) 0) ((flat ps).getD (0 + (↑k : Int).toNat * 2) 0) ((flat ps).getD (0 + (↑k : Int).toNat * 2 + 1) 0) ((flat ps).getD (0 + ((IntKind.i64.wrap ((↑k : Int) + 1)).tmod (↑ps.length : Int)).toNat * 2) 0) ((flat ps).getD (0 + ((IntKind.i64.wrap ((↑k : Int) + 1)).tmod (↑ps.length : Int)).toNat * 2 + 1) 0) == 0) (.leaf .ret ⟨(topV :: topV :: .bool (false) :: topV :: topV :: topV :: topV :: topV :: topV :: topV :: topV :: topV :: topV :: topV :: topV :: topV :: topV :: topV :: topV :: topV :: topV :: topV :: topV :: topV :: topV :: topV :: topV :: topV :: topV :: topV :: topV :: topV :: topV :: topV :: topV :: topV :: topV :: topV :: topV :: topV :: topV :: topV :: topV :: topV :: topV :: topV :: topV :: topV :: topV :: topV :: topV :: topV :: topV :: topV :: topV :: []), [some ⟨.view, .ints (flat ps)⟩]⟩) (.leaf .normal ⟨(.slice (some ⟨0, 0, none⟩) (ps.length) (ps.length) :: topV :: topV :: .int .i64 ((↑ps.length : Int)) :: .int .i64 ((↑i : Int)) :: .int .i64 (IntKind.i64.wrap ((↑k : Int) + 1)) :: topV :: topV :: topV :: topV :: topV :: topV :: topV :: topV :: topV :: topV :: topV :: topV :: topV :: topV :: topV :: topV :: topV :: topV :: topV :: topV :: topV :: topV :: topV :: topV :: topV :: topV :: topV :: topV :: topV :: topV :: topV :: topV :: topV :: topV :: topV :: topV :: topV :: topV :: topV :: topV :: topV :: topV :: topV :: topV :: topV :: topV :: topV :: topV :: topV :: []), [some ⟨.view, .ints (flat ps)⟩]⟩)) (.leaf .normal ⟨(.slice (some ⟨0, 0, none⟩) (ps.length) (ps.length) :: topV :: topV :: .int .i64 ((↑ps.length : Int)) :: .int .i64 ((↑i : Int)) :: .int .i64 (IntKind.i64.wrap ((↑k : Int) + 1)) :: topV :: topV :: topV :: topV :: topV :: topV :: topV :: topV :: topV :: topV :: topV :: topV :: topV :: topV :: topV :: topV :: topV :: topV :: topV :: topV :: topV :: topV :: topV :: topV :: topV :: topV :: topV :: topV :: topV :: topV :: topV :: topV :: topV :: topV :: topV :: topV :: topV :: topV :: topV :: topV :: topV :: topV :: topV :: topV :: topV :: topV :: topV :: topV :: topV :: []), [some ⟨.view, .ints (flat ps)⟩]⟩))) (brT (!(IntKind.i64.wrap ((↑i : Int) + 1)).tmod (↑ps.length : Int) == (↑k : Int)) (brT (!relA ((flat ps).getD (0 + (↑i : Int).toNat * 2) 0) ((flat ps).getD (0 + (↑i : Int).toNat * 2 + 1) 0) ((flat ps).getD (0 + ((IntKind.i64.wrap ((↑i : Int) + 1)).tmod (↑ps.length : Int)).toNat * 2) 0) ((flat ps).getD (0 + ((IntKind.i64.wrap ((↑i : Int) + 1)).tmod (↑ps.length : Int)).toNat * 2 + 1) 0) ((flat ps).getD (0 + (↑k : Int).toNat * 2) 0) ((flat ps).getD (0 + (↑k : Int).toNat * 2 + 1) 0) ((flat ps).getD (0 + ((IntKind.i64.wrap ((↑k : Int) + 1)).tmod (↑ps.length : Int)).toNat * 2) 0) ((flat ps).getD (0 + ((IntKind.i64.wrap ((↑k : Int) + 1)).tmod (↑ps.length : Int)).toNat * 2 + 1) 0) == 0) (.leaf .ret ⟨(topV :: topV :: .bool (false) :: topV :: topV :: topV :: topV :: topV :: topV :: topV :: topV :: topV :: topV :: topV :: topV :: topV :: topV :: topV :: topV :: topV :: topV :: topV :: topV :: topV :: topV :: topV :: topV :: topV :: topV :: topV :: topV :: topV :: topV :: topV :: topV :: topV :: topV :: topV :: topV :: topV :: topV :: topV :: topV :: topV :: topV :: topV :: topV :: topV :: topV :: topV :: topV :: topV :: topV :: topV :: topV :: []), [some ⟨.view, .ints (flat ps)⟩]⟩) (.leaf .normal ⟨(.slice (some ⟨0, 0, none⟩) (ps.length) (ps.length) :: topV :: topV :: .int .i64 ((↑ps.length : Int)) :: .int .i64 ((↑i : Int)) :: .int .i64 (IntKind.i64.wrap ((↑k : Int) + 1)) :: topV :: topV :: topV :: topV :: topV :: topV :: topV :: topV :: topV :: topV :: topV :: topV :: topV :: topV :: topV :: topV :: topV :: topV :: topV :: topV :: topV :: topV :: topV :: topV :: topV :: topV :: topV :: topV :: topV :: topV :: topV :: topV :: topV :: topV :: topV :: topV :: topV :: topV :: topV :: topV :: topV :: topV :: topV :: topV :: topV :: topV :: topV :: topV :: topV :: []), [some ⟨.view, .ints (flat ps)⟩]⟩)) (.leaf .normal ⟨(.slice (some ⟨0, 0, none⟩) (ps.length) (ps.length) :: topV :: topV :: .int .i64 ((↑ps.length : Int)) :: .int .i64 ((↑i : Int)) :: .int .i64 (IntKind.i64.wrap ((↑k : Int) + 1)) :: topV :: topV :: topV :: topV :: topV :: topV :: topV :: topV :: topV :: topV :: topV :: topV :: topV :: topV :: topV :: topV :: topV :: topV :: topV :: topV :: topV :: topV :: topV :: topV :: topV :: topV :: topV :: topV :: topV :: topV :: topV :: topV :: topV :: topV :: topV :: topV :: topV :: topV :: topV :: topV :: topV :: topV :: topV :: topV :: topV :: topV :: topV :: topV :: topV :: []), [some ⟨.view, .ints (flat ps)⟩]⟩))))))))))))))))))) (.leaf (.exit 2) ⟨(.slice (some ⟨0, 0, none⟩) (ps.length) (ps.length) :: topV :: topV :: .int .i64 ((↑ps.length : Int)) :: .int .i64 ((↑i : Int)) :: topV :: topV :: topV :: topV :: topV :: topV :: topV :: topV :: topV :: topV :: topV :: topV :: topV :: topV :: topV :: topV :: topV :: topV :: topV :: topV :: topV :: topV :: topV :: topV :: topV :: topV :: topV :: topV :: topV :: topV :: topV :: topV :: topV :: topV :: topV :: topV :: topV :: topV :: topV :: topV :: topV :: topV :: topV :: topV :: topV :: topV :: topV :: topV :: topV :: topV :: []), [some ⟨.view, .ints (flat ps)⟩]⟩) := by kernel_rfl
set_option maxRecDepth 100000 in
theorem nl_ssI : loopsOf c_ssI = [] := by kernel_rfl
def inv_ssI (ps : List Pt) (i : Nat) : Nat → Prop := fun k => k ≤ i
def me_ssI (ps : List Pt) (i : Nat) : Nat → Nat := fun k => i - k
/-- A round of this loop. -/
def Round_ssI (ps : List Pt) (i : Nat) : Prop := ∀ xx : Nat, inv_ssI ps i xx → (bodyL Try.prog EIt 30 12 noL 2 c_ssI k_ssI 1 (s_ssI ps i xx)).ok (RoundEnd 1 (s_ssI ps i) (inv_ssI ps i) (me_ssI ps i) (re_ssI ps i) (rs_ssI ps i) xx) (fun _ _ => False)
def e_ssI (s : St) (k : Ex → St → Tree) : Option Tree := match Nat.beq s.tmps.length 55, pickL s.tmps [0, 3, 4, 5], s.mem with
  | true, [.slice (some ⟨0, 0, none⟩) n _, .int .i64 l, .int .i64 ii, .int .i64 kk], [some ⟨.view, .ints xs⟩] => some (needs [kk = 0, l = n, xs.length = n * 2, n ≤ 20, allV (ptsA n xs) = true, 0 ≤ ii, ii < n] (brT (allQ (okS (ptsA n xs) ii.toNat) 0 ii.toNat) (k (.exit 2) ⟨(.slice (some ⟨0, 0, none⟩) n n :: topV :: topV :: .int .i64 n :: .int .i64 ii :: topV :: topV :: topV :: topV :: topV :: topV :: topV :: topV :: topV :: topV :: topV :: topV :: topV :: topV :: topV :: topV :: topV :: topV :: topV :: topV :: topV :: topV :: topV :: topV :: topV :: topV :: topV :: topV :: topV :: topV :: topV :: topV :: topV :: topV :: topV :: topV :: topV :: topV :: topV :: topV :: topV :: topV :: topV :: topV :: topV :: topV :: topV :: topV :: topV :: topV :: []), [some ⟨.view, .ints xs⟩]⟩) (k .ret ⟨(topV :: topV :: .bool false :: topV :: topV :: topV :: topV :: topV :: topV :: topV :: topV :: topV :: topV :: topV :: topV :: topV :: topV :: topV :: topV :: topV :: topV :: topV :: topV :: topV :: topV :: topV :: topV :: topV :: topV :: topV :: topV :: topV :: topV :: topV :: topV :: topV :: topV :: topV :: topV :: topV :: topV :: topV :: topV :: topV :: topV :: topV :: topV :: topV :: topV :: topV :: topV :: topV :: topV :: topV :: topV :: []), [some ⟨.view, .ints xs⟩]⟩)))
  | _, _, _ => none
set_option maxRecDepth 100000 in
theorem round_ssI (ps : List Pt) (i : Nat) (h : ps.length ≤ 20) (hv : allV ps = true) (hi : i < ps.length) : Round_ssI ps i := by
  intro k h1
  have h1 : k ≤ i := h1
  rw [tr_ssI]
  simp only [Int.toNat_natCast, Nat.zero_add, flat_length, flat_get0, flat_get1]
  refine brT_ok.2 ⟨fun hlt => ?_, fun hge => ?_⟩
  · have hlt := of_decide_eq_true hlt
    have hk : k < ps.length := by omega
    have m1 := nx_lt hi
    have m2 := nx_lt hk
    have e2 : IntKind.i64.wrap ((k : Int) + 1) = ((k + 1 : Nat) : Int) := wsucc hk (by omega)
    have c1 : (IntKind.i64.wrap ((k : Int) + 1) == (i : Int)) = decide (k + 1 = i) := by rw [e2, Bool.eq_iff_iff]; simp; omega
    have c3 : ((((i + 1) % ps.length : Nat) : Int) == (k : Int)) = decide ((i + 1) % ps.length = k) := by
      generalize (i + 1) % ps.length = m
      rw [Bool.eq_iff_iff]
      simp
      omega
    simp only [nx_mod hi (by omega), nx_mod hk (by omega), c1, c3, Int.toNat_natCast, flat_get0, flat_get1]
    have hR : relA (ps.getD i (0, 0)).1 (ps.getD i (0, 0)).2 (ps.getD ((i + 1) % ps.length) (0, 0)).1 (ps.getD ((i + 1) % ps.length) (0, 0)).2 (ps.getD k (0, 0)).1 (ps.getD k (0, 0)).2 (ps.getD ((k + 1) % ps.length) (0, 0)).1 (ps.getD ((k + 1) % ps.length) (0, 0)).2 = edX ps i k := rfl
    simp only [hR, e2]
    refine ⟨by omega, by omega, by omega, by omega, by omega, by omega, by omega, by omega, by omega, by omega, pt_get hv hi, pt_get hv m1, pt_get hv hk, pt_get hv m2, ?_⟩
    have n0 : ¬ (ps.length : Int) = 0 := by omega
    have step : allQ (okS ps i) k (i - k) = (okS ps i k && allQ (okS ps i) (k + 1) (i - (k + 1))) := allQ_step (by omega)
    have nxt : okS ps i k = true → allQ (okS ps i) k (i - k) = allQ (okS ps i) (k + 1) (i - (k + 1)) := fun ho => by rw [step, ho, Bool.true_and]
    have stp : okS ps i k = false → allQ (okS ps i) k (i - k) = false := fun ho => by rw [step, ho, Bool.false_and]
    rcases q1 : decide (k + 1 = i) with _ | _ <;> rcases q3 : decide ((i + 1) % ps.length = k) with _ | _ <;> rcases q4 : (edX ps i k == 3) with _ | _ <;> rcases q5 : (edX ps i k == 0) with _ | _
    all_goals
      simp only [brT_t, brT_f, Bool.not_true, Bool.not_false, Tree.ok, RoundEnd]
      try refine ⟨n0, ?_⟩
      first
        | (have ho : okS ps i k = true := by unfold okS nbS; rw [q1, q3]; simp [q4, q5]
           have e := nxt ho
           refine ⟨k + 1, [], ?_, ?_, by simp only [re_ssI, e], by simp only [rs_ssI, e], ?_⟩
           · show k + 1 ≤ i; omega
           · show i - (k + 1) < i - k; omega
           · refine ⟨rfl, rfl, ?_, ?_⟩ <;> repeat' (first | exact True.intro | exact rfl | exact wv_top _ _ | exact fun _ => rfl | refine And.intro ?_ ?_))
        | (have ho : okS ps i k = false := by unfold okS nbS; rw [q1, q3]; simp [q4, q5]
           have e := stp ho
           refine ⟨by simp only [re_ssI, e, cond_false], [], ?_⟩
           simp only [rs_ssI, e, cond_false]
           refine ⟨rfl, rfl, ?_, ?_⟩ <;> repeat' (first | exact True.intro | exact rfl | exact wv_top _ _ | exact fun _ => rfl | refine And.intro ?_ ?_))
  · have hge := of_decide_eq_false hge
    obtain rfl : k = i := by omega
    have e : allQ (okS ps k) k (k - k) = true := allQ_end (by omega)
    refine ⟨by simp only [re_ssI, e, cond_true], [], ?_⟩
    simp only [rs_ssI, e, cond_true]
    refine ⟨rfl, rfl, ?_, ?_⟩ <;> repeat' (first | exact True.intro | exact rfl | exact wv_top _ _ | exact fun _ => rfl | refine And.intro ?_ ?_)
set_option maxRecDepth 100000 in
theorem lg_ssI : LoopE Try.prog e_ssI c_ssI := by
  intro s k t F H hlt ht
  unfold e_ssI at hlt
  split at hlt
  rotate_left
  · cases hlt
  rename_i hlen hpick hmem
  obtain ⟨tmps, mem⟩ := s
  simp only at hlen hpick hmem
  subst hmem
  obtain rfl := Option.some.inj hlt
  obtain ⟨⟨rfl, rfl, h1, h2, h3, h4, h5, _⟩, ht2⟩ := needs_ok ht
  clear ht hlt
  obtain ⟨ps, rfl, rfl⟩ := even_flat h1
  obtain ⟨i, rfl⟩ := Int.eq_ofNat_of_zero_le h4
  rw [ptsA_flat] at ht2 h3
  simp only [Int.toNat_natCast] at ht2
  refine ⟨_, _, pick2k ht2, loop_run mixed EIt_ok (s_ssI _ _) (inv_ssI _ _) (me_ssI _ _) (re_ssI _ _) (rs_ssI _ _) k_ssI (fun _ => rfl) (noLoops nl_ssI) (round_ssI _ _ h2 h3 (by omega)) (x := 0) (Nat.zero_le _) (π := []) rfl ?_⟩
  refine ⟨rfl, rfl, ?_, wvs_spread' [0, 3, 4, 5] hlen rfl ?_⟩
  · repeat' (first | exact True.intro | exact rfl | exact wv_top _ _ | exact fun _ => rfl | assumption | exact Eq.symm (by assumption) | exact vI0 rfl | refine And.intro ?_ ?_)
  · rw [hpick]
    repeat' (first | exact True.intro | exact rfl | exact wv_top _ _ | exact fun _ => rfl | assumption | exact Eq.symm (by assumption) | exact vI0 rfl | refine And.intro ?_ ?_)
def ltSs : LT := fun j s k => match j with
  | 1 => e_ssI s k
  | _ => none
noncomputable def c_ssO : Code := ((loopsOf (codeOf Try.f62))[0]?).getD .skip
def k_ssO : Ex → List Nat := keeps [0, 3, 4] [(0, [])] [2]
def s_ssO (ps : List Pt) : Nat → St := fun i => ⟨(.slice (some ⟨0, 0, none⟩) ps.length ps.length :: topV :: topV :: .int .i64 ps.length :: .int .i64 i :: topV :: topV :: topV :: topV :: topV :: topV :: topV :: topV :: topV :: topV :: topV :: topV :: topV :: topV :: topV :: topV :: topV :: topV :: topV :: topV :: topV :: topV :: topV :: topV :: topV :: topV :: topV :: topV :: topV :: topV :: topV :: topV :: topV :: topV :: topV :: topV :: topV :: topV :: topV :: topV :: topV :: topV :: topV :: topV :: topV :: topV :: topV :: topV :: topV :: topV :: []), [some ⟨.view, .ints (flat ps)⟩]⟩
def re_ssO (ps : List Pt) : Nat → Ex := fun i => bif allQ (rowS ps) i (ps.length - i) then .exit 0 else .ret
def rs_ssO (ps : List Pt) : Nat → St := fun i => bif allQ (rowS ps) i (ps.length - i) then ⟨(topV :: topV :: topV :: topV :: topV :: topV :: topV :: topV :: topV :: topV :: topV :: topV :: topV :: topV :: topV :: topV :: topV :: topV :: topV :: topV :: topV :: topV :: topV :: topV :: topV :: topV :: topV :: topV :: topV :: topV :: topV :: topV :: topV :: topV :: topV :: topV :: topV :: topV :: topV :: topV :: topV :: topV :: topV :: topV :: topV :: topV :: topV :: topV :: topV :: topV :: topV :: topV :: topV :: topV :: topV :: []), [some ⟨.view, .ints (flat ps)⟩]⟩ else ⟨(topV :: topV :: .bool false :: topV :: topV :: topV :: topV :: topV :: topV :: topV :: topV :: topV :: topV :: topV :: topV :: topV :: topV :: topV :: topV :: topV :: topV :: topV :: topV :: topV :: topV :: topV :: topV :: topV :: topV :: topV :: topV :: topV :: topV :: topV :: topV :: topV :: topV :: topV :: topV :: topV :: topV :: topV :: topV :: topV :: topV :: topV :: topV :: topV :: topV :: topV :: topV :: topV :: topV :: topV :: topV :: []), [some ⟨.view, .ints (flat ps)⟩]⟩
set_option maxRecDepth 100000 in
theorem tr_ssO (ps : List Pt) (i : Nat) : bodyL Try.prog EIt 30 12 ltSs 1 c_ssO k_ssO 1 (s_ssO ps i) = brT (decide ((↑i : Int) < (↑ps.length : Int))) (.need ((0 : Int) = (0 : Int)) (.need ((↑ps.length : Int) = (↑ps.length : Int)) (.need ((flat ps).length = ps.length * (2 : Nat)) (.need (ps.length ≤ (20 : Nat)) (.need (allV (ptsA ps.length (flat ps)) = true) (.need ((0 : Int) ≤ (↑i : Int)) (.need ((↑i : Int) < (↑ps.length : Int)) (brT (allQ (okS (ptsA ps.length (flat ps)) (↑i : Int).toNat) 0 (↑i : Int).toNat) (.leaf .normal ⟨(.slice (some ⟨0, 0, none⟩) (ps.length) (ps.length) :: topV :: topV :: .int .i64 ((↑ps.length : Int)) :: .int .i64 (IntKind.i64.wrap ((↑i : Int) + 1)) :: topV :: topV :: topV :: topV :: topV :: topV :: topV :: topV :: topV :: topV :: topV :: topV :: topV :: topV :: topV :: topV :: topV :: topV :: topV :: topV :: topV :: topV :: topV :: topV :: topV :: topV :: topV :: topV :: topV :: topV :: topV :: topV :: topV :: topV :: topV :: topV :: topV :: topV :: topV :: topV :: topV :: topV :: topV :: topV :: topV :: topV :: topV :: topV :: topV :: topV :: []), [some ⟨.view, .ints (flat ps)⟩]⟩) (.leaf .ret ⟨(topV :: topV :: .bool (false) :: topV :: topV :: topV :: topV :: topV :: topV :: topV :: topV :: topV :: topV :: topV :: topV :: topV :: topV :: topV :: topV :: topV :: topV :: topV :: topV :: topV :: topV :: topV :: topV :: topV :: topV :: topV :: topV :: topV :: topV :: topV :: topV :: topV :: topV :: topV :: topV :: topV :: topV :: topV :: topV :: topV :: topV :: topV :: topV :: topV :: topV :: topV :: topV :: topV :: topV :: topV :: topV :: []), [some ⟨.view, .ints (flat ps)⟩]⟩))))))))) (.leaf (.exit 0) ⟨(topV :: topV :: topV :: topV :: topV :: topV :: topV :: topV :: topV :: topV :: topV :: topV :: topV :: topV :: topV :: topV :: topV :: topV :: topV :: topV :: topV :: topV :: topV :: topV :: topV :: topV :: topV :: topV :: topV :: topV :: topV :: topV :: topV :: topV :: topV :: topV :: topV :: topV :: topV :: topV :: topV :: topV :: topV :: topV :: topV :: topV :: topV :: topV :: topV :: topV :: topV :: topV :: topV :: topV :: topV :: []), [some ⟨.view, .ints (flat ps)⟩]⟩) := by kernel_rfl
def inv_ssO (ps : List Pt) : Nat → Prop := fun i => i ≤ ps.length
def me_ssO (ps : List Pt) : Nat → Nat := fun i => ps.length - i
/-- A round of this loop. -/
def Round_ssO (ps : List Pt) : Prop := ∀ xx : Nat, inv_ssO ps xx → (bodyL Try.prog EIt 30 12 ltSs 1 c_ssO k_ssO 1 (s_ssO ps xx)).ok (RoundEnd 1 (s_ssO ps) (inv_ssO ps) (me_ssO ps) (re_ssO ps) (rs_ssO ps) xx) (fun _ _ => False)
def e_ssO (s : St) (k : Ex → St → Tree) : Option Tree := match Nat.beq s.tmps.length 55, pickL s.tmps [0, 3, 4], s.mem with
  | true, [.slice (some ⟨0, 0, none⟩) n _, .int .i64 l, .int .i64 ii], [some ⟨.view, .ints xs⟩] => some (needs [ii = 0, l = n, xs.length = n * 2, n ≤ 20, allV (ptsA n xs) = true] (brT (simS (ptsA n xs)) (k (.exit 0) ⟨(topV :: topV :: topV :: topV :: topV :: topV :: topV :: topV :: topV :: topV :: topV :: topV :: topV :: topV :: topV :: topV :: topV :: topV :: topV :: topV :: topV :: topV :: topV :: topV :: topV :: topV :: topV :: topV :: topV :: topV :: topV :: topV :: topV :: topV :: topV :: topV :: topV :: topV :: topV :: topV :: topV :: topV :: topV :: topV :: topV :: topV :: topV :: topV :: topV :: topV :: topV :: topV :: topV :: topV :: topV :: []), [some ⟨.view, .ints xs⟩]⟩) (k .ret ⟨(topV :: topV :: .bool false :: topV :: topV :: topV :: topV :: topV :: topV :: topV :: topV :: topV :: topV :: topV :: topV :: topV :: topV :: topV :: topV :: topV :: topV :: topV :: topV :: topV :: topV :: topV :: topV :: topV :: topV :: topV :: topV :: topV :: topV :: topV :: topV :: topV :: topV :: topV :: topV :: topV :: topV :: topV :: topV :: topV :: topV :: topV :: topV :: topV :: topV :: topV :: topV :: topV :: topV :: topV :: topV :: []), [some ⟨.view, .ints xs⟩]⟩)))
  | _, _, _ => none
set_option maxRecDepth 100000 in
theorem in_ssO : loopsOf c_ssO = [c_ssI] := by kernel_rfl
theorem ltSs_good : LoopsGood Try.prog ltSs 1 c_ssO := by
  intro i d hd s k t F H hlt ht
  rw [in_ssO] at hd
  cases i with
  | zero =>
    obtain rfl : c_ssI = d := by simpa using hd
    exact lg_ssI s k t F H hlt ht
  | succ i => simp at hd
set_option maxRecDepth 100000 in
theorem round_ssO (ps : List Pt) (h : ps.length ≤ 20) (hv : allV ps = true) : Round_ssO ps := by
  intro i h1
  have h1 : i ≤ ps.length := h1
  rw [tr_ssO]
  simp only [Int.toNat_natCast, Nat.zero_add, flat_length, flat_get0, flat_get1, ptsA_flat]
  refine brT_ok.2 ⟨fun hlt => ?_, fun hge => ?_⟩
  · have hlt := of_decide_eq_true hlt
    have hi : i < ps.length := by omega
    have step : allQ (rowS ps) i (ps.length - i) = (rowS ps i && allQ (rowS ps) (i + 1) (ps.length - (i + 1))) := allQ_step (by omega)
    refine ⟨by first | exact True.intro | rfl, by first | exact True.intro | rfl, by first | exact True.intro | rfl, h, hv, by omega, by omega, ?_⟩
    refine brT_ok.2 ⟨fun hq => ?_, fun hq => ?_⟩
    · have hq : rowS ps i = true := hq
      have e : allQ (rowS ps) i (ps.length - i) = allQ (rowS ps) (i + 1) (ps.length - (i + 1)) := by rw [step, hq, Bool.true_and]
      rw [wsucc (n := ps.length) hi (by omega)]
      refine ⟨i + 1, [], ?_, ?_, by simp only [re_ssO, e], by simp only [rs_ssO, e], ?_⟩
      · show i + 1 ≤ ps.length; omega
      · show ps.length - (i + 1) < ps.length - i; omega
      · refine ⟨rfl, rfl, ?_, ?_⟩ <;> repeat' (first | exact True.intro | exact rfl | exact wv_top _ _ | exact fun _ => rfl | refine And.intro ?_ ?_)
    · have hq : rowS ps i = false := hq
      have e : allQ (rowS ps) i (ps.length - i) = false := by rw [step, hq, Bool.false_and]
      refine ⟨by simp only [re_ssO, e, cond_false], [], ?_⟩
      simp only [rs_ssO, e, cond_false]
      refine ⟨rfl, rfl, ?_, ?_⟩ <;> repeat' (first | exact True.intro | exact rfl | exact wv_top _ _ | exact fun _ => rfl | refine And.intro ?_ ?_)
  · have hge := of_decide_eq_false hge
    obtain rfl : i = ps.length := by omega
    have e : allQ (rowS ps) ps.length (ps.length - ps.length) = true := allQ_end (by omega)
    refine ⟨by simp only [re_ssO, e, cond_true], [], ?_⟩
    simp only [rs_ssO, e, cond_true]
    refine ⟨rfl, rfl, ?_, ?_⟩ <;> repeat' (first | exact True.intro | exact rfl | exact wv_top _ _ | exact fun _ => rfl | refine And.intro ?_ ?_)
set_option maxRecDepth 100000 in
theorem lg_ssO : LoopE Try.prog e_ssO c_ssO := by
  intro s k t F H hlt ht
  unfold e_ssO at hlt
  split at hlt
  rotate_left
  · cases hlt
  rename_i hlen hpick hmem
  obtain ⟨tmps, mem⟩ := s
  simp only at hlen hpick hmem
  subst hmem
  obtain rfl := Option.some.inj hlt
  obtain ⟨⟨rfl, rfl, h1, h2, h3, _⟩, ht2⟩ := needs_ok ht
  clear ht hlt
  obtain ⟨ps, rfl, rfl⟩ := even_flat h1
  rw [ptsA_flat] at ht2 h3
  refine ⟨_, _, pick2k ht2, loop_run mixed EIt_ok (s_ssO _) (inv_ssO _) (me_ssO _) (re_ssO _) (rs_ssO _) k_ssO (fun _ => rfl) ltSs_good (round_ssO _ h2 h3) (x := 0) (Nat.zero_le _) (π := []) rfl ?_⟩
  refine ⟨rfl, rfl, ?_, wvs_spread' [0, 3, 4] hlen rfl ?_⟩
  · repeat' (first | exact True.intro | exact rfl | exact wv_top _ _ | exact fun _ => rfl | assumption | exact Eq.symm (by assumption) | exact vI0 rfl | refine And.intro ?_ ?_)
  · rw [hpick]
    repeat' (first | exact True.intro | exact rfl | exact wv_top _ _ | exact fun _ => rfl | assumption | exact Eq.symm (by assumption) | exact vI0 rfl | refine And.intro ?_ ?_)
theorem Lr_ssO {fn : Func} (hf : Try.prog.funcs[62]? = some fn) : LoopsGood Try.prog (lt1 e_ssO) 0 (codeOf fn) := by
  obtain rfl := fn_is Try.func62 hf
  exact lt1_good lg_ssO
/-- With a common end, two segments touch or overlap. -/
theorem relA_end {a b c d e f g h : Int} {z : Pt} (h1 : z = (a, b) ∨ z = (c, d)) (h2 : z = (e, f) ∨ z = (g, h)) : relA a b c d e f g h = 1 ∨ relA a b c d e f g h = 3 := by
  have hm : z ∈ ceS a b c d e f g h := by
    rw [ce_mem]
    refine ⟨?_, by rcases h1 with h1 | h1 <;> simp [h1]⟩
    unfold onB
    have k1 : hasB a b c d z.1 z.2 = true := by
      rcases h1 with rfl | rfl
      · exact hasB_a ..
      · exact hasB_b ..
    have k2 : hasB e f g h z.1 z.2 = true := by
      rcases h2 with rfl | rfl
      · exact hasB_a ..
      · exact hasB_b ..
    rw [k1, k2]
    rfl
  have hl : 0 < (ceS a b c d e f g h).length := List.length_pos_of_mem hm
  unfold relA relN
  split
  · exact .inr rfl
  · rw [if_pos (by omega)]
    exact .inl rfl
theorem edX_comm (ps : List Pt) (i k : Nat) : edX ps i k = edX ps k i := relA_comm ..
theorem edX_end {ps : List Pt} {i k : Nat} {z : Pt} (h1 : z = ps.getD i (0, 0) ∨ z = nxP ps i) (h2 : z = ps.getD k (0, 0) ∨ z = nxP ps k) : edX ps i k = 1 ∨ edX ps i k = 3 := relA_end h1 h2
/-- Is an edge a segment? -/
def sgQ (ps : List Pt) (i : Nat) : Bool := segB (ps.getD i (0, 0)).1 (ps.getD i (0, 0)).2 (nxP ps i).1 (nxP ps i).2
theorem edR_is (ps : List Pt) (i k : Nat) : edR ps i k = bif sgQ ps i && sgQ ps k then edX ps i k else -1 := rfl
theorem sgQ_iff {ps : List Pt} (h : allV ps = true) {i : Nat} (hi : i < ps.length) : sgQ ps i = true ↔ ps.getD i (0, 0) ≠ nxP ps i := by
  unfold sgQ segB
  have h1 := pt_get h hi
  have h2 : ptB (nxP ps i).1 (nxP ps i).2 = true := pt_get h (nx_lt hi)
  rw [h1, h2]
  simp only [eqB, Bool.true_and, Bool.not_eq_true', ne_eq]
  generalize ps.getD i (0, 0) = p
  generalize nxP ps i = q
  obtain ⟨a, b⟩ := p
  obtain ⟨c, d⟩ := q
  simp
theorem nx_of {ps : List Pt} {i k : Nat} (hk : k < ps.length) (h : nbS ps i k = true) (hi : i < ps.length) : (nxP ps k = ps.getD i (0, 0)) ∨ (nxP ps i = ps.getD k (0, 0)) := by
  unfold nbS at h
  simp only [Bool.or_eq_true, decide_eq_true_eq] at h
  unfold nxP
  rcases h with h | h
  · left
    rw [h, Nat.mod_eq_of_lt hi]
  · right
    rw [h]
theorem nb_end {ps : List Pt} {i k : Nat} (hi : i < ps.length) (hk : k < ps.length) (h : nbS ps i k = true) : edX ps i k = 1 ∨ edX ps i k = 3 := by
  rcases nx_of hk h hi with e | e
  · exact edX_end (z := ps.getD i (0, 0)) (.inl rfl) (.inr e.symm)
  · exact edX_end (z := ps.getD k (0, 0)) (.inr e.symm) (.inl rfl)
theorem nbQ_is (ps : List Pt) (i k : Nat) : nbQ ps i k = nbS ps k i := by
  unfold nbQ nbS
  congr 1
  exact decide_eq_decide.2 eq_comm
theorem nodup_get {ps : List Pt} : ps.Nodup ↔ ∀ i j, i < j → j < ps.length → ps.getD i (0, 0) ≠ ps.getD j (0, 0) := by
  unfold List.Nodup
  rw [List.pairwise_iff_getElem]
  constructor
  · intro h i j hij hj
    have := h i j (by omega) hj hij
    simpa [List.getD_eq_getElem?_getD, hj, show i < ps.length by omega] using this
  · intro h i j hi hj hij
    have := h i j hij hj
    simpa [List.getD_eq_getElem?_getD, hj, hi] using this
theorem next_ne {n i : Nat} (h : 3 ≤ n) (hi : i < n) : (i + 1) % n ≠ i := by
  rcases Nat.lt_or_ge (i + 1) n with h1 | h1
  · rw [Nat.mod_eq_of_lt h1]; omega
  · have : i + 1 = n := by omega
    rw [this, Nat.mod_self]
    omega
theorem sim_is {ps : List Pt} (hv : allV ps = true) (h3 : 3 ≤ ps.length) : simQ ps = (((srtL ps).length == ps.length) && simS ps) := by
  rw [Bool.eq_iff_iff]
  simp only [Bool.and_eq_true, beq_iff_eq, srtL_len]
  constructor
  · intro h
    have hE : ∀ i k, i < k → k < ps.length → edR ps i k = bif nbQ ps i k then 1 else 0 := fun i k h1 h2 => by
      have r := allQ_get _ _ h i (Nat.zero_le _) (by omega)
      have r2 := allQ_get _ _ r k (Nat.zero_le _) (by omega)
      unfold okE at r2
      rw [decide_eq_true h1] at r2
      simpa using r2
    have hne : ∀ i k, i < k → k < ps.length → sgQ ps i = true ∧ sgQ ps k = true := fun i k h1 h2 => by
      have := hE i k h1 h2
      rw [edR_is] at this
      rcases q : (sgQ ps i && sgQ ps k) with _ | _
      · rw [q] at this
        rcases q3 : nbQ ps i k with _ | _ <;> rw [q3] at this <;> simp at this
      · simpa using q
    have sg : ∀ i, i < ps.length → sgQ ps i = true := fun i hi => by
      rcases Nat.eq_zero_or_pos i with rfl | h0
      · exact (hne 0 1 (by omega) (by omega)).1
      · exact (hne 0 i h0 hi).2
    have hX : ∀ i k, i < k → k < ps.length → edX ps i k = bif nbQ ps i k then 1 else 0 := fun i k h1 h2 => by
      have := hE i k h1 h2
      rw [edR_is, sg i (by omega), sg k h2] at this
      exact this
    constructor
    · rw [nodup_get]
      intro i j hij hj e
      have hi : i < ps.length := by omega
      rcases q : nbQ ps i j with _ | _
      · have := hX i j hij hj
        rw [q] at this
        have k := edX_end (ps := ps) (i := i) (k := j) (z := ps.getD i (0, 0)) (.inl rfl) (.inl e)
        simp at this
        omega
      · rw [nbQ_is] at q
        rcases nx_of hi q hj with e2 | e2
        · exact (sgQ_iff hv hi).1 (sg i hi) (e.trans e2.symm)
        · exact (sgQ_iff hv hj).1 (sg j hj) (e.symm.trans e2.symm)
    · refine allQ_all _ _ fun i _ hi => allQ_all _ _ fun k _ hk => ?_
      have hi : i < ps.length := by omega
      have hk : k < i := by omega
      have := hX k i hk hi
      rw [nbQ_is, edX_comm] at this
      unfold okS
      rw [this]
      cases nbS ps i k <;> rfl
  · rintro ⟨hn, h⟩
    rw [nodup_get] at hn
    have sg : ∀ i, i < ps.length → sgQ ps i = true := fun i hi => by
      rw [sgQ_iff hv hi]
      have h1 := next_ne h3 hi
      have h2 := nx_lt hi
      unfold nxP
      rcases Nat.lt_or_ge i ((i + 1) % ps.length) with h4 | h4
      · exact hn _ _ h4 h2
      · exact fun e => hn _ _ (by omega) hi e.symm
    refine allQ_all _ _ fun i _ hi => allQ_all _ _ fun k _ hk => ?_
    unfold okE
    rcases q : decide (i < k) with _ | _
    · rfl
    have q := of_decide_eq_true q
    have hi : i < ps.length := by omega
    have hk : k < ps.length := by omega
    have r := allQ_get _ _ h k (Nat.zero_le _) (by omega)
    have r2 := allQ_get _ _ r i (Nat.zero_le _) (by omega)
    rw [edR_is, sg i hi, sg k hk, nbQ_is, edX_comm]
    unfold okS at r2
    rcases q2 : nbS ps k i with _ | _
    · rw [q2] at r2
      simpa using r2
    · rw [q2] at r2
      have k2 := nb_end hk hi q2
      simp at r2
      have e : edX ps k i = 1 := by omega
      simp [e]
/-- Is a polygon simple, as the model finds it? -/
def issS (ps : List Pt) : Bool := rngQ ps && simS ps
theorem iss_same (ps : List Pt) : issI ps = issS ps := by
  unfold issI issS rngQ
  rcases ho : okL ps with _ | _
  · simp
  by_cases h3 : 3 ≤ ps.length
  · have hv : allV ps = true := by
      unfold okL at ho
      simp only [Bool.and_eq_true] at ho
      exact ho.1
    rw [sim_is hv h3]
    simp [h3]
  · simp [h3]
def LSs : FuncId → LT := fun f => match f with
  | 62 => lt1 e_ssO
  | _ => noL
def ESs : Env := mkE TIt RCe LSs
theorem ESs_ok : EnvOk Try.prog ESs := mkEOk TIt_ok RCe_ok (by
  intro f fn hf
  unfold LSs
  split
  all_goals first | with_reducible exact Lr_ssO hf | exact noL_good)
set_option maxRecDepth 100000 in
theorem tr_sSim (ps : List Pt) : bodyV Try.prog ESs 30 12 62 [.row ps.length (.ints (flat ps))] = .need (ps.length * (2 : Nat) ≤ (List.drop (0 : Nat) (flat ps)).length) (.need (ps.length ≤ (1000000000 : Nat)) (brT (!rngQ (ptsA ps.length (List.drop 0 (flat ps)))) (.fin (.bool (false)) []) (.need ((0 : Int) = (0 : Int)) (.need ((↑ps.length : Int) = (↑ps.length : Int)) (.need ((flat ps).length = ps.length * (2 : Nat)) (.need (ps.length ≤ (20 : Nat)) (.need (allV (ptsA ps.length (flat ps)) = true) (brT (simS (ptsA ps.length (flat ps))) (.fin (.bool (true)) []) (.fin (.bool (false)) []))))))))) := by kernel_rfl
theorem res_sSim (ps : List Pt) (h : Big ps) : Res Try.prog 62 [.row ps.length (.ints (flat ps))] (.bool (issI ps)) := by
  rw [iss_same]
  refine bodyV_res mixed ESs_ok (m := 30) (n := 12) rfl ?_
  rw [tr_sSim]
  unfold Big at h
  simp only [List.drop_zero, ptsA_flat, flat_length]
  unfold issS
  rcases hr : rngQ ps with _ | _
  · simp [brT_ok, Tree.ok, h]
  · have hl : ps.length ≤ 20 ∧ allV ps = true := by
      unfold rngQ okL at hr
      simp only [Bool.and_eq_true, decide_eq_true_eq] at hr
      exact ⟨hr.1.1.2, hr.1.1.1⟩
    rcases hs : simS ps with _ | _ <;> simp [brT_ok, Tree.ok, h, hl.1, hl.2]
def pIss : List DArg → Option (Value × List Prop)
  | [.row m (.ints xs)] => some (.bool (issI (ptsA m xs)), [m * 2 ≤ xs.length, m ≤ 1000000000])
  | _ => none
theorem pIss_i {ds : List DArg} {v : Value} {C : List Prop} (h : pIss ds = some (v, C)) (hC : AllP C) : Res Try.prog 53 ds v := by
  unfold pIss at h
  split at h
  · rename_i m xs
    obtain ⟨rfl, rfl⟩ : _ ∧ _ := by simpa using h
    obtain ⟨_, h2⟩ := ptsA_spec hC.1
    exact res_pts1 (pre := []) (post := []) hC.1 (res_iIss (ptsA m xs) (by unfold Big; rw [h2]; exact hC.2.1))
  · cases h
theorem pIss_s {ds : List DArg} {v : Value} {C : List Prop} (h : pIss ds = some (v, C)) (hC : AllP C) : Res Try.prog 62 ds v := by
  unfold pIss at h
  split at h
  · rename_i m xs
    obtain ⟨rfl, rfl⟩ : _ ∧ _ := by simpa using h
    obtain ⟨_, h2⟩ := ptsA_spec hC.1
    exact res_pts1 (pre := []) (post := []) hC.1 (res_sSim (ptsA m xs) (by unfold Big; rw [h2]; exact hC.2.1))
  · cases h
def TSm : Tab := fun f ds => match f with
  | 53 => pIss ds
  | 62 => pIss ds
  | f => TIt f ds
theorem TSm_ok : TabOk Try.prog TSm := by
  intro f ds v C h hC
  unfold TSm at h
  (try split at h)
  all_goals first | with_reducible exact pIss_i h hC | with_reducible exact pIss_s h hC | exact TIt_ok _ _ _ _ h hC
def ESm : Env := mkE TSm R4 (fun _ => noL)
theorem ESm_ok : EnvOk Try.prog ESm := mkEOk TSm_ok R4_ok (fun _ _ _ => noL_good)
end Go.Proofs.Ytieibbdfdepmbaa
