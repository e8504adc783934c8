/-
  TotalLength: its loops, both ways. Written by an AI agent.
-/
import Derived.Test.YtfjcbindeimoiabManh
import Derived.Test.YtfjcbindeimoiabFnB
import Derived.Test.YtfjcbindeimoiabMrkF
namespace Go.Proofs.Ytfjcbindeimoiab
open Go.RowKit

def evB (n : Nat) (e : Pt) : Bool := (decide (0 ≤ e.1) && decide (e.1 < n)) && (decide (0 ≤ e.2) && decide (e.2 < n))
def mhP (p q : Pt) : Int := ((p.1 - q.1).natAbs : Int) + ((p.2 - q.2).natAbs : Int)
def evA (n : Nat) (es : List Pt) : Bool := es.all (evB n)
/-- The length of an edge. -/
def edL (ps : List Pt) (e : Pt) : Int := mhP (ps.getD e.1.toNat (0, 0)) (ps.getD e.2.toNat (0, 0))
def tlS (ps : List Pt) : List Pt → Int
  | [] => 0
  | e :: r => edL ps e + tlS ps r
theorem tlS_step {ps es : List Pt} {i : Nat} (h : i < es.length) : tlS ps (es.drop i) = edL ps (es.getD i (0, 0)) + tlS ps (es.drop (i + 1)) := by
  rw [drop_cons h (0, 0)]
  rfl
theorem tlS_end {ps es : List Pt} {i : Nat} (h : es.length ≤ i) : tlS ps (es.drop i) = 0 := by
  rw [List.drop_of_length_le h]
  rfl
theorem edL_bd {ps : List Pt} (hv : allV ps = true) (e : Pt) : 0 ≤ edL ps e ∧ edL ps e ≤ 4000 := by
  have a := allV_get hv e.1.toNat
  have b := allV_get hv e.2.toNat
  unfold edL mhP
  omega
def TTl : Tab := fun f ds => match f with
  | 128 => pMh ds
  | f => T3 f ds
theorem TTl_ok : TabOk Try.prog TTl := by
  intro f ds v C h hC
  unfold TTl at h
  split at h
  all_goals first | with_reducible exact pMhI_ok h | exact T3_ok _ _ _ _ h hC
def ETl0 : Env := mkE TTl (fun _ _ => none) (fun _ => noL)
theorem ETl0_ok : EnvOk Try.prog ETl0 := mkEOk TTl_ok (fun _ _ _ _ _ h => (by cases h)) (fun _ _ _ => noL_good)
noncomputable def c_toPr : Code := ((loopsOf (codeOf Try.f31))[0]?).getD .skip
def k_toPr : Ex → List Nat := keeps [0, 3, 4] [(0, [3])] [2]
def s_toPr (ps : List Pt) (n : Nat) : Nat × (List Pt) → St := fun (i, qs) => ⟨[.slice (some ⟨0, 0, none⟩) ps.length ps.length, topV, topV, .slice (some ⟨1, 0, none⟩) n n, .int .i64 i, topV, topV, topV, topV, topV, topV, topV, topV, topV, topV, topV, topV, topV, topV, topV, topV, topV, topV], [some ⟨.view, .ints (flat ps)⟩, some ⟨.row 107 2, .ints (flat qs)⟩]⟩
def re_toPr : Nat × (List Pt) → Ex := fun _ => .exit 0
def rs_toPr (ps : List Pt) (n : Nat) : Nat × (List Pt) → St := fun (i, qs) => ⟨[topV, topV, topV, .slice (some ⟨1, 0, none⟩) n n, topV, topV, topV, topV, topV, topV, topV, topV, topV, topV, topV, topV, topV, topV, topV, topV, topV, topV, topV], [some ⟨.view, .ints (flat ps)⟩, some ⟨.row 107 2, .ints (flat ps)⟩]⟩
set_option maxRecDepth 100000 in
theorem tr_toPr (ps : List Pt) (n : Nat) (i : Nat) (qs : List Pt) : bodyL Try.prog EM 30 12 noL 1 c_toPr k_toPr 2 (s_toPr ps n (i, qs)) = brT (decide ((↑i : Int) < (↑ps.length : Int))) (.need ((0 : Int) ≤ (↑i : Int) ∧ (↑i : Int) < (↑ps.length : Int)) (.need ((0 : Nat) + (↑i : Int).toNat * (2 : Nat) + (2 : Nat) ≤ (flat ps).length) (.need ((0 : Int) ≤ (↑i : Int) ∧ (↑i : Int) < (↑n : Int)) (.need ((0 : Nat) + (↑i : Int).toNat * (2 : Nat) + (2 : Nat) ≤ (flat qs).length) (.leaf .normal ⟨[.slice (some ⟨0, 0, none⟩) (ps.length) (ps.length), topV, topV, .slice (some ⟨1, 0, none⟩) (n) (n), .int .i64 (IntKind.i64.wrap ((↑i : Int) + 1)), topV, topV, topV, topV, topV, topV, topV, topV, topV, topV, topV, topV, topV, topV, topV, topV, topV, topV], [some ⟨.view, .ints (flat ps)⟩, some ⟨.row 107 2, .ints (setInts (flat qs) (0 + (↑i : Int).toNat * 2) [(flat ps).getD (0 + (↑i : Int).toNat * 2) 0, (flat ps).getD (0 + (↑i : Int).toNat * 2 + 1) 0])⟩]⟩))))) (.leaf (.exit 0) ⟨[topV, topV, topV, .slice (some ⟨1, 0, none⟩) (n) (n), topV, topV, topV, topV, topV, topV, topV, topV, topV, topV, topV, topV, topV, topV, topV, topV, topV, topV, topV], [some ⟨.view, .ints (flat ps)⟩, some ⟨.row 107 2, .ints (flat qs)⟩]⟩) := by kernel_rfl
set_option maxRecDepth 100000 in
theorem nl_toPr : loopsOf c_toPr = [] := by kernel_rfl
def inv_toPr (ps : List Pt) (n : Nat) : Nat × (List Pt) → Prop := fun (i, qs) => i ≤ ps.length ∧ ps.length = n ∧ qs.length = n ∧ qs.take i = ps.take i
def me_toPr (ps : List Pt) (n : Nat) : Nat × (List Pt) → Nat := fun (i, qs) => ps.length - i
/-- A round of this loop. -/
def Round_toPr (ps : List Pt) (n : Nat) : Prop := ∀ xx : Nat × (List Pt), inv_toPr ps n xx → (bodyL Try.prog EM 30 12 noL 1 c_toPr k_toPr 2 (s_toPr ps n xx)).ok (RoundEnd 2 (s_toPr ps n) (inv_toPr ps n) (me_toPr ps n) re_toPr (rs_toPr ps n) xx) (fun _ _ => False)
def e_toPr (s : St) (k : Ex → St → Tree) : Option Tree := match Nat.beq s.tmps.length 23, pickL s.tmps [0, 3, 4], s.mem with
  | true, [.slice (some ⟨0, 0, none⟩) n _, .slice (some ⟨1, 0, none⟩) m _, .int .i64 i], [some ⟨.view, .ints xs⟩, some ⟨.row 107 2, .ints ys⟩] => some (needs [i = 0, m = n, xs.length = n * 2, ys.length = n * 2, n ≤ 1000000000] (k (.exit 0) ⟨[topV, topV, topV, .slice (some ⟨1, 0, none⟩) m m, topV, topV, topV, topV, topV, topV, topV, topV, topV, topV, topV, topV, topV, topV, topV, topV, topV, topV, topV], [some ⟨.view, .ints xs⟩, some ⟨.row 107 2, .ints xs⟩]⟩))
  | _, _, _ => none
set_option maxRecDepth 100000 in
theorem round_toPr (ps : List Pt) (n : Nat) (h : ps.length ≤ 1000000000) : Round_toPr ps n := by
  rintro ⟨i, qs⟩ ⟨h1, h2, h3, h4⟩
  rw [tr_toPr]
  simp only [brT_ok, Tree.ok, decide_eq_true_eq, decide_eq_false_iff_not, Int.toNat_natCast, Nat.zero_add, flat_length, flat_get0, flat_get1, Cs.size]
  refine ⟨fun hlt => ⟨by omega, by omega, by omega, by omega, ?_⟩, fun hge => ?_⟩
  · rw [wsucc (n := ps.length) (by omega) h, flat_set qs i (by omega)]
    refine ⟨(i + 1, qs.set i (ps.getD i (0, 0))), [], ⟨by omega, h2, by simp [h3], ?_⟩, ?_, rfl, rfl, ?_⟩
    · exact take_set_succ (by omega) (by omega) h4 _
    · show ps.length - (i + 1) < ps.length - i; omega
    · repeat' (first | exact True.intro | exact rfl | exact fun _ => rfl | refine And.intro ?_ ?_)
  · have e : qs = ps := by
      rw [List.take_of_length_le (by omega), List.take_of_length_le (by omega)] at h4
      exact h4
    subst e
    refine ⟨rfl, [], ?_⟩
    repeat' (first | exact True.intro | exact rfl | exact fun _ => rfl | refine And.intro ?_ ?_)
set_option maxRecDepth 100000 in
theorem lg_toPr : LoopE Try.prog e_toPr c_toPr := by
  intro s k t F H hlt ht
  unfold e_toPr at hlt
  split at hlt
  rotate_left
  · cases hlt
  rename_i hlen hpick hmem
  obtain ⟨tmps, mem⟩ := s
  simp only at hlen hpick hmem
  subst hmem
  obtain rfl := Option.some.inj hlt
  obtain ⟨⟨rfl, rfl, h1, h2, h3, _⟩, ht2⟩ := needs_ok ht
  clear ht hlt
  obtain ⟨ps, rfl, rfl⟩ := even_flat h1
  obtain ⟨qs, rfl, hq⟩ := even_flat h2
  refine ⟨_, _, ht2, loop_run mixed EM_ok (s_toPr ps ps.length) (inv_toPr ps ps.length) (me_toPr ps ps.length) re_toPr (rs_toPr ps ps.length) k_toPr (fun _ => rfl) (noLoops nl_toPr) (round_toPr ps ps.length h3) (x := (0, qs)) ⟨Nat.zero_le _, rfl, hq, rfl⟩ (π := []) rfl ?_⟩
  refine ⟨rfl, rfl, ?_, wvs_spread' [0, 3, 4] hlen rfl ?_⟩
  · repeat' (first | exact True.intro | exact rfl | exact wv_top _ _ | exact fun _ => rfl | assumption | exact Eq.symm (by assumption) | exact vI0 rfl | refine And.intro ?_ ?_)
  · rw [hpick]
    repeat' (first | exact True.intro | exact rfl | exact wv_top _ _ | exact fun _ => rfl | assumption | exact Eq.symm (by assumption) | exact vI0 rfl | refine And.intro ?_ ?_)
noncomputable def c_eqPr : Code := ((loopsOf (codeOf Try.f33))[0]?).getD .skip
def k_eqPr : Ex → List Nat := keeps [0, 1, 5] [(0, [])] [4]
def s_eqPr (ps : List Pt) : Nat → St := fun i => ⟨[.slice (some ⟨0, 0, none⟩) ps.length ps.length, .slice (some ⟨1, 0, none⟩) ps.length ps.length, topV, topV, topV, .int .i64 i, topV, topV, topV, topV, topV, topV, topV, topV, topV, topV, topV, topV, topV, topV, topV, topV, topV, topV, topV, topV, topV], [some ⟨.view, .ints (flat ps)⟩, some ⟨.view, .ints (flat ps)⟩]⟩
def re_eqPr : Nat → Ex := fun _ => .exit 0
def rs_eqPr (ps : List Pt) : Nat → St := fun i => ⟨[topV, topV, topV, topV, topV, topV, topV, topV, topV, topV, topV, topV, topV, topV, topV, topV, topV, topV, topV, topV, topV, topV, topV, topV, topV, topV, topV], [some ⟨.view, .ints (flat ps)⟩, some ⟨.view, .ints (flat ps)⟩]⟩
set_option maxRecDepth 100000 in
theorem tr_eqPr (ps : List Pt) (i : Nat) : bodyL Try.prog EM 30 12 noL 1 c_eqPr k_eqPr 2 (s_eqPr ps i) = brT (decide ((↑i : Int) < (↑ps.length : Int))) (brT (!(flat ps).getD (0 + (↑i : Int).toNat * 2) 0 == (flat ps).getD (0 + (↑i : Int).toNat * 2) 0) (.need ((0 : Int) ≤ (↑i : Int) ∧ (↑i : Int) < (↑ps.length : Int)) (.need ((0 : Nat) + (↑i : Int).toNat * (2 : Nat) + (2 : Nat) ≤ (flat ps).length) (.need ((0 : Int) ≤ (↑i : Int) ∧ (↑i : Int) < (↑ps.length : Int)) (.need ((0 : Nat) + (↑i : Int).toNat * (2 : Nat) + (2 : Nat) ≤ (flat ps).length) (.leaf .ret ⟨[topV, topV, topV, topV, .bool (false), topV, topV, topV, topV, topV, topV, topV, topV, topV, topV, topV, topV, topV, topV, topV, topV, topV, topV, topV, topV, topV, topV], [some ⟨.view, .ints (flat ps)⟩, some ⟨.view, .ints (flat ps)⟩]⟩))))) (brT (!(flat ps).getD (0 + (↑i : Int).toNat * 2 + 1) 0 == (flat ps).getD (0 + (↑i : Int).toNat * 2 + 1) 0) (.need ((0 : Int) ≤ (↑i : Int) ∧ (↑i : Int) < (↑ps.length : Int)) (.need ((0 : Nat) + (↑i : Int).toNat * (2 : Nat) + (2 : Nat) ≤ (flat ps).length) (.need ((0 : Int) ≤ (↑i : Int) ∧ (↑i : Int) < (↑ps.length : Int)) (.need ((0 : Nat) + (↑i : Int).toNat * (2 : Nat) + (2 : Nat) ≤ (flat ps).length) (.leaf .ret ⟨[topV, topV, topV, topV, .bool (false), topV, topV, topV, topV, topV, topV, topV, topV, topV, topV, topV, topV, topV, topV, topV, topV, topV, topV, topV, topV, topV, topV], [some ⟨.view, .ints (flat ps)⟩, some ⟨.view, .ints (flat ps)⟩]⟩))))) (.need ((0 : Int) ≤ (↑i : Int) ∧ (↑i : Int) < (↑ps.length : Int)) (.need ((0 : Nat) + (↑i : Int).toNat * (2 : Nat) + (2 : Nat) ≤ (flat ps).length) (.need ((0 : Int) ≤ (↑i : Int) ∧ (↑i : Int) < (↑ps.length : Int)) (.need ((0 : Nat) + (↑i : Int).toNat * (2 : Nat) + (2 : Nat) ≤ (flat ps).length) (.leaf .normal ⟨[.slice (some ⟨0, 0, none⟩) (ps.length) (ps.length), .slice (some ⟨1, 0, none⟩) (ps.length) (ps.length), topV, topV, topV, .int .i64 (IntKind.i64.wrap ((↑i : Int) + 1)), topV, topV, topV, topV, topV, topV, topV, topV, topV, topV, topV, topV, topV, topV, topV, topV, topV, topV, topV, topV, topV], [some ⟨.view, .ints (flat ps)⟩, some ⟨.view, .ints (flat ps)⟩]⟩))))))) (.leaf (.exit 0) ⟨[topV, topV, topV, topV, topV, topV, topV, topV, topV, topV, topV, topV, topV, topV, topV, topV, topV, topV, topV, topV, topV, topV, topV, topV, topV, topV, topV], [some ⟨.view, .ints (flat ps)⟩, some ⟨.view, .ints (flat ps)⟩]⟩) := by kernel_rfl
set_option maxRecDepth 100000 in
theorem nl_eqPr : loopsOf c_eqPr = [] := by kernel_rfl
def inv_eqPr (ps : List Pt) : Nat → Prop := fun i => i ≤ ps.length
def me_eqPr (ps : List Pt) : Nat → Nat := fun i => ps.length - i
/-- A round of this loop. -/
def Round_eqPr (ps : List Pt) : Prop := ∀ xx : Nat, inv_eqPr ps xx → (bodyL Try.prog EM 30 12 noL 1 c_eqPr k_eqPr 2 (s_eqPr ps xx)).ok (RoundEnd 2 (s_eqPr ps) (inv_eqPr ps) (me_eqPr ps) re_eqPr (rs_eqPr ps) xx) (fun _ _ => False)
def e_eqPr (s : St) (k : Ex → St → Tree) : Option Tree := match Nat.beq s.tmps.length 27, pickL s.tmps [0, 1, 5], s.mem with
  | true, [.slice (some ⟨0, 0, none⟩) n _, .slice (some ⟨1, 0, none⟩) m _, .int .i64 i], [some ⟨.view, .ints xs⟩, some ⟨.view, .ints ys⟩] => some (needs [i = 0, m = n, ys = xs, xs.length = n * 2, n ≤ 1000000000] (k (.exit 0) ⟨[topV, topV, topV, topV, topV, topV, topV, topV, topV, topV, topV, topV, topV, topV, topV, topV, topV, topV, topV, topV, topV, topV, topV, topV, topV, topV, topV], [some ⟨.view, .ints xs⟩, some ⟨.view, .ints xs⟩]⟩))
  | _, _, _ => none
set_option maxRecDepth 100000 in
theorem round_eqPr (ps : List Pt) (h : ps.length ≤ 1000000000) : Round_eqPr ps := by
  intro i h1
  have h1 : i ≤ ps.length := h1
  rw [tr_eqPr]
  simp only [beq_self_eq_true, Bool.not_true, brT_f, brT_ok, Tree.ok, decide_eq_true_eq, decide_eq_false_iff_not, Int.toNat_natCast, Nat.zero_add, flat_length]
  refine ⟨fun hlt => ?_, fun hge => ?_⟩
  · rw [wsucc (n := ps.length) (by omega) h]
    refine ⟨by omega, by omega, by omega, by omega, i + 1, [], ?_, ?_, rfl, rfl, ?_⟩
    · show i + 1 ≤ ps.length; omega
    · show ps.length - (i + 1) < ps.length - i; omega
    · repeat' (first | exact True.intro | exact rfl | exact fun _ => rfl | refine And.intro ?_ ?_)
  · refine ⟨rfl, [], ?_⟩
    repeat' (first | exact True.intro | exact rfl | exact fun _ => rfl | refine And.intro ?_ ?_)
set_option maxRecDepth 100000 in
theorem lg_eqPr : LoopE Try.prog e_eqPr c_eqPr := by
  intro s k t F H hlt ht
  unfold e_eqPr at hlt
  split at hlt
  rotate_left
  · cases hlt
  rename_i hlen hpick hmem
  obtain ⟨tmps, mem⟩ := s
  simp only at hlen hpick hmem
  subst hmem
  obtain rfl := Option.some.inj hlt
  obtain ⟨⟨rfl, rfl, rfl, h1, h2, _⟩, ht2⟩ := needs_ok ht
  clear ht hlt
  obtain ⟨ps, rfl, rfl⟩ := even_flat h1
  refine ⟨_, _, ht2, loop_run mixed EM_ok (s_eqPr _) (inv_eqPr _) (me_eqPr _) re_eqPr (rs_eqPr _) k_eqPr (fun _ => rfl) (noLoops nl_eqPr) (round_eqPr _ h2) (x := 0) (Nat.zero_le _) (π := []) rfl ?_⟩
  refine ⟨rfl, rfl, ?_, wvs_spread' [0, 1, 5] hlen rfl ?_⟩
  · repeat' (first | exact True.intro | exact rfl | exact wv_top _ _ | exact fun _ => rfl | assumption | exact Eq.symm (by assumption) | exact vI0 rfl | refine And.intro ?_ ?_)
  · rw [hpick]
    repeat' (first | exact True.intro | exact rfl | exact wv_top _ _ | exact fun _ => rfl | assumption | exact Eq.symm (by assumption) | exact vI0 rfl | refine And.intro ?_ ?_)
noncomputable def c_sTl : Code := ((loopsOf (codeOf Try.f30))[0]?).getD .skip
def k_sTl : Ex → List Nat := keeps [0, 1, 5, 6] [(0, [5])] [4]
def s_sTl (ps es : List Pt) : Nat × Int → St := fun (i, c) => ⟨(.slice (some ⟨0, 0, none⟩) ps.length ps.length :: .slice (some ⟨1, 0, none⟩) es.length es.length :: topV :: topV :: topV :: .int .i64 c :: .int .i64 i :: topV :: topV :: topV :: topV :: topV :: topV :: topV :: topV :: topV :: topV :: topV :: topV :: topV :: topV :: topV :: topV :: topV :: topV :: topV :: topV :: topV :: topV :: topV :: topV :: topV :: topV :: topV :: topV :: topV :: topV :: topV :: topV :: topV :: topV :: topV :: topV :: topV :: topV :: topV :: topV :: topV :: topV :: topV :: topV :: topV :: topV :: topV :: topV :: topV :: topV :: topV :: topV :: topV :: topV :: topV :: topV :: []), [some ⟨.view, .ints (flat ps)⟩, some ⟨.view, .ints (flat es)⟩]⟩
def re_sTl (ps es : List Pt) : Nat × Int → Ex := fun (i, c) => bif evA ps.length (es.drop i) then .exit 0 else .ret
def rs_sTl (ps es : List Pt) : Nat × Int → St := fun (i, c) => bif evA ps.length (es.drop i) then ⟨(topV :: topV :: topV :: topV :: topV :: .int .i64 (c + tlS ps (es.drop i)) :: topV :: topV :: topV :: topV :: topV :: topV :: topV :: topV :: topV :: topV :: topV :: topV :: topV :: topV :: topV :: topV :: topV :: topV :: topV :: topV :: topV :: topV :: topV :: topV :: topV :: topV :: topV :: topV :: topV :: topV :: topV :: topV :: topV :: topV :: topV :: topV :: topV :: topV :: topV :: topV :: topV :: topV :: topV :: topV :: topV :: topV :: topV :: topV :: topV :: topV :: topV :: topV :: topV :: topV :: topV :: topV :: topV :: []), [some ⟨.view, .ints (flat ps)⟩, some ⟨.view, .ints (flat es)⟩]⟩ else ⟨(topV :: topV :: topV :: topV :: .int .i64 (-1) :: topV :: topV :: topV :: topV :: topV :: topV :: topV :: topV :: topV :: topV :: topV :: topV :: topV :: topV :: topV :: topV :: topV :: topV :: topV :: topV :: topV :: topV :: topV :: topV :: topV :: topV :: topV :: topV :: topV :: topV :: topV :: topV :: topV :: topV :: topV :: topV :: topV :: topV :: topV :: topV :: topV :: topV :: topV :: topV :: topV :: topV :: topV :: topV :: topV :: topV :: topV :: topV :: topV :: topV :: topV :: topV :: topV :: topV :: []), [some ⟨.view, .ints (flat ps)⟩, some ⟨.view, .ints (flat es)⟩]⟩
set_option maxRecDepth 100000 in
theorem tr_sTl (ps es : List Pt) (i : Nat) (c : Int) : bodyL Try.prog ETl0 30 12 noL 1 c_sTl k_sTl 2 (s_sTl ps es (i, c)) = brT (decide ((↑i : Int) < (↑es.length : Int))) (.need ((0 : Int) ≤ (↑i : Int) ∧ (↑i : Int) < (↑es.length : Int)) (.need ((0 : Nat) + (↑i : Int).toNat * (2 : Nat) + (0 : Nat) < (flat es).length) (brT (decide (0 ≤ (flat es).getD (0 + (↑i : Int).toNat * 2 + 0) 0)) (brT (!decide ((flat es).getD (0 + (↑i : Int).toNat * 2 + 0) 0 ≤ IntKind.i64.wrap ((↑ps.length : Int) - 1))) (.leaf .ret ⟨(topV :: topV :: topV :: topV :: .int .i64 (-1) :: topV :: topV :: topV :: topV :: topV :: topV :: topV :: topV :: topV :: topV :: topV :: topV :: topV :: topV :: topV :: topV :: topV :: topV :: topV :: topV :: topV :: topV :: topV :: topV :: topV :: topV :: topV :: topV :: topV :: topV :: topV :: topV :: topV :: topV :: topV :: topV :: topV :: topV :: topV :: topV :: topV :: topV :: topV :: topV :: topV :: topV :: topV :: topV :: topV :: topV :: topV :: topV :: topV :: topV :: topV :: topV :: topV :: topV :: []), [some ⟨.view, .ints (flat ps)⟩, some ⟨.view, .ints (flat es)⟩]⟩) (.need ((0 : Int) ≤ (↑i : Int) ∧ (↑i : Int) < (↑es.length : Int)) (.need ((0 : Nat) + (↑i : Int).toNat * (2 : Nat) + (1 : Nat) < (flat es).length) (brT (decide (0 ≤ (flat es).getD (0 + (↑i : Int).toNat * 2 + 1) 0)) (brT (!decide ((flat es).getD (0 + (↑i : Int).toNat * 2 + 1) 0 ≤ IntKind.i64.wrap ((↑ps.length : Int) - 1))) (.leaf .ret ⟨(topV :: topV :: topV :: topV :: .int .i64 (-1) :: topV :: topV :: topV :: topV :: topV :: topV :: topV :: topV :: topV :: topV :: topV :: topV :: topV :: topV :: topV :: topV :: topV :: topV :: topV :: topV :: topV :: topV :: topV :: topV :: topV :: topV :: topV :: topV :: topV :: topV :: topV :: topV :: topV :: topV :: topV :: topV :: topV :: topV :: topV :: topV :: topV :: topV :: topV :: topV :: topV :: topV :: topV :: topV :: topV :: topV :: topV :: topV :: topV :: topV :: topV :: topV :: topV :: topV :: []), [some ⟨.view, .ints (flat ps)⟩, some ⟨.view, .ints (flat es)⟩]⟩) (.need (big (IntKind.i64.wrap ((flat ps).getD ((0 : Nat) + ((flat es).getD ((0 : Nat) + (↑i : Int).toNat * (2 : Nat) + (0 : Nat)) (0 : Int)).toNat * (2 : Nat)) (0 : Int) - (flat ps).getD ((0 : Nat) + ((flat es).getD ((0 : Nat) + (↑i : Int).toNat * (2 : Nat) + (1 : Nat)) (0 : Int)).toNat * (2 : Nat)) (0 : Int)))) (.need (big (IntKind.i64.wrap ((flat ps).getD ((0 : Nat) + ((flat es).getD ((0 : Nat) + (↑i : Int).toNat * (2 : Nat) + (0 : Nat)) (0 : Int)).toNat * (2 : Nat) + (1 : Nat)) (0 : Int) - (flat ps).getD ((0 : Nat) + ((flat es).getD ((0 : Nat) + (↑i : Int).toNat * (2 : Nat) + (1 : Nat)) (0 : Int)).toNat * (2 : Nat) + (1 : Nat)) (0 : Int)))) (.need ((0 : Int) ≤ (↑i : Int) ∧ (↑i : Int) < (↑es.length : Int)) (.need ((0 : Nat) + (↑i : Int).toNat * (2 : Nat) + (0 : Nat) < (flat es).length) (.need ((0 : Int) ≤ (flat es).getD ((0 : Nat) + (↑i : Int).toNat * (2 : Nat) + (0 : Nat)) (0 : Int) ∧ (flat es).getD ((0 : Nat) + (↑i : Int).toNat * (2 : Nat) + (0 : Nat)) (0 : Int) < (↑ps.length : Int)) (.need ((0 : Nat) + ((flat es).getD ((0 : Nat) + (↑i : Int).toNat * (2 : Nat) + (0 : Nat)) (0 : Int)).toNat * (2 : Nat) + (2 : Nat) ≤ (flat ps).length) (.need ((0 : Int) ≤ (↑i : Int) ∧ (↑i : Int) < (↑es.length : Int)) (.need ((0 : Nat) + (↑i : Int).toNat * (2 : Nat) + (1 : Nat) < (flat es).length) (.need ((0 : Int) ≤ (flat es).getD ((0 : Nat) + (↑i : Int).toNat * (2 : Nat) + (1 : Nat)) (0 : Int) ∧ (flat es).getD ((0 : Nat) + (↑i : Int).toNat * (2 : Nat) + (1 : Nat)) (0 : Int) < (↑ps.length : Int)) (.need ((0 : Nat) + ((flat es).getD ((0 : Nat) + (↑i : Int).toNat * (2 : Nat) + (1 : Nat)) (0 : Int)).toNat * (2 : Nat) + (2 : Nat) ≤ (flat ps).length) (.leaf .normal ⟨(.slice (some ⟨0, 0, none⟩) (ps.length) (ps.length) :: .slice (some ⟨1, 0, none⟩) (es.length) (es.length) :: topV :: topV :: topV :: .int .i64 (IntKind.i64.wrap (c + IntKind.i64.wrap ((↑(IntKind.i64.wrap ((flat ps).getD (0 + ((flat es).getD (0 + (↑i : Int).toNat * 2 + 0) 0).toNat * 2) 0 - (flat ps).getD (0 + ((flat es).getD (0 + (↑i : Int).toNat * 2 + 1) 0).toNat * 2) 0)).natAbs : Int) + (↑(IntKind.i64.wrap ((flat ps).getD (0 + ((flat es).getD (0 + (↑i : Int).toNat * 2 + 0) 0).toNat * 2 + 1) 0 - (flat ps).getD (0 + ((flat es).getD (0 + (↑i : Int).toNat * 2 + 1) 0).toNat * 2 + 1) 0)).natAbs : Int)))) :: .int .i64 (IntKind.i64.wrap ((↑i : Int) + 1)) :: topV :: topV :: topV :: topV :: topV :: topV :: topV :: topV :: topV :: topV :: topV :: topV :: topV :: topV :: topV :: topV :: topV :: topV :: topV :: topV :: topV :: topV :: topV :: topV :: topV :: topV :: topV :: topV :: topV :: topV :: topV :: topV :: topV :: topV :: topV :: topV :: topV :: topV :: topV :: topV :: topV :: topV :: topV :: topV :: topV :: topV :: topV :: topV :: topV :: topV :: topV :: topV :: topV :: topV :: topV :: topV :: []), [some ⟨.view, .ints (flat ps)⟩, some ⟨.view, .ints (flat es)⟩]⟩)))))))))))) (.leaf .ret ⟨(topV :: topV :: topV :: topV :: .int .i64 (-1) :: topV :: topV :: topV :: topV :: topV :: topV :: topV :: topV :: topV :: topV :: topV :: topV :: topV :: topV :: topV :: topV :: topV :: topV :: topV :: topV :: topV :: topV :: topV :: topV :: topV :: topV :: topV :: topV :: topV :: topV :: topV :: topV :: topV :: topV :: topV :: topV :: topV :: topV :: topV :: topV :: topV :: topV :: topV :: topV :: topV :: topV :: topV :: topV :: topV :: topV :: topV :: topV :: topV :: topV :: topV :: topV :: topV :: topV :: []), [some ⟨.view, .ints (flat ps)⟩, some ⟨.view, .ints (flat es)⟩]⟩))))) (.leaf .ret ⟨(topV :: topV :: topV :: topV :: .int .i64 (-1) :: topV :: topV :: topV :: topV :: topV :: topV :: topV :: topV :: topV :: topV :: topV :: topV :: topV :: topV :: topV :: topV :: topV :: topV :: topV :: topV :: topV :: topV :: topV :: topV :: topV :: topV :: topV :: topV :: topV :: topV :: topV :: topV :: topV :: topV :: topV :: topV :: topV :: topV :: topV :: topV :: topV :: topV :: topV :: topV :: topV :: topV :: topV :: topV :: topV :: topV :: topV :: topV :: topV :: topV :: topV :: topV :: topV :: topV :: []), [some ⟨.view, .ints (flat ps)⟩, some ⟨.view, .ints (flat es)⟩]⟩)))) (.leaf (.exit 0) ⟨(topV :: topV :: topV :: topV :: topV :: .int .i64 (c) :: topV :: topV :: topV :: topV :: topV :: topV :: topV :: topV :: topV :: topV :: topV :: topV :: topV :: topV :: topV :: topV :: topV :: topV :: topV :: topV :: topV :: topV :: topV :: topV :: topV :: topV :: topV :: topV :: topV :: topV :: topV :: topV :: topV :: topV :: topV :: topV :: topV :: topV :: topV :: topV :: topV :: topV :: topV :: topV :: topV :: topV :: topV :: topV :: topV :: topV :: topV :: topV :: topV :: topV :: topV :: topV :: topV :: []), [some ⟨.view, .ints (flat ps)⟩, some ⟨.view, .ints (flat es)⟩]⟩) := by kernel_rfl
set_option maxRecDepth 100000 in
theorem nl_sTl : loopsOf c_sTl = [] := by kernel_rfl
def inv_sTl (ps es : List Pt) : Nat × Int → Prop := fun (i, c) => i ≤ es.length ∧ 0 ≤ c ∧ c ≤ 4000 * i
def me_sTl (ps es : List Pt) : Nat × Int → Nat := fun (i, c) => es.length - i
/-- A round of this loop. -/
def Round_sTl (ps es : List Pt) : Prop := ∀ xx : Nat × Int, inv_sTl ps es xx → (bodyL Try.prog ETl0 30 12 noL 1 c_sTl k_sTl 2 (s_sTl ps es xx)).ok (RoundEnd 2 (s_sTl ps es) (inv_sTl ps es) (me_sTl ps es) (re_sTl ps es) (rs_sTl ps es) xx) (fun _ _ => False)
def e_sTl (s : St) (k : Ex → St → Tree) : Option Tree := match Nat.beq s.tmps.length 63, pickL s.tmps [0, 1, 5, 6], s.mem with
  | true, [.slice (some ⟨0, 0, none⟩) n _, .slice (some ⟨1, 0, none⟩) m _, .int .i64 cc, .int .i64 ii], [some ⟨.view, .ints xs⟩, some ⟨.view, .ints ys⟩] => some (needs [ii = 0, cc = 0, xs.length = n * 2, ys.length = m * 2, n ≤ 20, m ≤ 20, allV (ptsA n xs) = true] (brT (evA n (ptsA m ys)) (k (.exit 0) ⟨(topV :: topV :: topV :: topV :: topV :: .int .i64 (0 + tlS (ptsA n xs) (ptsA m ys)) :: topV :: topV :: topV :: topV :: topV :: topV :: topV :: topV :: topV :: topV :: topV :: topV :: topV :: topV :: topV :: topV :: topV :: topV :: topV :: topV :: topV :: topV :: topV :: topV :: topV :: topV :: topV :: topV :: topV :: topV :: topV :: topV :: topV :: topV :: topV :: topV :: topV :: topV :: topV :: topV :: topV :: topV :: topV :: topV :: topV :: topV :: topV :: topV :: topV :: topV :: topV :: topV :: topV :: topV :: topV :: topV :: topV :: []), [some ⟨.view, .ints xs⟩, some ⟨.view, .ints ys⟩]⟩) (k .ret ⟨(topV :: topV :: topV :: topV :: .int .i64 (-1) :: topV :: topV :: topV :: topV :: topV :: topV :: topV :: topV :: topV :: topV :: topV :: topV :: topV :: topV :: topV :: topV :: topV :: topV :: topV :: topV :: topV :: topV :: topV :: topV :: topV :: topV :: topV :: topV :: topV :: topV :: topV :: topV :: topV :: topV :: topV :: topV :: topV :: topV :: topV :: topV :: topV :: topV :: topV :: topV :: topV :: topV :: topV :: topV :: topV :: topV :: topV :: topV :: topV :: topV :: topV :: topV :: topV :: topV :: []), [some ⟨.view, .ints xs⟩, some ⟨.view, .ints ys⟩]⟩)))
  | _, _, _ => none
set_option maxRecDepth 100000 in
theorem round_sTl (ps es : List Pt) (h : ps.length ≤ 20) (hm : es.length ≤ 20) (hv : allV ps = true) : Round_sTl ps es := by
  rintro ⟨i, c⟩ ⟨h1, h2, h3⟩
  rw [tr_sTl]
  have wl : IntKind.i64.wrap ((ps.length : Int) - 1) = ps.length - 1 := wr (by omega)
  simp only [brT_ok, Tree.ok, decide_eq_true_eq, decide_eq_false_iff_not, Int.toNat_natCast, Nat.zero_add, Nat.add_zero, flat_length, flat_get0, flat_get1, Bool.not_eq_true', Bool.not_eq_false', wl]
  refine ⟨fun hlt => ?_, fun hge => ?_⟩
  · rw [wsucc (n := es.length) (by omega) (by omega)]
    refine ⟨by omega, by omega, fun g0 => ⟨fun g1 => ?_, fun g1 => ⟨by omega, by omega, fun g2 => ⟨fun g3 => ?_, fun g3 => ?_⟩, fun g2 => ?_⟩⟩, fun g0 => ?_⟩
    · have e : evA ps.length (es.drop i) = false := by
        unfold evA
        rw [all_drop (by omega) (0, 0)]
        have : evB ps.length (es.getD i (0, 0)) = false := by
          rw [Bool.eq_false_iff]
          intro hh
          simp only [evB, Bool.and_eq_true, decide_eq_true_eq] at hh
          omega
        rw [this, Bool.false_and]
      refine ⟨by simp only [re_sTl, e, cond_false], [], ?_⟩
      simp only [rs_sTl, e, cond_false]
      repeat' (first | exact True.intro | exact rfl | exact fun _ => rfl | refine And.intro ?_ ?_)
    · have e : evA ps.length (es.drop i) = false := by
        unfold evA
        rw [all_drop (by omega) (0, 0)]
        have : evB ps.length (es.getD i (0, 0)) = false := by
          rw [Bool.eq_false_iff]
          intro hh
          simp only [evB, Bool.and_eq_true, decide_eq_true_eq] at hh
          omega
        rw [this, Bool.false_and]
      refine ⟨by simp only [re_sTl, e, cond_false], [], ?_⟩
      simp only [rs_sTl, e, cond_false]
      repeat' (first | exact True.intro | exact rfl | exact fun _ => rfl | refine And.intro ?_ ?_)
    · have a := allV_get hv (es.getD i (0, 0)).1.toNat
      have b := allV_get hv (es.getD i (0, 0)).2.toNat
      have bl := edL_bd hv (es.getD i (0, 0))
      have e : evA ps.length (es.drop i) = evA ps.length (es.drop (i + 1)) := by
        unfold evA
        rw [all_drop (by omega) (0, 0)]
        have : evB ps.length (es.getD i (0, 0)) = true := by simp only [evB, Bool.and_eq_true, decide_eq_true_eq]; omega
        rw [this, Bool.true_and]
      have st := tlS_step (ps := ps) (es := es) (i := i) (by omega)
      simp (disch := omega) only [wr]
      repeat refine And.intro (by first | omega | exact ⟨by omega, by omega⟩) ?_
      refine ⟨(i + 1, c + edL ps (es.getD i (0, 0))), [], ⟨by omega, by omega, by omega⟩, ?_, by simp only [re_sTl, e], by simp only [rs_sTl, e, st, Int.add_assoc], ?_⟩
      · show es.length - (i + 1) < es.length - i; omega
      · repeat' (first | exact True.intro | exact rfl | exact fun _ => rfl | refine And.intro ?_ ?_)
    · have e : evA ps.length (es.drop i) = false := by
        unfold evA
        rw [all_drop (by omega) (0, 0)]
        have : evB ps.length (es.getD i (0, 0)) = false := by
          rw [Bool.eq_false_iff]
          intro hh
          simp only [evB, Bool.and_eq_true, decide_eq_true_eq] at hh
          omega
        rw [this, Bool.false_and]
      refine ⟨by simp only [re_sTl, e, cond_false], [], ?_⟩
      simp only [rs_sTl, e, cond_false]
      repeat' (first | exact True.intro | exact rfl | exact fun _ => rfl | refine And.intro ?_ ?_)
    · have e : evA ps.length (es.drop i) = false := by
        unfold evA
        rw [all_drop (by omega) (0, 0)]
        have : evB ps.length (es.getD i (0, 0)) = false := by
          rw [Bool.eq_false_iff]
          intro hh
          simp only [evB, Bool.and_eq_true, decide_eq_true_eq] at hh
          omega
        rw [this, Bool.false_and]
      refine ⟨by simp only [re_sTl, e, cond_false], [], ?_⟩
      simp only [rs_sTl, e, cond_false]
      repeat' (first | exact True.intro | exact rfl | exact fun _ => rfl | refine And.intro ?_ ?_)
  · have e : evA ps.length (es.drop i) = true := all_end (by omega) _
    refine ⟨by simp only [re_sTl, e, cond_true], [], ?_⟩
    simp only [rs_sTl, e, cond_true, tlS_end (ps := ps) (es := es) (i := i) (by omega), Int.add_zero]
    repeat' (first | exact True.intro | exact rfl | exact fun _ => rfl | refine And.intro ?_ ?_)
set_option maxRecDepth 100000 in
theorem lg_sTl : LoopE Try.prog e_sTl c_sTl := by
  intro s k t F H hlt ht
  unfold e_sTl at hlt
  split at hlt
  rotate_left
  · cases hlt
  rename_i hlen hpick hmem
  obtain ⟨tmps, mem⟩ := s
  simp only at hlen hpick hmem
  subst hmem
  obtain rfl := Option.some.inj hlt
  obtain ⟨⟨rfl, rfl, h1, h2, h3, h4, h5, _⟩, ht2⟩ := needs_ok ht
  clear ht hlt
  obtain ⟨ps, rfl, rfl⟩ := even_flat h1
  obtain ⟨es, rfl, rfl⟩ := even_flat h2
  rw [ptsA_flat] at h5
  rw [ptsA_flat, ptsA_flat] at ht2
  refine ⟨_, _, pick2k ht2, loop_run mixed ETl0_ok (s_sTl ps es) (inv_sTl ps es) (me_sTl ps es) (re_sTl ps es) (rs_sTl ps es) k_sTl (fun _ => rfl) (noLoops nl_sTl) (round_sTl ps es h3 h4 h5) (x := (0, 0)) ⟨Nat.zero_le _, Int.le_refl _, Int.le_refl _⟩ (π := []) rfl ?_⟩
  refine ⟨rfl, rfl, ?_, wvs_spread' [0, 1, 5, 6] hlen rfl ?_⟩
  · repeat' (first | exact True.intro | exact rfl | exact wv_top _ _ | exact fun _ => rfl | assumption | exact Eq.symm (by assumption) | exact vI0 rfl | refine And.intro ?_ ?_)
  · rw [hpick]
    repeat' (first | exact True.intro | exact rfl | exact wv_top _ _ | exact fun _ => rfl | assumption | exact Eq.symm (by assumption) | exact vI0 rfl | refine And.intro ?_ ?_)
noncomputable def c_aEd : Code := ((loopsOf (codeOf Try.f82))[0]?).getD .skip
def k_aEd : Ex → List Nat := keeps [0, 7, 8, 9] [(0, [])] [4]
def s_aEd (ps es : List Pt) : Nat → St := fun i => ⟨[.slice (some ⟨0, 0, none⟩) ps.length ps.length, topV, topV, topV, topV, topV, topV, .slice (some ⟨1, 0, none⟩) es.length es.length, .int .i64 es.length, .int .i64 i, topV, topV, topV, topV, topV, topV, topV, topV, topV, topV, topV, topV, topV], [some ⟨.view, .ints (flat ps)⟩, some ⟨.view, .ints (flat es)⟩]⟩
def re_aEd (ps es : List Pt) : Nat → Ex := fun i => bif evA ps.length (es.drop i) then .exit 0 else .ret
def rs_aEd (ps es : List Pt) : Nat → St := fun i => bif evA ps.length (es.drop i) then ⟨[topV, topV, topV, topV, topV, topV, topV, topV, topV, topV, topV, topV, topV, topV, topV, topV, topV, topV, topV, topV, topV, topV, topV], [some ⟨.view, .ints (flat ps)⟩, some ⟨.view, .ints (flat es)⟩]⟩ else ⟨[topV, topV, topV, topV, .bool false, topV, topV, topV, topV, topV, topV, topV, topV, topV, topV, topV, topV, topV, topV, topV, topV, topV, topV], [some ⟨.view, .ints (flat ps)⟩, some ⟨.view, .ints (flat es)⟩]⟩
set_option maxRecDepth 100000 in
theorem tr_aEd (ps es : List Pt) (i : Nat) : bodyL Try.prog ETl0 30 12 noL 1 c_aEd k_aEd 2 (s_aEd ps es i) = brT (decide ((↑i : Int) < (↑es.length : Int))) (.need ((0 : Int) ≤ (↑i : Int) ∧ (↑i : Int) < (↑es.length : Int)) (.need ((0 : Nat) + (↑i : Int).toNat * (2 : Nat) + (2 : Nat) ≤ (flat es).length) (.need ((0 : Int) ≤ (0 : Int) ∧ (0 : Int) < (↑(2 : Nat) : Int)) (brT (decide ((flat es).getD (0 + (↑i : Int).toNat * 2) 0 < 0)) (.leaf .ret ⟨[topV, topV, topV, topV, .bool (false), topV, topV, topV, topV, topV, topV, topV, topV, topV, topV, topV, topV, topV, topV, topV, topV, topV, topV], [some ⟨.view, .ints (flat ps)⟩, some ⟨.view, .ints (flat es)⟩]⟩) (brT (decide ((↑ps.length : Int) ≤ (flat es).getD (0 + (↑i : Int).toNat * 2) 0)) (.leaf .ret ⟨[topV, topV, topV, topV, .bool (false), topV, topV, topV, topV, topV, topV, topV, topV, topV, topV, topV, topV, topV, topV, topV, topV, topV, topV], [some ⟨.view, .ints (flat ps)⟩, some ⟨.view, .ints (flat es)⟩]⟩) (.need ((0 : Int) ≤ IntKind.i64.wrap ((0 : Int) + (1 : Int)) ∧ IntKind.i64.wrap ((0 : Int) + (1 : Int)) < (↑(2 : Nat) : Int)) (brT (decide ((flat es).getD (0 + (↑i : Int).toNat * 2 + 1) 0 < 0)) (.leaf .ret ⟨[topV, topV, topV, topV, .bool (false), topV, topV, topV, topV, topV, topV, topV, topV, topV, topV, topV, topV, topV, topV, topV, topV, topV, topV], [some ⟨.view, .ints (flat ps)⟩, some ⟨.view, .ints (flat es)⟩]⟩) (brT (decide ((↑ps.length : Int) ≤ (flat es).getD (0 + (↑i : Int).toNat * 2 + 1) 0)) (.leaf .ret ⟨[topV, topV, topV, topV, .bool (false), topV, topV, topV, topV, topV, topV, topV, topV, topV, topV, topV, topV, topV, topV, topV, topV, topV, topV], [some ⟨.view, .ints (flat ps)⟩, some ⟨.view, .ints (flat es)⟩]⟩) (.leaf .normal ⟨[.slice (some ⟨0, 0, none⟩) (ps.length) (ps.length), topV, topV, topV, topV, topV, topV, .slice (some ⟨1, 0, none⟩) (es.length) (es.length), .int .i64 ((↑es.length : Int)), .int .i64 (IntKind.i64.wrap ((↑i : Int) + 1)), topV, topV, topV, topV, topV, topV, topV, topV, topV, topV, topV, topV, topV], [some ⟨.view, .ints (flat ps)⟩, some ⟨.view, .ints (flat es)⟩]⟩))))))))) (.leaf (.exit 0) ⟨[topV, topV, topV, topV, topV, topV, topV, topV, topV, topV, topV, topV, topV, topV, topV, topV, topV, topV, topV, topV, topV, topV, topV], [some ⟨.view, .ints (flat ps)⟩, some ⟨.view, .ints (flat es)⟩]⟩) := by kernel_rfl
set_option maxRecDepth 100000 in
theorem nl_aEd : loopsOf c_aEd = [] := by kernel_rfl
def inv_aEd (ps es : List Pt) : Nat → Prop := fun i => i ≤ es.length
def me_aEd (ps es : List Pt) : Nat → Nat := fun i => es.length - i
/-- A round of this loop. -/
def Round_aEd (ps es : List Pt) : Prop := ∀ xx : Nat, inv_aEd ps es xx → (bodyL Try.prog ETl0 30 12 noL 1 c_aEd k_aEd 2 (s_aEd ps es xx)).ok (RoundEnd 2 (s_aEd ps es) (inv_aEd ps es) (me_aEd ps es) (re_aEd ps es) (rs_aEd ps es) xx) (fun _ _ => False)
def e_aEd (s : St) (k : Ex → St → Tree) : Option Tree := match Nat.beq s.tmps.length 23, pickL s.tmps [0, 7, 8, 9], s.mem with
  | true, [.slice (some ⟨0, 0, none⟩) n _, .slice (some ⟨1, 0, none⟩) m _, .int .i64 l, .int .i64 ii], [some ⟨.view, .ints xs⟩, some ⟨.view, .ints ys⟩] => some (needs [ii = 0, l = m, xs.length = n * 2, ys.length = m * 2, n ≤ 20, m ≤ 20] (brT (evA n (ptsA m ys)) (k (.exit 0) ⟨[topV, topV, topV, topV, topV, topV, topV, topV, topV, topV, topV, topV, topV, topV, topV, topV, topV, topV, topV, topV, topV, topV, topV], [some ⟨.view, .ints xs⟩, some ⟨.view, .ints ys⟩]⟩) (k .ret ⟨[topV, topV, topV, topV, .bool false, topV, topV, topV, topV, topV, topV, topV, topV, topV, topV, topV, topV, topV, topV, topV, topV, topV, topV], [some ⟨.view, .ints xs⟩, some ⟨.view, .ints ys⟩]⟩)))
  | _, _, _ => none
set_option maxRecDepth 100000 in
theorem round_aEd (ps es : List Pt) (h : ps.length ≤ 20) (hm : es.length ≤ 20) : Round_aEd ps es := by
  intro i h1
  have h1 : i ≤ es.length := h1
  rw [tr_aEd]
  have wl : IntKind.i64.wrap ((0 : Int) + 1) = 1 := by decide
  simp only [brT_ok, Tree.ok, decide_eq_true_eq, decide_eq_false_iff_not, Int.toNat_natCast, Nat.zero_add, Nat.add_zero, flat_length, flat_get0, flat_get1, Bool.not_eq_true', Bool.not_eq_false', wl]
  refine ⟨fun hlt => ?_, fun hge => ?_⟩
  · rw [wsucc (n := es.length) (by omega) (by omega)]
    refine ⟨by omega, by omega, by omega, fun g0 => ?_, fun g0 => ⟨fun g1 => ?_, fun g1 => ⟨by omega, fun g2 => ?_, fun g2 => ⟨fun g3 => ?_, fun g3 => ?_⟩⟩⟩⟩
    · have e : evA ps.length (es.drop i) = false := by
        unfold evA
        rw [all_drop (by omega) (0, 0)]
        have : evB ps.length (es.getD i (0, 0)) = false := by
          rw [Bool.eq_false_iff]
          intro hh
          simp only [evB, Bool.and_eq_true, decide_eq_true_eq] at hh
          omega
        rw [this, Bool.false_and]
      refine ⟨by simp only [re_aEd, e, cond_false], [], ?_⟩
      simp only [rs_aEd, e, cond_false]
      repeat' (first | exact True.intro | exact rfl | exact fun _ => rfl | refine And.intro ?_ ?_)
    · have e : evA ps.length (es.drop i) = false := by
        unfold evA
        rw [all_drop (by omega) (0, 0)]
        have : evB ps.length (es.getD i (0, 0)) = false := by
          rw [Bool.eq_false_iff]
          intro hh
          simp only [evB, Bool.and_eq_true, decide_eq_true_eq] at hh
          omega
        rw [this, Bool.false_and]
      refine ⟨by simp only [re_aEd, e, cond_false], [], ?_⟩
      simp only [rs_aEd, e, cond_false]
      repeat' (first | exact True.intro | exact rfl | exact fun _ => rfl | refine And.intro ?_ ?_)
    · have e : evA ps.length (es.drop i) = false := by
        unfold evA
        rw [all_drop (by omega) (0, 0)]
        have : evB ps.length (es.getD i (0, 0)) = false := by
          rw [Bool.eq_false_iff]
          intro hh
          simp only [evB, Bool.and_eq_true, decide_eq_true_eq] at hh
          omega
        rw [this, Bool.false_and]
      refine ⟨by simp only [re_aEd, e, cond_false], [], ?_⟩
      simp only [rs_aEd, e, cond_false]
      repeat' (first | exact True.intro | exact rfl | exact fun _ => rfl | refine And.intro ?_ ?_)
    · have e : evA ps.length (es.drop i) = false := by
        unfold evA
        rw [all_drop (by omega) (0, 0)]
        have : evB ps.length (es.getD i (0, 0)) = false := by
          rw [Bool.eq_false_iff]
          intro hh
          simp only [evB, Bool.and_eq_true, decide_eq_true_eq] at hh
          omega
        rw [this, Bool.false_and]
      refine ⟨by simp only [re_aEd, e, cond_false], [], ?_⟩
      simp only [rs_aEd, e, cond_false]
      repeat' (first | exact True.intro | exact rfl | exact fun _ => rfl | refine And.intro ?_ ?_)
    · have e : evA ps.length (es.drop i) = evA ps.length (es.drop (i + 1)) := by
        unfold evA
        rw [all_drop (by omega) (0, 0)]
        have : evB ps.length (es.getD i (0, 0)) = true := by simp only [evB, Bool.and_eq_true, decide_eq_true_eq]; omega
        rw [this, Bool.true_and]
      refine ⟨i + 1, [], ?_, ?_, by simp only [re_aEd, e], by simp only [rs_aEd, e], ?_⟩
      · show i + 1 ≤ es.length; omega
      · show es.length - (i + 1) < es.length - i; omega
      · repeat' (first | exact True.intro | exact rfl | exact fun _ => rfl | refine And.intro ?_ ?_)
  · have e : evA ps.length (es.drop i) = true := all_end (by omega) _
    refine ⟨by simp only [re_aEd, e, cond_true], [], ?_⟩
    simp only [rs_aEd, e, cond_true]
    repeat' (first | exact True.intro | exact rfl | exact fun _ => rfl | refine And.intro ?_ ?_)
set_option maxRecDepth 100000 in
theorem lg_aEd : LoopE Try.prog e_aEd c_aEd := by
  intro s k t F H hlt ht
  unfold e_aEd at hlt
  split at hlt
  rotate_left
  · cases hlt
  rename_i hlen hpick hmem
  obtain ⟨tmps, mem⟩ := s
  simp only at hlen hpick hmem
  subst hmem
  obtain rfl := Option.some.inj hlt
  obtain ⟨⟨rfl, rfl, h1, h2, h3, h4, _⟩, ht2⟩ := needs_ok ht
  clear ht hlt
  obtain ⟨ps, rfl, rfl⟩ := even_flat h1
  obtain ⟨es, rfl, rfl⟩ := even_flat h2
  rw [ptsA_flat] at ht2
  refine ⟨_, _, pick2k ht2, loop_run mixed ETl0_ok (s_aEd ps es) (inv_aEd ps es) (me_aEd ps es) (re_aEd ps es) (rs_aEd ps es) k_aEd (fun _ => rfl) (noLoops nl_aEd) (round_aEd ps es h3 h4) (x := 0) (Nat.zero_le _) (π := []) rfl ?_⟩
  refine ⟨rfl, rfl, ?_, wvs_spread' [0, 7, 8, 9] hlen rfl ?_⟩
  · repeat' (first | exact True.intro | exact rfl | exact wv_top _ _ | exact fun _ => rfl | assumption | exact Eq.symm (by assumption) | exact vI0 rfl | refine And.intro ?_ ?_)
  · rw [hpick]
    repeat' (first | exact True.intro | exact rfl | exact wv_top _ _ | exact fun _ => rfl | assumption | exact Eq.symm (by assumption) | exact vI0 rfl | refine And.intro ?_ ?_)
end Go.Proofs.Ytfjcbindeimoiab
