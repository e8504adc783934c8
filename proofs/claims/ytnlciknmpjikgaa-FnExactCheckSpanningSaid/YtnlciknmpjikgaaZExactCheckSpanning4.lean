/-
  Texts that the proof needs, merged. Written by an AI agent.
-/
import Derived.Orders
import Derived.Below
import Derived.OrdersIn
import Derived.Deep.LoopGhost
import Derived.WalkKit
import Derived.Laws.CopyRow
import Derived.Laws.AppendOwn
import Derived.Laws.Slices
import Derived.Laws.MakeOwn
import Derived.Test.YtnlciknmpjikgaaRows
import Derived.ProofKit
import Derived.OpenShut
import Derived.Carry
import Derived.IntWalk
import Derived.Test.YtnlciknmpjikgaaProg
import Derived.WalkSpells
import Derived.WalkLawsBesides
import Derived.Lib.Hide
import Derived.Deep.QuietTactic
import Derived.BigQuiet
import Derived.KernelRfl
import Derived.Deep.RegionHeld3
import Derived.LoopTactic
import Derived.Laws.StructEq
import Derived.Laws.Tables
import Derived.RangeFuncNested
import Derived.RangeFuncLeaves
import Derived.Deep.Slices
import Derived.Deep.Fields
import Derived.ChangeSame
import Derived.Test.YtnlciknmpjikgaaZExactCheckSpanning3
namespace Go.Proofs.Ytnlciknmpjikgaa
set_option linter.all false
open Go.RowKit
theorem Lr_sgr {fn : Func} (hf : Try.prog.funcs[97]? = some fn) : LoopsGood Try.prog (lt1 e_sgr) 0 (codeOf fn) := by
  obtain rfl := fn_is Try.func97 hf
  exact lt1_good lg_sgr
theorem Lr_plc {fn : Func} (hf : Try.prog.funcs[94]? = some fn) : LoopsGood Try.prog (lt1 e_plc) 0 (codeOf fn) := by
  obtain rfl := fn_is Try.func94 hf
  exact lt1_good lg_plc
def LUf : FuncId → LT := fun f => match f with
  | 97 => lt1 e_sgr
  | 94 => lt1 e_plc
  | _ => noL
def EUf : Env := mkE B0 (fun _ _ => none) LUf
theorem EUf_ok : EnvOk Try.prog EUf := mkEOk B0_ok (fun _ _ _ _ _ h => (by cases h)) (by
  intro f fn hf
  unfold LUf
  split
  all_goals first | with_reducible exact Lr_sgr hf | with_reducible exact Lr_plc hf | exact noL_good)
set_option maxRecDepth 100000 in
theorem tr_sgF (n : Nat) : bodyX Try.prog EUf 30 12 97 [.v (iv n)] = .need ((0 : Int) ≤ (↑n : Int) ∧ (↑n : Int) ≤ (↑n : Int) ∧ (8 : Nat) * (↑n : Int).toNat ≤ (281474976710656 : Nat) ∧ (↑n : Int) ≤ (9223372036854775807 : Int)) (.need ((0 : Int) = (0 : Int)) (.need ((↑(↑n : Int).toNat : Int) = (↑(↑n : Int).toNat : Int)) (.need ((List.replicate ((↑n : Int).toNat * (1 : Nat)) (0 : Int)).length = (↑n : Int).toNat) (.need ((↑n : Int).toNat ≤ (1000 : Nat)) (.fin (.slice (some ⟨1, 0, none⟩) ((↑n : Int).toNat) ((↑n : Int).toNat)) [none, some ⟨.row 3 1, .ints (rgI (↑n : Int).toNat)⟩]))))) := by kernel_rfl
set_option maxRecDepth 100000 in
theorem tr_plF (n : Nat) (xs : List Int) (q : Int) : bodyV Try.prog EUf 30 12 94 [.row n (.ints xs), .v (iv q)] = .need ((0 : Int) = (0 : Int)) (.need (n ≤ xs.length) (.need (n ≤ (1000000000 : Nat)) (brT (decide (plF1 xs q 0 n = -1)) (.fin (.int .i64 (-1)) []) (.fin (.int .i64 (plF1 xs q 0 n)) [])))) := by kernel_rfl
set_option maxRecDepth 100000 in
theorem tr_smh (a b c d : Int) : bodyV Try.prog EUf 30 12 62 [.v (.agg #[iv a, iv b]), .v (.agg #[iv c, iv d])] = brT (decide (IntKind.i64.wrap (a - c) < 0)) (brT (decide (IntKind.i64.wrap (b - d) < 0)) (.fin (.int .i64 (IntKind.i64.wrap (IntKind.i64.wrap (0 - IntKind.i64.wrap (a - c)) + IntKind.i64.wrap (0 - IntKind.i64.wrap (b - d))))) []) (.fin (.int .i64 (IntKind.i64.wrap (IntKind.i64.wrap (0 - IntKind.i64.wrap (a - c)) + IntKind.i64.wrap (b - d)))) [])) (brT (decide (IntKind.i64.wrap (b - d) < 0)) (.fin (.int .i64 (IntKind.i64.wrap (IntKind.i64.wrap (a - c) + IntKind.i64.wrap (0 - IntKind.i64.wrap (b - d))))) []) (.fin (.int .i64 (IntKind.i64.wrap (IntKind.i64.wrap (a - c) + IntKind.i64.wrap (b - d)))) [])) := by kernel_rfl
theorem resR_sg (n : Nat) (h : n ≤ 1000) : ResR Try.prog 97 [.v (iv n)] (.slice (some ⟨0, 0, none⟩) n n) ⟨.row 3 1, .ints (rgI n)⟩ := by
  refine bodyX_resR mixed EUf_ok (m := 30) (n := 12) rfl ?_
  rw [tr_sgF]
  simp only [Int.toNat_natCast, Nat.mul_one, Tree.ok]
  exact ⟨by omega, True.intro, True.intro, by simp, h, some 1, ⟨rfl, rfl, rfl⟩, rfl, rfl, rfl⟩
theorem res_pl (n : Nat) (xs : List Int) (q : Int) (hx : n ≤ xs.length) (h : n ≤ 1000000000) : Res Try.prog 94 [.row n (.ints xs), .v (iv q)] (iv (plF1 xs q 0 n)) := by
  refine bodyV_res mixed EUf_ok (m := 30) (n := 12) rfl ?_
  rw [tr_plF]
  refine ⟨rfl, hx, h, brT_ok.2 ⟨fun c => ?_, fun c => rfl⟩⟩
  rw [of_decide_eq_true c]
  exact rfl
theorem res_smh (a b c d : Int) (h1 : ptB a b = true) (h2 : ptB c d = true) : Res Try.prog 62 [.v (.agg #[iv a, iv b]), .v (.agg #[iv c, iv d])] (iv (mhP (a, b) (c, d))) := by
  refine bodyV_res mixed EUf_ok (m := 30) (n := 12) rfl ?_
  rw [tr_smh]
  have a1 := ptB_is h1
  have a2 := ptB_is h2
  simp (disch := omega) only [wr]
  unfold mhP
  refine brT_ok.2 ⟨fun c => ?_, fun c => ?_⟩
  · have c := of_decide_eq_true c
    refine brT_ok.2 ⟨fun e => ?_, fun e => ?_⟩
    · have e := of_decide_eq_true e
      exact vint_eq (by omega)
    · have e := of_decide_eq_false e
      exact vint_eq (by omega)
  · have c := of_decide_eq_false c
    refine brT_ok.2 ⟨fun e => ?_, fun e => ?_⟩
    · have e := of_decide_eq_true e
      exact vint_eq (by omega)
    · have e := of_decide_eq_false e
      exact vint_eq (by omega)
theorem res_imh (a b c d : Int) (h1 : ptB a b = true) (h2 : ptB c d = true) : Res Try.prog 109 [.v (.agg #[iv a, iv b]), .v (.agg #[iv c, iv d])] (iv (mhP (a, b) (c, d))) := by
  have := res_implMh a b c d
  have e : mhR a b c d = mhP (a, b) (c, d) := by
    unfold mhR
    rw [h1, h2]
    rfl
  rw [e] at this
  exact this
def pMz : List DArg → Option (Value × List Prop)
  | [.v (.agg ⟨[.int .i64 a, .int .i64 b]⟩), .v (.agg ⟨[.int .i64 c, .int .i64 d]⟩)] => some (iv (mhP (a, b) (c, d)), [ptB a b = true, ptB c d = true])
  | _ => none
theorem pMz_ok {f : FuncId} (H : ∀ a b c d, ptB a b = true → ptB c d = true → Res Try.prog f [.v (.agg #[iv a, iv b]), .v (.agg #[iv c, iv d])] (iv (mhP (a, b) (c, d)))) {ds : List DArg} {v : Value} {C : List Prop} (h : pMz ds = some (v, C)) (hC : AllP C) : Res Try.prog f ds v := by
  unfold pMz at h
  split at h
  · obtain ⟨rfl, rfl⟩ : _ ∧ _ := by simpa using h
    exact H _ _ _ _ hC.1 hC.2.1
  · cases h
def pPl : List DArg → Option (Value × List Prop)
  | [.row n (.ints xs), .v (.int .i64 q)] => some (iv (plF1 xs q 0 n), [n ≤ xs.length, n ≤ 1000000000])
  | _ => none
theorem pPl_ok {ds : List DArg} {v : Value} {C : List Prop} (h : pPl ds = some (v, C)) (hC : AllP C) : Res Try.prog 94 ds v := by
  unfold pPl at h
  split at h
  · obtain ⟨rfl, rfl⟩ : _ ∧ _ := by simpa using h
    exact res_pl _ _ _ hC.1 hC.2.1
  · cases h
def TCn : Tab := fun f ds => match f with
  | 109 => pMz ds
  | 62 => pMz ds
  | 94 => pPl ds
  | f => T3 f ds
theorem TCn_ok : TabOk Try.prog TCn := by
  intro f ds v C h hC
  unfold TCn at h
  split at h
  all_goals first | with_reducible exact pMz_ok res_imh h hC | with_reducible exact pMz_ok res_smh h hC | with_reducible exact pPl_ok h hC | exact T3_ok _ _ _ _ h hC
def RCn : TabR := fun f ds => match f, ds with
  | 97, [.v (.int .i64 n)] => some (.slice (some ⟨0, 0, none⟩) n.toNat n.toNat, ⟨.row 3 1, .ints (rgI n.toNat)⟩, [0 ≤ n ∧ n ≤ 1000])
  | f, ds => RPw f ds
theorem RCn_ok : TabROk Try.prog RCn := by
  intro f ds v b C h hC
  unfold RCn at h
  split at h
  · obtain ⟨rfl, rfl, rfl⟩ : _ ∧ _ ∧ _ := by simpa using h
    rename_i n
    obtain ⟨n, rfl⟩ := Int.eq_ofNat_of_zero_le hC.1.1
    exact resR_sg n (by have := hC.1.2; omega)
  · exact RPw_ok _ _ _ _ _ h hC
def JCn : TabJ := consJ 99 (fun _ => wrG cnS) (consJ 100 (fun _ => wrG cdS) noJ)
theorem JCn_ok : GSound Try.prog JCn.g := consJ_wr mixed (consJ_wr mixed (J := noJ) (failG_sound _) (entersB_res (by kernel_rfl)).1 cdS_ok) (entersB_res (by kernel_rfl)).1 cnS_ok
def ECn : Env := withT (mkE TCn RCn (fun _ => noL)) JCn
theorem ECn_ok : EnvOk Try.prog ECn := withT_ok (mkEOk TCn_ok RCn_ok (fun _ _ _ => noL_good)) JCn_ok
end Go.Proofs.Ytnlciknmpjikgaa
namespace Go.Proofs.Ytnlciknmpjikgaa
set_option linter.all false
open Go.RowKit
/-- One root hung under another one. -/
theorem attach {g : List Int} {ra rb : Nat} (hi : ra < g.length) (ha : upN g ra = ra) (hb : upN g rb = rb) : ∀ {K j : Nat}, dep K g j → dep (K + 1) (g.set ra (rb : Int)) j ∧ rto (K + 1) (g.set ra (rb : Int)) j = if rto K g j = ra then rb else rto K g j := by
  intro K
  have fixb : upN (g.set ra (rb : Int)) rb = rb := by
    rw [up_set hi]
    split
    · rfl
    · exact hb
  have root : ∀ K j, j = ra → dep (K + 1) (g.set ra (rb : Int)) j ∧ rto (K + 1) (g.set ra (rb : Int)) j = if rto K g j = ra then rb else rto K g j := fun K j e => by
    subst e
    rw [rto_fix ha, if_pos rfl]
    have u : upN (g.set j (rb : Int)) j = rb := by rw [up_set hi, if_pos rfl]
    by_cases e2 : rb = j
    · refine ⟨.inl (u.trans e2), ?_⟩
      rw [rto_fix (u.trans e2)]
      exact e2.symm
    · refine ⟨.inr (by rw [u]; exact dep_mono (Nat.zero_le _) fixb), ?_⟩
      simp only [rto, u, if_neg e2]
      exact rto_fix fixb K
  have fixed : ∀ K j, j ≠ ra → upN g j = j → dep (K + 1) (g.set ra (rb : Int)) j ∧ rto (K + 1) (g.set ra (rb : Int)) j = if rto K g j = ra then rb else rto K g j := fun K j e h => by
    have u : upN (g.set ra (rb : Int)) j = j := by rw [up_set hi, if_neg e]; exact h
    refine ⟨.inl u, ?_⟩
    rw [rto_fix u, rto_fix h, if_neg e]
  induction K with
  | zero =>
    intro j hd
    by_cases e : j = ra
    · exact root 0 j e
    · exact fixed 0 j e hd
  | succ K ih =>
    intro j hd
    by_cases e : j = ra
    · exact root (K + 1) j e
    by_cases h : upN g j = j
    · exact fixed (K + 1) j e h
    have hd2 : dep K g (upN g j) := by
      rcases hd with h2 | h2
      · exact absurd h2 h
      · exact h2
    obtain ⟨q1, q2⟩ := ih hd2
    have u : upN (g.set ra (rb : Int)) j = upN g j := by rw [up_set hi, if_neg e]
    refine ⟨.inr (by rw [u]; exact q1), ?_⟩
    have e1 : rto (K + 1 + 1) (g.set ra (rb : Int)) j = rto (K + 1) (g.set ra (rb : Int)) (upN g j) := by
      show (if upN (g.set ra (rb : Int)) j = j then j else rto (K + 1) (g.set ra (rb : Int)) (upN (g.set ra (rb : Int)) j)) = _
      rw [u, if_neg h]
    have e2 : rto (K + 1) g j = rto K g (upN g j) := by
      show (if upN g j = j then j else rto K g (upN g j)) = _
      rw [if_neg h]
    rw [e1, e2, q2]
theorem cnG_ok {n K : Nat} {g : List Int} {a b : Nat} (hg : inG n g) (hd : ∀ j, j < n → dep K g j) (hK : K ≤ 99) (ha : a < n) (hb : b < n) :
    inG n (cnG g a b) ∧ ∀ j, j < n → dep (K + 1) (cnG g a b) j ∧ rto (K + 1) (cnG g a b) j = if rto K g j = rto K g a then rto K g b else rto K g j := by
  obtain ⟨q1, q2, q3⟩ := fd_ok (k := 100) hg ha (dep_mono (by omega) (hd a ha))
  obtain ⟨r1, r2⟩ := q3 (hd b hb)
  obtain ⟨s1, s2, s3⟩ := fd_ok (k := 100) q1 hb (dep_mono (by omega) r1)
  have ea : (fd 100 g a).2 = rto K g a := q2.trans (rto_mono (by omega) (hd a ha))
  have eb : (fd 100 (fd 100 g a).1 b).2 = rto K g b := by rw [s2, rto_mono (by omega) r1, r2]
  have la := rto_lt hg (k := K) ha
  have lb := rto_lt hg (k := K) hb
  have keep : ∀ j, j < n → dep K (fd 100 (fd 100 g a).1 b).1 j ∧ rto K (fd 100 (fd 100 g a).1 b).1 j = rto K g j := fun j hj => by
    obtain ⟨u1, u2⟩ := q3 (hd j hj)
    obtain ⟨v1, v2⟩ := s3 u1
    exact ⟨v1, v2.trans u2⟩
  have ra : upN (fd 100 (fd 100 g a).1 b).1 (rto K g a) = rto K g a := by
    have := rto_root (keep a ha).1
    rw [(keep a ha).2] at this
    exact this
  have rb : upN (fd 100 (fd 100 g a).1 b).1 (rto K g b) = rto K g b := by
    have := rto_root (keep b hb).1
    rw [(keep b hb).2] at this
    exact this
  unfold cnG
  rw [ea, eb]
  refine ⟨inG_set s1 lb, fun j hj => ?_⟩
  obtain ⟨w1, w2⟩ := attach (by rw [s1.1]; exact la) ra rb (keep j hj).1
  rw [(keep j hj).2] at w2
  exact ⟨w1, w2⟩
/-- The groups when the short edges are joined. -/
def cnF (ps : List Pt) (m : Int) : List Pt → List Int → List Int
  | [], g => g
  | e :: t, g => cnF ps m t (if edL ps e ≤ m then cnG g e.1.toNat e.2.toNat else g)
/-- The group of each index when the short edges are joined. -/
def lbF (ps : List Pt) (m : Int) : List Pt → (Nat → Nat) → Nat → Nat
  | [], L => L
  | e :: t, L => lbF ps m t (if edL ps e ≤ m then fun x => if L x = L e.1.toNat then L e.2.toNat else L x else L)
theorem lbF_ext {ps : List Pt} {m : Int} {n : Nat} : ∀ {es : List Pt} {L M : Nat → Nat}, evA n es = true → (∀ j, j < n → L j = M j) → ∀ j, j < n → lbF ps m es L j = lbF ps m es M j
  | [], L, M, _, h, j, hj => h j hj
  | e :: t, L, M, he, h, j, hj => by
    unfold evA at he
    simp only [List.all_cons, Bool.and_eq_true] at he
    have e1 := he.1
    simp only [evB, Bool.and_eq_true, decide_eq_true_eq] at e1
    refine lbF_ext (n := n) he.2 (fun x hx => ?_) j hj
    split
    · simp only [h x hx, h e.1.toNat (by omega), h e.2.toNat (by omega)]
    · exact h x hx
theorem cnF_ok {ps : List Pt} {m : Int} {n : Nat} : ∀ {es : List Pt} {g : List Int} {K : Nat}, evA n es = true → inG n g → (∀ j, j < n → dep K g j) → K + es.length ≤ 99 → inG n (cnF ps m es g) ∧ ∀ j, j < n → dep (K + es.length) (cnF ps m es g) j ∧ rto (K + es.length) (cnF ps m es g) j = lbF ps m es (rto K g) j
  | [], g, K, _, hg, hd, _ => ⟨hg, fun j hj => ⟨hd j hj, rfl⟩⟩
  | e :: t, g, K, he, hg, hd, hK => by
    unfold evA at he
    simp only [List.all_cons, Bool.and_eq_true] at he
    have e1 := he.1
    simp only [evB, Bool.and_eq_true, decide_eq_true_eq] at e1
    simp only [List.length_cons] at hK ⊢
    show inG n (cnF ps m t (if edL ps e ≤ m then cnG g e.1.toNat e.2.toNat else g)) ∧ ∀ j, j < n → dep (K + (t.length + 1)) (cnF ps m t (if edL ps e ≤ m then cnG g e.1.toNat e.2.toNat else g)) j ∧ rto (K + (t.length + 1)) (cnF ps m t (if edL ps e ≤ m then cnG g e.1.toNat e.2.toNat else g)) j = lbF ps m t (if edL ps e ≤ m then fun x => if rto K g x = rto K g e.1.toNat then rto K g e.2.toNat else rto K g x else rto K g) j
    rw [show K + (t.length + 1) = (K + 1) + t.length by omega]
    by_cases c : edL ps e ≤ m
    · rw [if_pos c, if_pos c]
      obtain ⟨q1, q2⟩ := cnG_ok hg hd (by omega) (show e.1.toNat < n by omega) (show e.2.toNat < n by omega)
      obtain ⟨r1, r2⟩ := cnF_ok (ps := ps) (m := m) (es := t) (K := K + 1) he.2 q1 (fun j hj => (q2 j hj).1) (by omega)
      refine ⟨r1, fun j hj => ⟨(r2 j hj).1, (r2 j hj).2.trans ?_⟩⟩
      exact lbF_ext (n := n) he.2 (fun x hx => (q2 x hx).2) j hj
    · rw [if_neg c, if_neg c]
      obtain ⟨r1, r2⟩ := cnF_ok (ps := ps) (m := m) (es := t) (K := K + 1) he.2 hg (fun j hj => dep_up (hd j hj)) (by omega)
      refine ⟨r1, fun j hj => ⟨(r2 j hj).1, (r2 j hj).2.trans ?_⟩⟩
      exact lbF_ext (n := n) he.2 (fun x hx => rto_mono (by omega) (hd x hx)) j hj
theorem rgI_in (n : Nat) : inG n (rgI n) ∧ ∀ j, j < n → dep 0 (rgI n) j := by
  refine ⟨⟨rgI_len n, fun i hi => by rw [rgI_at hi]; omega⟩, fun j hj => ?_⟩
  show upN (rgI n) j = j
  unfold upN
  rw [rgI_at hj]
  omega
theorem cnF_step {ps es : List Pt} {m : Int} {i : Nat} {g : List Int} (h : i < es.length) : cnF ps m (es.drop i) g = cnF ps m (es.drop (i + 1)) (if edL ps (es.getD i (0, 0)) ≤ m then cnG g (es.getD i (0, 0)).1.toNat (es.getD i (0, 0)).2.toNat else g) := by
  rw [drop_cons h (0, 0)]
  rfl
noncomputable def c_cnr : Code := ((loopsOf (codeOf Try.f67))[0]?).getD .skip
def k_cnr : Ex → List Nat := keeps [0, 5, 7, 13, 14, 15] [(0, [5, 7])] [6]
def s_cnr (ps es : List Pt) (a b : Int) : Nat × (List Int) → St := fun (i, g) => ⟨(.slice (some ⟨0, 0, none⟩) ps.length ps.length :: topV :: topV :: topV :: topV :: .pointer (some ⟨3, 0, none⟩) :: topV :: .slice (some ⟨4, 0, none⟩) ps.length ps.length :: topV :: topV :: topV :: topV :: topV :: .slice (some ⟨1, 0, none⟩) es.length es.length :: .int .i64 es.length :: .int .i64 i :: topV :: topV :: topV :: topV :: topV :: topV :: topV :: topV :: topV :: topV :: topV :: topV :: topV :: topV :: topV :: topV :: topV :: []), [some ⟨.view, .ints (flat ps)⟩, some ⟨.view, .ints (flat es)⟩, none, some ⟨.box, .vals [.int .i64 a, .int .i64 b]⟩, some ⟨.row 3 1, .ints g⟩]⟩
def re_cnr : Nat × (List Int) → Ex := fun _ => .exit 0
def rs_cnr (ps es : List Pt) (a b : Int) : Nat × (List Int) → St := fun (i, g) => ⟨(topV :: topV :: topV :: topV :: topV :: .pointer (some ⟨3, 0, none⟩) :: topV :: .slice (some ⟨4, 0, none⟩) ps.length ps.length :: topV :: topV :: topV :: topV :: topV :: topV :: topV :: topV :: topV :: topV :: topV :: topV :: topV :: topV :: topV :: topV :: topV :: topV :: topV :: topV :: topV :: topV :: topV :: topV :: topV :: []), [some ⟨.view, .ints (flat ps)⟩, some ⟨.view, .ints (flat es)⟩, none, some ⟨.box, .vals [.int .i64 a, .int .i64 b]⟩, some ⟨.row 3 1, .ints (cnF ps (edL ps (a, b)) es (rgI ps.length))⟩]⟩
set_option maxRecDepth 100000 in
theorem tr_cnr (ps es : List Pt) (a b : Int) (i : Nat) (g : List Int) : bodyL Try.prog ECn 30 12 noL 1 c_cnr k_cnr 5 (s_cnr ps es a b (i, g)) = brT (decide ((↑i : Int) < (↑es.length : Int))) (.need ((0 : Int) ≤ (↑i : Int) ∧ (↑i : Int) < (↑es.length : Int)) (.need ((0 : Nat) + (↑i : Int).toNat * (2 : Nat) + (2 : Nat) ≤ (flat es).length) (.need (ptB ((List.drop (0 : Nat) (flat ps)).getD ((0 : Nat) + ((flat es).getD ((0 : Nat) + (↑i : Int).toNat * (2 : Nat)) (0 : Int)).toNat * (2 : Nat)) (0 : Int)) ((List.drop (0 : Nat) (flat ps)).getD ((0 : Nat) + ((flat es).getD ((0 : Nat) + (↑i : Int).toNat * (2 : Nat)) (0 : Int)).toNat * (2 : Nat) + (1 : Nat)) (0 : Int)) = true) (.need (ptB ((List.drop (0 : Nat) (flat ps)).getD ((0 : Nat) + ((flat es).getD ((0 : Nat) + (↑i : Int).toNat * (2 : Nat) + (1 : Nat)) (0 : Int)).toNat * (2 : Nat)) (0 : Int)) ((List.drop (0 : Nat) (flat ps)).getD ((0 : Nat) + ((flat es).getD ((0 : Nat) + (↑i : Int).toNat * (2 : Nat) + (1 : Nat)) (0 : Int)).toNat * (2 : Nat) + (1 : Nat)) (0 : Int)) = true) (.need ((0 : Int) ≤ (flat es).getD ((0 : Nat) + (↑i : Int).toNat * (2 : Nat)) (0 : Int) ∧ (flat es).getD ((0 : Nat) + (↑i : Int).toNat * (2 : Nat)) (0 : Int) < (↑ps.length : Int)) (.need ((0 : Nat) + ((flat es).getD ((0 : Nat) + (↑i : Int).toNat * (2 : Nat)) (0 : Int)).toNat * (2 : Nat) + (2 : Nat) ≤ (List.drop (0 : Nat) (flat ps)).length) (.need ((0 : Int) ≤ (flat es).getD ((0 : Nat) + (↑i : Int).toNat * (2 : Nat) + (1 : Nat)) (0 : Int) ∧ (flat es).getD ((0 : Nat) + (↑i : Int).toNat * (2 : Nat) + (1 : Nat)) (0 : Int) < (↑ps.length : Int)) (.need ((0 : Nat) + ((flat es).getD ((0 : Nat) + (↑i : Int).toNat * (2 : Nat) + (1 : Nat)) (0 : Int)).toNat * (2 : Nat) + (2 : Nat) ≤ (List.drop (0 : Nat) (flat ps)).length) (.need (ptB ((List.drop (0 : Nat) (flat ps)).getD ((0 : Nat) + a.toNat * (2 : Nat)) (0 : Int)) ((List.drop (0 : Nat) (flat ps)).getD ((0 : Nat) + a.toNat * (2 : Nat) + (1 : Nat)) (0 : Int)) = true) (.need (ptB ((List.drop (0 : Nat) (flat ps)).getD ((0 : Nat) + b.toNat * (2 : Nat)) (0 : Int)) ((List.drop (0 : Nat) (flat ps)).getD ((0 : Nat) + b.toNat * (2 : Nat) + (1 : Nat)) (0 : Int)) = true) (.need ((0 : Int) ≤ a ∧ a < (↑ps.length : Int)) (.need ((0 : Nat) + a.toNat * (2 : Nat) + (2 : Nat) ≤ (List.drop (0 : Nat) (flat ps)).length) (.need ((0 : Int) ≤ b ∧ b < (↑ps.length : Int)) (.need ((0 : Nat) + b.toNat * (2 : Nat) + (2 : Nat) ≤ (List.drop (0 : Nat) (flat ps)).length) (brT (decide (mhP ((List.drop 0 (flat ps)).getD (0 + ((flat es).getD (0 + (↑i : Int).toNat * (2 : Nat)) 0).toNat * (2 : Nat)) 0, (List.drop 0 (flat ps)).getD (0 + ((flat es).getD (0 + (↑i : Int).toNat * (2 : Nat)) 0).toNat * (2 : Nat) + 1) 0) ((List.drop 0 (flat ps)).getD (0 + ((flat es).getD (0 + (↑i : Int).toNat * (2 : Nat) + 1) 0).toNat * (2 : Nat)) 0, (List.drop 0 (flat ps)).getD (0 + ((flat es).getD (0 + (↑i : Int).toNat * (2 : Nat) + 1) 0).toNat * (2 : Nat) + 1) 0) ≤ mhP ((List.drop 0 (flat ps)).getD (0 + a.toNat * (2 : Nat)) 0, (List.drop 0 (flat ps)).getD (0 + a.toNat * (2 : Nat) + 1) 0) ((List.drop 0 (flat ps)).getD (0 + b.toNat * (2 : Nat)) 0, (List.drop 0 (flat ps)).getD (0 + b.toNat * (2 : Nat) + 1) 0))) (.need (inG ps.length g) (.need (ps.length ≤ (1000 : Nat)) (.need (((0 : Int) ≤ (flat es).getD ((0 : Nat) + (↑i : Int).toNat * (2 : Nat)) (0 : Int) ∧ (flat es).getD ((0 : Nat) + (↑i : Int).toNat * (2 : Nat)) (0 : Int) < (↑ps.length : Int)) ∧ (0 : Int) ≤ (flat es).getD ((0 : Nat) + (↑i : Int).toNat * (2 : Nat) + (1 : Nat)) (0 : Int) ∧ (flat es).getD ((0 : Nat) + (↑i : Int).toNat * (2 : Nat) + (1 : Nat)) (0 : Int) < (↑ps.length : Int)) (.need (∀ (j : Nat), j < ps.length → dep (99 : Nat) g j) (.leaf .normal ⟨(.slice (some ⟨0, 0, none⟩) (ps.length) (ps.length) :: topV :: topV :: topV :: topV :: .pointer (some ⟨3, 0, none⟩) :: topV :: .slice (some ⟨4, 0, none⟩) (ps.length) (ps.length) :: topV :: topV :: topV :: topV :: topV :: .slice (some ⟨1, 0, none⟩) (es.length) (es.length) :: .int .i64 ((↑es.length : Int)) :: .int .i64 (IntKind.i64.wrap ((↑i : Int) + 1)) :: topV :: topV :: topV :: topV :: topV :: topV :: topV :: topV :: topV :: topV :: topV :: topV :: topV :: topV :: topV :: topV :: topV :: []), [some ⟨.view, .ints (flat ps)⟩, some ⟨.view, .ints (flat es)⟩, none, some ⟨.box, .vals [.int .i64 (a), .int .i64 (b)]⟩, some ⟨.row 3 1, .ints (cnG g ((flat es).getD (0 + (↑i : Int).toNat * 2) 0).toNat ((flat es).getD (0 + (↑i : Int).toNat * 2 + 1) 0).toNat)⟩]⟩))))) (.leaf .normal ⟨(.slice (some ⟨0, 0, none⟩) (ps.length) (ps.length) :: topV :: topV :: topV :: topV :: .pointer (some ⟨3, 0, none⟩) :: topV :: .slice (some ⟨4, 0, none⟩) (ps.length) (ps.length) :: topV :: topV :: topV :: topV :: topV :: .slice (some ⟨1, 0, none⟩) (es.length) (es.length) :: .int .i64 ((↑es.length : Int)) :: .int .i64 (IntKind.i64.wrap ((↑i : Int) + 1)) :: topV :: topV :: topV :: topV :: topV :: topV :: topV :: topV :: topV :: topV :: topV :: topV :: topV :: topV :: topV :: topV :: topV :: []), [some ⟨.view, .ints (flat ps)⟩, some ⟨.view, .ints (flat es)⟩, none, some ⟨.box, .vals [.int .i64 (a), .int .i64 (b)]⟩, some ⟨.row 3 1, .ints (g)⟩]⟩)))))))))))))))) (.leaf (.exit 0) ⟨(topV :: topV :: topV :: topV :: topV :: .pointer (some ⟨3, 0, none⟩) :: topV :: .slice (some ⟨4, 0, none⟩) (ps.length) (ps.length) :: topV :: topV :: topV :: topV :: topV :: topV :: topV :: topV :: topV :: topV :: topV :: topV :: topV :: topV :: topV :: topV :: topV :: topV :: topV :: topV :: topV :: topV :: topV :: topV :: topV :: []), [some ⟨.view, .ints (flat ps)⟩, some ⟨.view, .ints (flat es)⟩, none, some ⟨.box, .vals [.int .i64 (a), .int .i64 (b)]⟩, some ⟨.row 3 1, .ints (g)⟩]⟩) := by kernel_rfl
set_option maxRecDepth 100000 in
theorem nl_cnr : loopsOf c_cnr = [] := by kernel_rfl
def inv_cnr (ps es : List Pt) (a b : Int) : Nat × (List Int) → Prop := fun (i, g) => i ≤ es.length ∧ (inG ps.length g ∧ ∀ j, j < ps.length → dep i g j) ∧ cnF ps (edL ps (a, b)) (es.drop i) g = cnF ps (edL ps (a, b)) es (rgI ps.length)
def me_cnr (ps es : List Pt) (a b : Int) : Nat × (List Int) → Nat := fun (i, g) => es.length - i
/-- A round of this loop. -/
def Round_cnr (ps es : List Pt) (a b : Int) : Prop := ∀ xx : Nat × (List Int), inv_cnr ps es a b xx → (bodyL Try.prog ECn 30 12 noL 1 c_cnr k_cnr 5 (s_cnr ps es a b xx)).ok (RoundEnd 5 (s_cnr ps es a b) (inv_cnr ps es a b) (me_cnr ps es a b) re_cnr (rs_cnr ps es a b) xx) (fun _ _ => False)
def e_cnr (s : St) (k : Ex → St → Tree) : Option Tree := match Nat.beq s.tmps.length 33, pickL s.tmps [0, 5, 7, 13, 14, 15], s.mem with
  | true, [.slice (some ⟨0, 0, none⟩) n _, .pointer (some ⟨3, 0, none⟩), .slice (some ⟨4, 0, none⟩) n7 _, .slice (some ⟨1, 0, none⟩) m _, .int .i64 m1, .int .i64 i0], [some ⟨.view, .ints xs⟩, some ⟨.view, .ints ys⟩, none, some ⟨.box, .vals [.int .i64 a, .int .i64 b]⟩, some ⟨.row 3 1, .ints gs⟩] => some (needs [i0 = 0, m1 = m, n7 = n, gs = rgI n, xs.length = n * 2, ys.length = m * 2, n ≤ 20, m ≤ 20, allV (ptsA n xs) = true, evA n (ptsA m ys) = true, (0 ≤ a ∧ a < n) ∧ 0 ≤ b ∧ b < n] (k (.exit 0) ⟨(topV :: topV :: topV :: topV :: topV :: .pointer (some ⟨3, 0, none⟩) :: topV :: .slice (some ⟨4, 0, none⟩) n n :: topV :: topV :: topV :: topV :: topV :: topV :: topV :: topV :: topV :: topV :: topV :: topV :: topV :: topV :: topV :: topV :: topV :: topV :: topV :: topV :: topV :: topV :: topV :: topV :: topV :: []), [some ⟨.view, .ints xs⟩, some ⟨.view, .ints ys⟩, none, some ⟨.box, .vals [.int .i64 a, .int .i64 b]⟩, some ⟨.row 3 1, .ints (cnF (ptsA n xs) (edL (ptsA n xs) (a, b)) (ptsA m ys) (rgI n))⟩]⟩))
  | _, _, _ => none
set_option maxRecDepth 100000 in
theorem round_cnr (ps es : List Pt) (a b : Int) (hn : ps.length ≤ 20) (hm : es.length ≤ 20) (hv : allV ps = true) (he : evA ps.length es = true) (hab : (0 ≤ a ∧ a < ps.length) ∧ 0 ≤ b ∧ b < ps.length) : Round_cnr ps es a b := by
  rintro ⟨i, g⟩ ⟨h1, ⟨hg, hd⟩, h2⟩
  rw [tr_cnr]
  have fe := flat_length es
  have fp := flat_length ps
  have P : ∀ k, k < ps.length → ptB (ps.getD k (0, 0)).1 (ps.getD k (0, 0)).2 = true := fun k hk => List.all_eq_true.1 hv (ps.getD k (0, 0)) (by simp [hk])
  simp only [Int.toNat_natCast, Nat.zero_add, Nat.add_zero, List.drop_zero, flat_get0, flat_get1]
  refine brT_ok.2 ⟨fun hlt => ?_, fun hge => ?_⟩
  · have hlt := of_decide_eq_true hlt
    have hi : i < es.length := by omega
    have st := cnF_step (ps := ps) (m := edL ps (a, b)) (g := g) hi
    have ev : evB ps.length (es.getD i (0, 0)) = true := List.all_eq_true.1 he (es.getD i (0, 0)) (by simp [hi])
    rw [wsucc (n := es.length) hi (by omega)]
    generalize es.getD i (0, 0) = e at *
    simp only [evB, Bool.and_eq_true, decide_eq_true_eq] at ev
    obtain ⟨q1, q2⟩ := cnG_ok hg hd (by omega) (show e.1.toNat < ps.length by omega) (show e.2.toNat < ps.length by omega)
    refine ⟨by omega, by omega, P _ (by omega), P _ (by omega), by omega, by omega, by omega, by omega, P _ (by omega), P _ (by omega), by omega, by omega, by omega, by omega, brT_ok.2 ⟨fun c => ?_, fun c => ?_⟩⟩
    · have c : edL ps e ≤ edL ps (a, b) := of_decide_eq_true c
      rw [if_pos c] at st
      refine ⟨hg, by omega, by omega, fun j hj => dep_mono (by omega) (hd j hj), (i + 1, cnG g e.1.toNat e.2.toNat), [], ⟨by omega, ⟨q1, fun j hj => (q2 j hj).1⟩, st.symm.trans h2⟩, ?_, rfl, rfl, ?_⟩
      · show es.length - (i + 1) < es.length - i; omega
      · repeat' (first | exact True.intro | exact rfl | exact fun _ => rfl | refine And.intro ?_ ?_)
    · have c : ¬ edL ps e ≤ edL ps (a, b) := of_decide_eq_false c
      rw [if_neg c] at st
      refine ⟨(i + 1, g), [], ⟨by omega, ⟨hg, fun j hj => dep_up (hd j hj)⟩, st.symm.trans h2⟩, ?_, rfl, rfl, ?_⟩
      · show es.length - (i + 1) < es.length - i; omega
      · repeat' (first | exact True.intro | exact rfl | exact fun _ => rfl | refine And.intro ?_ ?_)
  · have hge := of_decide_eq_false hge
    rw [List.drop_of_length_le (by omega)] at h2
    have h2 : g = cnF ps (edL ps (a, b)) es (rgI ps.length) := h2
    refine ⟨rfl, [], ?_⟩
    rw [h2]
    repeat' (first | exact True.intro | exact rfl | exact fun _ => rfl | refine And.intro ?_ ?_)
set_option maxRecDepth 100000 in
theorem lg_cnr : LoopE Try.prog e_cnr c_cnr := by
  intro s k t F H hlt ht
  unfold e_cnr at hlt
  split at hlt
  rotate_left
  · cases hlt
  rename_i hlen hpick hmem
  obtain ⟨tmps, mem⟩ := s
  simp only at hlen hpick hmem
  subst hmem
  obtain rfl := Option.some.inj hlt
  obtain ⟨⟨rfl, rfl, rfl, rfl, h1, h2, h3, h4, h5, h6, h7, _⟩, ht2⟩ := needs_ok ht
  clear ht hlt
  obtain ⟨ps, rfl, rfl⟩ := even_flat h1
  obtain ⟨es, rfl, rfl⟩ := even_flat h2
  rw [ptsA_flat, ptsA_flat] at ht2
  rw [ptsA_flat] at h5 h6
  refine ⟨_, _, ht2, loop_run mixed ECn_ok (s_cnr ps es _ _) (inv_cnr ps es _ _) (me_cnr ps es _ _) re_cnr (rs_cnr ps es _ _) k_cnr (fun _ => rfl) (noLoops nl_cnr) (round_cnr ps es _ _ h3 h4 h5 h6 h7) (x := (0, _)) ⟨Nat.zero_le _, ⟨(rgI_in _).1, (rgI_in _).2⟩, rfl⟩ (π := []) rfl ?_⟩
  refine ⟨rfl, rfl, ?_, wvs_spread' [0, 5, 7, 13, 14, 15] hlen rfl ?_⟩
  · repeat' (first | exact True.intro | exact rfl | exact wv_top _ _ | exact fun _ => rfl | assumption | exact Eq.symm (by assumption) | exact vI0 rfl | refine And.intro ?_ ?_)
  · rw [hpick]
    repeat' (first | exact True.intro | exact rfl | exact wv_top _ _ | exact fun _ => rfl | assumption | exact Eq.symm (by assumption) | exact vI0 rfl | refine And.intro ?_ ?_)
theorem Lr_cnr {fn : Func} (hf : Try.prog.funcs[67]? = some fn) : LoopsGood Try.prog (lt1 e_cnr) 0 (codeOf fn) := by
  obtain rfl := fn_is Try.func67 hf
  exact lt1_good lg_cnr
def LCr : FuncId → LT := fun f => match f with
  | 67 => lt1 e_cnr
  | _ => noL
def ECr : Env := withT (mkE TCn RCn LCr) JCn
theorem ECr_ok : EnvOk Try.prog ECr := withT_ok (mkEOk TCn_ok RCn_ok (by
  intro f fn hf
  unfold LCr
  split
  all_goals first | with_reducible exact Lr_cnr hf | exact noL_good)) JCn_ok
set_option maxRecDepth 100000 in
theorem tr_cnrF (ps es : List Pt) (a b : Int) : bodyV Try.prog ECr 30 12 67 [.row ps.length (.ints (flat ps)), .row es.length (.ints (flat es)), .v (.agg #[iv a, iv b])] = .need ((0 : Int) ≤ (↑ps.length : Int) ∧ (↑ps.length : Int) ≤ (1000 : Int)) (.need ((0 : Int) = (0 : Int)) (.need ((↑es.length : Int) = (↑es.length : Int)) (.need ((↑ps.length : Int).toNat = ps.length) (.need (rgI (↑ps.length : Int).toNat = rgI ps.length) (.need ((flat ps).length = ps.length * (2 : Nat)) (.need ((flat es).length = es.length * (2 : Nat)) (.need (ps.length ≤ (20 : Nat)) (.need (es.length ≤ (20 : Nat)) (.need (allV (ptsA ps.length (flat ps)) = true) (.need (evA ps.length (ptsA es.length (flat es)) = true) (.need (((0 : Int) ≤ a ∧ a < (↑ps.length : Int)) ∧ (0 : Int) ≤ b ∧ b < (↑ps.length : Int)) (.need (inG ps.length (cnF (ptsA ps.length (flat ps)) (edL (ptsA ps.length (flat ps)) (a, b)) (ptsA es.length (flat es)) (rgI ps.length))) (.need (ps.length ≤ (1000 : Nat)) (.need (((0 : Int) ≤ a ∧ a < (↑ps.length : Int)) ∧ (0 : Int) ≤ b ∧ b < (↑ps.length : Int)) (.need (∀ (j : Nat), j < ps.length → dep (99 : Nat) (cnF (ptsA ps.length (flat ps)) (edL (ptsA ps.length (flat ps)) (a, b)) (ptsA es.length (flat es)) (rgI ps.length)) j) (.fin (.bool (decide (rto 99 (cnF (ptsA ps.length (flat ps)) (edL (ptsA ps.length (flat ps)) (a, b)) (ptsA es.length (flat es)) (rgI ps.length)) a.toNat = rto 99 (cnF (ptsA ps.length (flat ps)) (edL (ptsA ps.length (flat ps)) (a, b)) (ptsA es.length (flat es)) (rgI ps.length)) b.toNat))) [])))))))))))))))) := by kernel_rfl
/-- Are the ends of a pair joined by edges that are not longer? -/
def cneV (ps es : List Pt) (e : Pt) : Bool := decide (lbF ps (edL ps e) es id e.1.toNat = lbF ps (edL ps e) es id e.2.toNat)
set_option maxRecDepth 100000 in
theorem res_cnr (ps es : List Pt) (a b : Int) (hn : ps.length ≤ 20) (hm : es.length ≤ 20) (hv : allV ps = true) (he : evA ps.length es = true) (hab : (0 ≤ a ∧ a < ps.length) ∧ 0 ≤ b ∧ b < ps.length) : Res Try.prog 67 [.row ps.length (.ints (flat ps)), .row es.length (.ints (flat es)), .v (.agg #[iv a, iv b])] (.bool (cneV ps es (a, b))) := by
  refine bodyV_res mixed ECr_ok (m := 30) (n := 12) rfl ?_
  rw [tr_cnrF]
  have fe := flat_length es
  have fp := flat_length ps
  simp only [Int.toNat_natCast, ptsA_flat]
  obtain ⟨q1, q2⟩ := cnF_ok (ps := ps) (m := edL ps (a, b)) (es := es) (g := rgI ps.length) (K := 0) he (rgI_in _).1 (rgI_in _).2 (by omega)
  have key : ∀ j, j < ps.length → rto 99 (cnF ps (edL ps (a, b)) es (rgI ps.length)) j = lbF ps (edL ps (a, b)) es id j := fun j hj => by
    obtain ⟨d1, d2⟩ := q2 j hj
    rw [rto_mono (show 0 + es.length ≤ 99 by omega) d1, d2]
    exact lbF_ext (n := ps.length) he (fun x _ => rfl) j hj
  refine ⟨by omega, True.intro, True.intro, True.intro, True.intro, by omega, by omega, hn, hm, hv, he, hab, q1, by omega, hab, fun j hj => dep_mono (by omega) (q2 j hj).1, ?_⟩
  rw [key a.toNat (by omega), key b.toNat (by omega)]
  exact rfl
def pCr : List DArg → Option (Value × List Prop)
  | [.row n (.ints xs), .row m (.ints ys), .v (.agg ⟨[.int .i64 a, .int .i64 b]⟩)] => some (.bool (cneV (ptsA n xs) (ptsA m ys) (a, b)), [n * 2 ≤ xs.length, m * 2 ≤ ys.length, n ≤ 20, m ≤ 20, allV (ptsA n xs) = true, evA n (ptsA m ys) = true, (0 ≤ a ∧ a < n) ∧ 0 ≤ b ∧ b < n])
  | _ => none
theorem pCr_ok {ds : List DArg} {v : Value} {C : List Prop} (h : pCr ds = some (v, C)) (hC : AllP C) : Res Try.prog 67 ds v := by
  unfold pCr at h
  split at h
  · rename_i n xs m ys a b
    obtain ⟨rfl, rfl⟩ : _ ∧ _ := by simpa using h
    obtain ⟨c1, c2, c3, c4, c5, c6, c7, _⟩ := hC
    obtain ⟨_, h2⟩ := ptsA_spec c1
    obtain ⟨_, h3⟩ := ptsA_spec c2
    exact res_pts1 (pre := []) (post := [_, _]) c1 (res_pts1 (pre := [_]) (post := [_]) c2 (res_cnr (ptsA n xs) (ptsA m ys) a b (by rw [h2]; exact c3) (by rw [h3]; exact c4) c5 (by rw [h2]; exact c6) (by rw [h2]; exact c7)))
  · cases h
end Go.Proofs.Ytnlciknmpjikgaa
namespace Go.Proofs.Ytnlciknmpjikgaa
set_option linter.all false
open Go.RowKit
def TCv0 : Tab := fun f ds => match f with
  | 67 => pCr ds
  | 65 => pAe ds
  | f => T3 f ds
theorem TCv0_ok : TabOk Try.prog TCv0 := by
  intro f ds v C h hC
  unfold TCv0 at h
  split at h
  all_goals first | with_reducible exact pCr_ok h hC | with_reducible exact pAe_ok h hC | exact T3_ok _ _ _ _ h hC
def ECv0 : Env := mkE TCv0 RPw (fun _ => noL)
theorem ECv0_ok : EnvOk Try.prog ECv0 := mkEOk TCv0_ok RPw_ok (fun _ _ _ => noL_good)
/-- Are the ends of all pairs joined? -/
def csA (ps es qs : List Pt) : Bool := qs.all (cneV ps es)
noncomputable def c_csr : Code := ((loopsOf (codeOf Try.f27))[0]?).getD .skip
def k_csr : Ex → List Nat := keeps [0, 1, 27, 28, 29] [(0, [])] [4]
def s_csr (ps es qs : List Pt) : Nat → St := fun i => ⟨(.slice (some ⟨0, 0, none⟩) ps.length ps.length :: .slice (some ⟨1, 0, none⟩) es.length es.length :: topV :: topV :: topV :: topV :: topV :: topV :: topV :: topV :: topV :: topV :: topV :: topV :: topV :: topV :: topV :: topV :: topV :: topV :: topV :: topV :: topV :: topV :: topV :: topV :: topV :: .slice (some ⟨2, 0, none⟩) qs.length qs.length :: .int .i64 qs.length :: .int .i64 i :: topV :: topV :: topV :: topV :: topV :: topV :: topV :: topV :: topV :: []), [some ⟨.view, .ints (flat ps)⟩, some ⟨.view, .ints (flat es)⟩, some ⟨.row 71 2, .ints (flat qs)⟩]⟩
def re_csr (ps es qs : List Pt) : Nat → Ex := fun i => bif csA ps es (qs.drop i) then .exit 0 else .ret
def rs_csr (ps es qs : List Pt) : Nat → St := fun i => bif csA ps es (qs.drop i) then ⟨(topV :: topV :: topV :: topV :: topV :: topV :: topV :: topV :: topV :: topV :: topV :: topV :: topV :: topV :: topV :: topV :: topV :: topV :: topV :: topV :: topV :: topV :: topV :: topV :: topV :: topV :: topV :: topV :: topV :: topV :: topV :: topV :: topV :: topV :: topV :: topV :: topV :: topV :: topV :: []), [some ⟨.view, .ints (flat ps)⟩, some ⟨.view, .ints (flat es)⟩, some ⟨.row 71 2, .ints (flat qs)⟩]⟩ else ⟨(topV :: topV :: topV :: topV :: .bool false :: topV :: topV :: topV :: topV :: topV :: topV :: topV :: topV :: topV :: topV :: topV :: topV :: topV :: topV :: topV :: topV :: topV :: topV :: topV :: topV :: topV :: topV :: topV :: topV :: topV :: topV :: topV :: topV :: topV :: topV :: topV :: topV :: topV :: topV :: []), [some ⟨.view, .ints (flat ps)⟩, some ⟨.view, .ints (flat es)⟩, some ⟨.row 71 2, .ints (flat qs)⟩]⟩
set_option maxRecDepth 100000 in
theorem tr_csr (ps es qs : List Pt) (i : Nat) : bodyL Try.prog ECv0 30 12 noL 1 c_csr k_csr 3 (s_csr ps es qs i) = brT (decide ((↑i : Int) < (↑qs.length : Int))) (.need ((0 : Int) ≤ (↑i : Int) ∧ (↑i : Int) < (↑qs.length : Int)) (.need ((0 : Nat) + (↑i : Int).toNat * (2 : Nat) + (2 : Nat) ≤ (flat qs).length) (.need (ps.length * (2 : Nat) ≤ (List.drop (0 : Nat) (flat ps)).length) (.need (es.length * (2 : Nat) ≤ (List.drop (0 : Nat) (flat es)).length) (.need (ps.length ≤ (20 : Nat)) (.need (es.length ≤ (20 : Nat)) (.need (allV (ptsA ps.length (List.drop (0 : Nat) (flat ps))) = true) (.need (evA ps.length (ptsA es.length (List.drop (0 : Nat) (flat es))) = true) (.need (((0 : Int) ≤ (flat qs).getD ((0 : Nat) + (↑i : Int).toNat * (2 : Nat)) (0 : Int) ∧ (flat qs).getD ((0 : Nat) + (↑i : Int).toNat * (2 : Nat)) (0 : Int) < (↑ps.length : Int)) ∧ (0 : Int) ≤ (flat qs).getD ((0 : Nat) + (↑i : Int).toNat * (2 : Nat) + (1 : Nat)) (0 : Int) ∧ (flat qs).getD ((0 : Nat) + (↑i : Int).toNat * (2 : Nat) + (1 : Nat)) (0 : Int) < (↑ps.length : Int)) (brT (!cneV (ptsA ps.length (List.drop 0 (flat ps))) (ptsA es.length (List.drop 0 (flat es))) ((flat qs).getD (0 + (↑i : Int).toNat * (2 : Nat)) 0, (flat qs).getD (0 + (↑i : Int).toNat * (2 : Nat) + 1) 0)) (.leaf .ret ⟨(topV :: topV :: topV :: topV :: .bool (false) :: topV :: topV :: topV :: topV :: topV :: topV :: topV :: topV :: topV :: topV :: topV :: topV :: topV :: topV :: topV :: topV :: topV :: topV :: topV :: topV :: topV :: topV :: topV :: topV :: topV :: topV :: topV :: topV :: topV :: topV :: topV :: topV :: topV :: topV :: []), [some ⟨.view, .ints (flat ps)⟩, some ⟨.view, .ints (flat es)⟩, some ⟨.row 71 2, .ints (flat qs)⟩]⟩) (.leaf .normal ⟨(.slice (some ⟨0, 0, none⟩) (ps.length) (ps.length) :: .slice (some ⟨1, 0, none⟩) (es.length) (es.length) :: topV :: topV :: topV :: topV :: topV :: topV :: topV :: topV :: topV :: topV :: topV :: topV :: topV :: topV :: topV :: topV :: topV :: topV :: topV :: topV :: topV :: topV :: topV :: topV :: topV :: .slice (some ⟨2, 0, none⟩) (qs.length) (qs.length) :: .int .i64 ((↑qs.length : Int)) :: .int .i64 (IntKind.i64.wrap ((↑i : Int) + 1)) :: topV :: topV :: topV :: topV :: topV :: topV :: topV :: topV :: topV :: []), [some ⟨.view, .ints (flat ps)⟩, some ⟨.view, .ints (flat es)⟩, some ⟨.row 71 2, .ints (flat qs)⟩]⟩))))))))))) (.leaf (.exit 0) ⟨(topV :: topV :: topV :: topV :: topV :: topV :: topV :: topV :: topV :: topV :: topV :: topV :: topV :: topV :: topV :: topV :: topV :: topV :: topV :: topV :: topV :: topV :: topV :: topV :: topV :: topV :: topV :: topV :: topV :: topV :: topV :: topV :: topV :: topV :: topV :: topV :: topV :: topV :: topV :: []), [some ⟨.view, .ints (flat ps)⟩, some ⟨.view, .ints (flat es)⟩, some ⟨.row 71 2, .ints (flat qs)⟩]⟩) := by kernel_rfl
set_option maxRecDepth 100000 in
theorem nl_csr : loopsOf c_csr = [] := by kernel_rfl
def inv_csr (ps es qs : List Pt) : Nat → Prop := fun i => i ≤ qs.length
def me_csr (ps es qs : List Pt) : Nat → Nat := fun i => qs.length - i
/-- A round of this loop. -/
def Round_csr (ps es qs : List Pt) : Prop := ∀ xx : Nat, inv_csr ps es qs xx → (bodyL Try.prog ECv0 30 12 noL 1 c_csr k_csr 3 (s_csr ps es qs xx)).ok (RoundEnd 3 (s_csr ps es qs) (inv_csr ps es qs) (me_csr ps es qs) (re_csr ps es qs) (rs_csr ps es qs) xx) (fun _ _ => False)
def e_csr (s : St) (k : Ex → St → Tree) : Option Tree := match Nat.beq s.tmps.length 39, pickL s.tmps [0, 1, 27, 28, 29], s.mem with
  | true, [.slice (some ⟨0, 0, none⟩) n _, .slice (some ⟨1, 0, none⟩) m _, .slice (some ⟨2, 0, none⟩) r _, .int .i64 r1, .int .i64 i0], [some ⟨.view, .ints xs⟩, some ⟨.view, .ints ys⟩, some ⟨.row 71 2, .ints zs⟩] => some (needs [i0 = 0, r1 = r, xs.length = n * 2, ys.length = m * 2, zs.length = r * 2, n ≤ 20, m ≤ 20, allV (ptsA n xs) = true, evA n (ptsA m ys) = true, evA n (ptsA r zs) = true, r ≤ 1000] (brT (csA (ptsA n xs) (ptsA m ys) (ptsA r zs)) (k (.exit 0) ⟨(topV :: topV :: topV :: topV :: topV :: topV :: topV :: topV :: topV :: topV :: topV :: topV :: topV :: topV :: topV :: topV :: topV :: topV :: topV :: topV :: topV :: topV :: topV :: topV :: topV :: topV :: topV :: topV :: topV :: topV :: topV :: topV :: topV :: topV :: topV :: topV :: topV :: topV :: topV :: []), [some ⟨.view, .ints xs⟩, some ⟨.view, .ints ys⟩, some ⟨.row 71 2, .ints zs⟩]⟩) (k .ret ⟨(topV :: topV :: topV :: topV :: .bool false :: topV :: topV :: topV :: topV :: topV :: topV :: topV :: topV :: topV :: topV :: topV :: topV :: topV :: topV :: topV :: topV :: topV :: topV :: topV :: topV :: topV :: topV :: topV :: topV :: topV :: topV :: topV :: topV :: topV :: topV :: topV :: topV :: topV :: topV :: []), [some ⟨.view, .ints xs⟩, some ⟨.view, .ints ys⟩, some ⟨.row 71 2, .ints zs⟩]⟩)))
  | _, _, _ => none
set_option maxRecDepth 100000 in
theorem round_csr (ps es qs : List Pt) (hn : ps.length ≤ 20) (hm : es.length ≤ 20) (hv : allV ps = true) (he : evA ps.length es = true) (hq : evA ps.length qs = true) (hr : qs.length ≤ 1000) : Round_csr ps es qs := by
  intro i h1
  have h1 : i ≤ qs.length := h1
  rw [tr_csr]
  have fe := flat_length es
  have fp := flat_length ps
  have fq := flat_length qs
  simp only [Int.toNat_natCast, Nat.zero_add, Nat.add_zero, List.drop_zero, flat_get0, flat_get1, ptsA_flat]
  refine brT_ok.2 ⟨fun hlt => ?_, fun hge => ?_⟩
  · have hlt := of_decide_eq_true hlt
    have hi : i < qs.length := by omega
    have ev : evB ps.length (qs.getD i (0, 0)) = true := List.all_eq_true.1 hq (qs.getD i (0, 0)) (by simp [hi])
    have st : csA ps es (qs.drop i) = (cneV ps es (qs.getD i (0, 0)) && csA ps es (qs.drop (i + 1))) := all_drop hi (0, 0) _
    rw [wsucc (n := qs.length) hi (by omega)]
    generalize qs.getD i (0, 0) = e at *
    simp only [evB, Bool.and_eq_true, decide_eq_true_eq] at ev
    refine ⟨by omega, by omega, by omega, by omega, hn, hm, hv, he, by omega, brT_ok.2 ⟨fun c => ?_, fun c => ?_⟩⟩
    · have c : cneV ps es e = false := by simpa using c
      rw [c, Bool.false_and] at st
      refine ⟨by simp only [re_csr, st, cond_false], [], ?_⟩
      simp only [rs_csr, st, cond_false]
      repeat' (first | exact True.intro | exact rfl | exact fun _ => rfl | refine And.intro ?_ ?_)
    · have c : cneV ps es e = true := by simpa using c
      rw [c, Bool.true_and] at st
      refine ⟨i + 1, [], ?_, ?_, by simp only [re_csr, st], by simp only [rs_csr, st], ?_⟩
      · show i + 1 ≤ qs.length; omega
      · show qs.length - (i + 1) < qs.length - i; omega
      · repeat' (first | exact True.intro | exact rfl | exact fun _ => rfl | refine And.intro ?_ ?_)
  · have hge := of_decide_eq_false hge
    have e : csA ps es (qs.drop i) = true := by rw [List.drop_of_length_le (by omega)]; rfl
    refine ⟨by simp only [re_csr, e, cond_true], [], ?_⟩
    simp only [rs_csr, e, cond_true]
    repeat' (first | exact True.intro | exact rfl | exact fun _ => rfl | refine And.intro ?_ ?_)
set_option maxRecDepth 100000 in
theorem lg_csr : LoopE Try.prog e_csr c_csr := by
  intro s k t F H hlt ht
  unfold e_csr at hlt
  split at hlt
  rotate_left
  · cases hlt
  rename_i hlen hpick hmem
  obtain ⟨tmps, mem⟩ := s
  simp only at hlen hpick hmem
  subst hmem
  obtain rfl := Option.some.inj hlt
  obtain ⟨⟨rfl, rfl, h1, h2, h3, h4, h5, h6, h7, h8, h9, _⟩, ht2⟩ := needs_ok ht
  clear ht hlt
  obtain ⟨ps, rfl, rfl⟩ := even_flat h1
  obtain ⟨es, rfl, rfl⟩ := even_flat h2
  obtain ⟨qs, rfl, rfl⟩ := even_flat h3
  rw [ptsA_flat, ptsA_flat, ptsA_flat] at ht2
  rw [ptsA_flat] at h6 h7 h8
  refine ⟨_, _, pick2k ht2, loop_run mixed ECv0_ok (s_csr ps es qs) (inv_csr ps es qs) (me_csr ps es qs) (re_csr ps es qs) (rs_csr ps es qs) k_csr (fun _ => rfl) (noLoops nl_csr) (round_csr ps es qs h4 h5 h6 h7 h8 h9) (x := 0) (Nat.zero_le _) (π := []) rfl ?_⟩
  refine ⟨rfl, rfl, ?_, wvs_spread' [0, 1, 27, 28, 29] hlen rfl ?_⟩
  · repeat' (first | exact True.intro | exact rfl | exact wv_top _ _ | exact fun _ => rfl | assumption | exact Eq.symm (by assumption) | exact vI0 rfl | refine And.intro ?_ ?_)
  · rw [hpick]
    repeat' (first | exact True.intro | exact rfl | exact wv_top _ _ | exact fun _ => rfl | assumption | exact Eq.symm (by assumption) | exact vI0 rfl | refine And.intro ?_ ?_)
theorem Lr_csr {fn : Func} (hf : Try.prog.funcs[27]? = some fn) : LoopsGood Try.prog (lt1 e_csr) 0 (codeOf fn) := by
  obtain rfl := fn_is Try.func27 hf
  exact lt1_good lg_csr
def LCs : FuncId → LT := fun f => match f with
  | 27 => lt1 e_csr
  | _ => noL
def ECs : Env := mkE TCv0 RPw LCs
theorem ECs_ok : EnvOk Try.prog ECs := mkEOk TCv0_ok RPw_ok (by
  intro f fn hf
  unfold LCs
  split
  all_goals first | with_reducible exact Lr_csr hf | exact noL_good)
set_option maxRecDepth 100000 in
theorem tr_iCs (ps es : List Pt) : bodyV Try.prog ECs 30 12 27 [.row ps.length (.ints (flat ps)), .row es.length (.ints (flat es))] = brT (decide ((↑ps.length : Int) ≤ 20)) (.need (ps.length * (2 : Nat) ≤ (List.drop (0 : Nat) (flat ps)).length) (.need (ps.length ≤ (1000000000 : Nat)) (brT (!allV (ptsA ps.length (List.drop 0 (flat ps)))) (.fin (.bool (false)) []) (brT (!(↑es.length : Int) == if IntKind.i64.wrap ((↑ps.length : Int) - 1) < 0 then 0 else IntKind.i64.wrap ((↑ps.length : Int) - 1)) (.fin (.bool (false)) []) (.need (ps.length * (2 : Nat) ≤ (List.drop (0 : Nat) (flat ps)).length) (.need (es.length * (2 : Nat) ≤ (List.drop (0 : Nat) (flat es)).length) (.need (ps.length ≤ (20 : Nat)) (.need (es.length ≤ (20 : Nat)) (brT (!evA ps.length (ptsA es.length (List.drop 0 (flat es)))) (.fin (.bool (false)) []) (.need ((0 : Int) ≤ (↑ps.length : Int) ∧ (↑ps.length : Int) ≤ (20 : Int)) (.need ((0 : Int) = (0 : Int)) (.need ((↑(prL (↑ps.length : Int).toNat).length : Int) = (↑(prL (↑ps.length : Int).toNat).length : Int)) (.need ((flat ps).length = ps.length * (2 : Nat)) (.need ((flat es).length = es.length * (2 : Nat)) (.need ((flat (prL (↑ps.length : Int).toNat)).length = (prL (↑ps.length : Int).toNat).length * (2 : Nat)) (.need (ps.length ≤ (20 : Nat)) (.need (es.length ≤ (20 : Nat)) (.need (allV (ptsA ps.length (flat ps)) = true) (.need (evA ps.length (ptsA es.length (flat es)) = true) (.need (evA ps.length (ptsA (prL (↑ps.length : Int).toNat).length (flat (prL (↑ps.length : Int).toNat))) = true) (.need ((prL (↑ps.length : Int).toNat).length ≤ (1000 : Nat)) (brT (csA (ptsA ps.length (flat ps)) (ptsA es.length (flat es)) (ptsA (prL (↑ps.length : Int).toNat).length (flat (prL (↑ps.length : Int).toNat)))) (.fin (.bool (true)) []) (.fin (.bool (false)) []))))))))))))))))))))))) (.fin (.bool (false)) []) := by kernel_rfl
/-- What CheckSpanning answers, the program's way. -/
def csI (ps es : List Pt) : Bool := okL ps && (decide (es.length = ps.length - 1) && (evA ps.length es && csA ps es (prL ps.length)))
theorem prR_memU {i : Int} {z : Pt} : ∀ {m : Nat} {k : Int}, z ∈ prR i m k ↔ z.1 = i ∧ k ≤ z.2 ∧ z.2 < k + m
  | 0, k => ⟨fun h => (by cases h), fun h => by omega⟩
  | m + 1, k => by
    rw [prR_step, List.mem_cons, prR_memU]
    constructor
    · rintro (rfl | h)
      · exact ⟨rfl, Int.le_refl _, by simp only; omega⟩
      · omega
    · rintro ⟨h1, h2, h3⟩
      by_cases e : z.2 = k
      · exact .inl (Prod.ext h1 e)
      · exact .inr ⟨h1, by omega, by omega⟩
theorem prA_memU {n : Nat} {z : Pt} : ∀ {m i : Nat}, i + m ≤ n → (z ∈ prA n m i ↔ (i : Int) ≤ z.1 ∧ z.1 < ((i + m : Nat) : Int) ∧ z.1 ≤ z.2 ∧ z.2 < n)
  | 0, i, _ => ⟨fun h => (by cases h), fun h => by omega⟩
  | m + 1, i, h => by
    rw [prA_step, List.mem_append, prR_memU, prA_memU (m := m) (i := i + 1) (by omega)]
    constructor
    · rintro (h | h) <;> omega
    · intro h
      by_cases e : z.1 = i
      · left; omega
      · right; omega
theorem prL_memU {n : Nat} {z : Pt} : z ∈ prL n ↔ 0 ≤ z.1 ∧ z.1 ≤ z.2 ∧ z.2 < n := by
  unfold prL
  rw [prA_memU (by omega)]
  omega
theorem prA_lenU (n : Nat) : ∀ m i : Nat, (prA n m i).length ≤ m * n
  | 0, _ => by simp [prA]
  | m + 1, i => by
    have := prA_lenU n m (i + 1)
    rw [prA_step, List.length_append, prR_len, Nat.add_mul]
    omega
theorem prL_evU (n : Nat) : evA n (prL n) = true := List.all_eq_true.2 fun z hz => by
  have := prL_memU.1 hz
  simp only [evB, Bool.and_eq_true, decide_eq_true_eq]
  omega
theorem prL_leU {n : Nat} (h : n ≤ 20) : (prL n).length ≤ 1000 := by
  have h1 : (prL n).length ≤ n * n := prA_lenU n n 0
  have := Nat.mul_le_mul h h
  omega
theorem len_max (n : Nat) (h : n ≤ 1000) : (if IntKind.i64.wrap ((n : Int) - 1) < 0 then 0 else IntKind.i64.wrap ((n : Int) - 1)) = ((n - 1 : Nat) : Int) := by
  rw [wr (by omega)]
  split <;> omega
set_option maxRecDepth 100000 in
theorem res_iCs (ps es : List Pt) (h : Big ps) : Res Try.prog 27 [.row ps.length (.ints (flat ps)), .row es.length (.ints (flat es))] (.bool (csI ps es)) := by
  refine bodyV_res mixed ECs_ok (m := 30) (n := 12) rfl ?_
  rw [tr_iCs]
  have fe := flat_length es
  have fp := flat_length ps
  have fq := flat_length (prL ps.length)
  unfold Big at h
  simp only [Int.toNat_natCast, List.drop_zero, ptsA_flat, fp, fe, fq]
  unfold csI okL
  refine brT_ok.2 ⟨fun c => ?_, fun c => ?_⟩
  · have c : ps.length ≤ 20 := by have := of_decide_eq_true c; omega
    rw [len_max _ (by omega), decide_eq_true c, Bool.and_true]
    refine ⟨Nat.le_refl _, h, ?_⟩
    rcases hv : allV ps with _ | _
    · exact rfl
    simp only [Bool.not_true, brT_f, Bool.true_and]
    by_cases hl : es.length = ps.length - 1
    rotate_left
    · have e : ((es.length : Int) == ((ps.length - 1 : Nat) : Int)) = false := by simp; omega
      rw [e, decide_eq_false hl]
      exact rfl
    have e : ((es.length : Int) == ((ps.length - 1 : Nat) : Int)) = true := by simp; omega
    rw [e, decide_eq_true hl]
    simp only [Bool.not_true, brT_f, Bool.true_and]
    refine ⟨Nat.le_refl _, Nat.le_refl _, c, by omega, ?_⟩
    rcases hev : evA ps.length es with _ | _
    · exact rfl
    simp only [Bool.not_true, brT_f, Bool.true_and, Tree.ok]
    refine ⟨by omega, True.intro, True.intro, True.intro, True.intro, True.intro, c, by omega, trivial, trivial, prL_evU _, prL_leU c, ?_⟩
    cases csA ps es (prL ps.length) <;> exact rfl
  · have c : ¬ ps.length ≤ 20 := by have := of_decide_eq_false c; omega
    rw [decide_eq_false c, Bool.and_false, Bool.false_and]
    exact rfl
end Go.Proofs.Ytnlciknmpjikgaa
namespace Go.Proofs.Ytnlciknmpjikgaa
set_option linter.all false
open Go.RowKit
theorem plF1_neg (xs : List Int) (q : Int) : ∀ m i : Nat, (plF1 xs q i m < 0 ↔ ∀ j, i ≤ j → j < i + m → xs.getD j 0 ≠ q)
  | 0, i => ⟨fun _ j h1 h2 => by omega, fun _ => by show (-1 : Int) < 0; decide⟩
  | m + 1, i => by
    simp only [plF1]
    split
    · rename_i h
      exact ⟨fun hh => by omega, fun hh => absurd h (hh i (Nat.le_refl _) (by omega))⟩
    · rename_i h
      rw [plF1_neg xs q m (i + 1)]
      constructor
      · intro hh j h1 h2
        by_cases e : j = i
        · rw [e]; exact h
        · exact hh j (by omega) (by omega)
      · exact fun hh j h1 h2 => hh j (by omega) (by omega)
theorem pl_mem {xs : List Int} {q : Int} : plF1 xs q 0 xs.length < 0 ↔ q ∉ xs := by
  rw [plF1_neg]
  constructor
  · intro h hm
    obtain ⟨j, hj, e⟩ := List.getElem_of_mem hm
    exact h j (Nat.zero_le _) (by omega) (by simp [hj, e])
  · intro h j _ hj e
    refine h ?_
    rw [← e]
    have : j < xs.length := by omega
    simp [List.getD_eq_getElem?_getD, this]
/-- What one edge adds to those that are reached. -/
def stA (r a b : Int) (o : List Int) : List Int := if a = r ∧ plF1 o b 0 o.length < 0 then o ++ [b] else o
def stE (ps : List Pt) (m : Int) (i : Nat) (e : Pt) (o : List Int) : List Int :=
  if m < edL ps e then o else stA (o.getD i 0) e.2 e.1 (stA (o.getD i 0) e.1 e.2 o)
/-- What all edges add. -/
def inE (ps : List Pt) (m : Int) (i : Nat) : List Pt → List Int → List Int
  | [], o => o
  | e :: t, o => inE ps m i t (stE ps m i e o)
/-- Those that are reached at last. -/
def bfE (ps es : List Pt) (m : Int) : Nat → Nat → List Int → List Int
  | 0, _, o => o
  | f + 1, i, o => if i < o.length then bfE ps es m f (i + 1) (inE ps m i es o) else o
def Goo (n : Nat) (o : List Int) : Prop := o.Nodup ∧ ∀ x ∈ o, 0 ≤ x ∧ x < n
theorem nodup_leI : ∀ {l m : List Int}, l.Nodup → (∀ x ∈ l, x ∈ m) → l.length ≤ m.length
  | [], _, _, _ => Nat.zero_le _
  | a :: t, m, hn, hs => by
    obtain ⟨h1, h2⟩ := List.nodup_cons.1 hn
    have ha := hs a (by simp)
    have := nodup_leI (l := t) (m := m.erase a) h2 fun x hx => (List.mem_erase_of_ne (fun e => h1 (by rw [← e]; exact hx))).2 (hs x (by simp [hx]))
    rw [List.length_erase_of_mem ha] at this
    have := List.length_pos_of_mem ha
    simp only [List.length_cons]
    omega
theorem goo_len {n : Nat} {o : List Int} (h : Goo n o) : o.length ≤ n := by
  have := nodup_leI (m := rgI n) h.1 fun x hx => by
    have := h.2 x hx
    unfold rgI
    rw [List.mem_map]
    exact ⟨x.toNat, by rw [List.mem_range]; omega, by omega⟩
  rw [rgI_len] at this
  exact this
theorem stA_goo {n : Nat} {r a b : Int} {o : List Int} (h : Goo n o) (hb : 0 ≤ b ∧ b < n) : Goo n (stA r a b o) := by
  unfold stA
  split
  · rename_i c
    have hm := pl_mem.1 c.2
    refine ⟨List.nodup_append.2 ⟨h.1, by simp, ?_⟩, fun x hx => ?_⟩
    · intro x hx y hy
      simp only [List.mem_singleton] at hy
      subst hy
      exact fun e => hm (by rw [← e]; exact hx)
    · rcases List.mem_append.1 hx with hx | hx
      · exact h.2 x hx
      · simp only [List.mem_singleton] at hx
        subst hx
        exact hb
  · exact h
theorem stA_len (r a b : Int) (o : List Int) : o.length ≤ (stA r a b o).length := by
  unfold stA
  split
  · simp
  · exact Nat.le_refl _
theorem stE_goo {n : Nat} {ps : List Pt} {m : Int} {i : Nat} {e : Pt} {o : List Int} (h : Goo n o) (he : evB n e = true) : Goo n (stE ps m i e o) ∧ o.length ≤ (stE ps m i e o).length := by
  simp only [evB, Bool.and_eq_true, decide_eq_true_eq] at he
  unfold stE
  split
  · exact ⟨h, Nat.le_refl _⟩
  · exact ⟨stA_goo (stA_goo h he.2) he.1, Nat.le_trans (stA_len ..) (stA_len ..)⟩
theorem inE_goo {n : Nat} {ps : List Pt} {m : Int} {i : Nat} : ∀ {es : List Pt} {o : List Int}, Goo n o → evA n es = true → Goo n (inE ps m i es o) ∧ o.length ≤ (inE ps m i es o).length
  | [], _, h, _ => ⟨h, Nat.le_refl _⟩
  | e :: t, o, h, he => by
    unfold evA at he
    simp only [List.all_cons, Bool.and_eq_true] at he
    obtain ⟨q1, q2⟩ := stE_goo (ps := ps) (m := m) (i := i) h he.1
    obtain ⟨r1, r2⟩ := inE_goo (ps := ps) (m := m) (i := i) (es := t) q1 he.2
    exact ⟨r1, Nat.le_trans q2 r2⟩
theorem inE_step {ps es : List Pt} {m : Int} {i k : Nat} {o : List Int} (h : k < es.length) : inE ps m i (es.drop k) o = inE ps m i (es.drop (k + 1)) (stE ps m i (es.getD k (0, 0)) o) := by
  rw [drop_cons h (0, 0)]
  rfl
noncomputable def c_lki : Code := ((loopsOf (codeOf Try.f61))[1]?).getD .skip
def k_lki : Ex → List Nat := keeps [0, 1, 3, 4, 11, 12, 13] [(2, [0, 1, 3, 4, 11, 12])] []
def s_lki (ps es : List Pt) (b m : Int) (i : Nat) : Nat × (List Int) → St := fun (k0, o) => ⟨(.slice (some ⟨0, 0, none⟩) ps.length ps.length :: .slice (some ⟨1, 0, none⟩) es.length es.length :: topV :: .int .i64 b :: .int .i64 m :: topV :: topV :: topV :: topV :: topV :: topV :: .slice (some ⟨7, 0, none⟩) o.length o.length :: .int .i64 i :: .int .i64 k0 :: topV :: topV :: topV :: topV :: topV :: topV :: topV :: topV :: topV :: topV :: topV :: topV :: topV :: topV :: topV :: topV :: topV :: topV :: topV :: topV :: topV :: topV :: topV :: topV :: topV :: topV :: topV :: topV :: topV :: topV :: topV :: topV :: topV :: topV :: topV :: topV :: topV :: topV :: topV :: topV :: topV :: topV :: topV :: topV :: topV :: topV :: topV :: topV :: topV :: topV :: topV :: topV :: topV :: topV :: topV :: topV :: topV :: topV :: topV :: topV :: topV :: topV :: topV :: topV :: topV :: topV :: topV :: topV :: topV :: topV :: topV :: topV :: topV :: topV :: []), [some ⟨.view, .ints (flat ps)⟩, some ⟨.view, .ints (flat es)⟩, none, none, none, some ⟨.dead, .vals []⟩, some ⟨.dead, .vals []⟩, some ⟨.row 3 1, .ints o⟩]⟩
def re_lki : Nat × (List Int) → Ex := fun _ => .exit 2
def rs_lki (ps es : List Pt) (b m : Int) (i : Nat) : Nat × (List Int) → St := fun (k0, o) => ⟨(.slice (some ⟨0, 0, none⟩) ps.length ps.length :: .slice (some ⟨1, 0, none⟩) es.length es.length :: topV :: .int .i64 b :: .int .i64 m :: topV :: topV :: topV :: topV :: topV :: topV :: .slice (some ⟨7, 0, none⟩) (inE ps m i (es.drop k0) o).length (inE ps m i (es.drop k0) o).length :: .int .i64 i :: topV :: topV :: topV :: topV :: topV :: topV :: topV :: topV :: topV :: topV :: topV :: topV :: topV :: topV :: topV :: topV :: topV :: topV :: topV :: topV :: topV :: topV :: topV :: topV :: topV :: topV :: topV :: topV :: topV :: topV :: topV :: topV :: topV :: topV :: topV :: topV :: topV :: topV :: topV :: topV :: topV :: topV :: topV :: topV :: topV :: topV :: topV :: topV :: topV :: topV :: topV :: topV :: topV :: topV :: topV :: topV :: topV :: topV :: topV :: topV :: topV :: topV :: topV :: topV :: topV :: topV :: topV :: topV :: topV :: topV :: topV :: topV :: topV :: topV :: topV :: []), [some ⟨.view, .ints (flat ps)⟩, some ⟨.view, .ints (flat es)⟩, none, none, none, some ⟨.dead, .vals []⟩, some ⟨.dead, .vals []⟩, some ⟨.row 3 1, .ints (inE ps m i (es.drop k0) o)⟩]⟩
set_option maxRecDepth 100000 in
theorem tr_lki (ps es : List Pt) (b m : Int) (i : Nat) (k0 : Nat) (o : List Int) : bodyL Try.prog ECn 30 12 noL 2 c_lki k_lki 30 (s_lki ps es b m i (k0, o)) = brT (decide ((↑k0 : Int) < (↑es.length : Int))) (.need ((0 : Int) ≤ (↑k0 : Int) ∧ (↑k0 : Int) < (↑es.length : Int)) (.need ((0 : Nat) + (↑k0 : Int).toNat * (2 : Nat) + (2 : Nat) ≤ (flat es).length) (.need (ptB ((flat ps).getD ((0 : Nat) + ((flat es).getD ((0 : Nat) + (↑k0 : Int).toNat * (2 : Nat)) (0 : Int)).toNat * (2 : Nat)) (0 : Int)) ((flat ps).getD ((0 : Nat) + ((flat es).getD ((0 : Nat) + (↑k0 : Int).toNat * (2 : Nat)) (0 : Int)).toNat * (2 : Nat) + (1 : Nat)) (0 : Int)) = true) (.need (ptB ((flat ps).getD ((0 : Nat) + ((flat es).getD ((0 : Nat) + (↑k0 : Int).toNat * (2 : Nat) + (1 : Nat)) (0 : Int)).toNat * (2 : Nat)) (0 : Int)) ((flat ps).getD ((0 : Nat) + ((flat es).getD ((0 : Nat) + (↑k0 : Int).toNat * (2 : Nat) + (1 : Nat)) (0 : Int)).toNat * (2 : Nat) + (1 : Nat)) (0 : Int)) = true) (.need ((0 : Int) ≤ (flat es).getD ((0 : Nat) + (↑k0 : Int).toNat * (2 : Nat)) (0 : Int) ∧ (flat es).getD ((0 : Nat) + (↑k0 : Int).toNat * (2 : Nat)) (0 : Int) < (↑ps.length : Int)) (.need ((0 : Nat) + ((flat es).getD ((0 : Nat) + (↑k0 : Int).toNat * (2 : Nat)) (0 : Int)).toNat * (2 : Nat) + (2 : Nat) ≤ (flat ps).length) (.need ((0 : Int) ≤ (flat es).getD ((0 : Nat) + (↑k0 : Int).toNat * (2 : Nat) + (1 : Nat)) (0 : Int) ∧ (flat es).getD ((0 : Nat) + (↑k0 : Int).toNat * (2 : Nat) + (1 : Nat)) (0 : Int) < (↑ps.length : Int)) (.need ((0 : Nat) + ((flat es).getD ((0 : Nat) + (↑k0 : Int).toNat * (2 : Nat) + (1 : Nat)) (0 : Int)).toNat * (2 : Nat) + (2 : Nat) ≤ (flat ps).length) (brT (decide (m < mhP ((flat ps).getD (0 + ((flat es).getD (0 + (↑k0 : Int).toNat * (2 : Nat)) 0).toNat * (2 : Nat)) 0, (flat ps).getD (0 + ((flat es).getD (0 + (↑k0 : Int).toNat * (2 : Nat)) 0).toNat * (2 : Nat) + 1) 0) ((flat ps).getD (0 + ((flat es).getD (0 + (↑k0 : Int).toNat * (2 : Nat) + 1) 0).toNat * (2 : Nat)) 0, (flat ps).getD (0 + ((flat es).getD (0 + (↑k0 : Int).toNat * (2 : Nat) + 1) 0).toNat * (2 : Nat) + 1) 0))) (.leaf .normal ⟨(.slice (some ⟨0, 0, none⟩) (ps.length) (ps.length) :: .slice (some ⟨1, 0, none⟩) (es.length) (es.length) :: topV :: .int .i64 (b) :: .int .i64 (m) :: topV :: topV :: topV :: topV :: topV :: topV :: .slice (some ⟨7, 0, none⟩) (o.length) (o.length) :: .int .i64 ((↑i : Int)) :: .int .i64 (IntKind.i64.wrap ((↑k0 : Int) + 1)) :: topV :: topV :: topV :: topV :: topV :: topV :: topV :: topV :: topV :: topV :: topV :: topV :: topV :: topV :: topV :: topV :: topV :: topV :: topV :: topV :: topV :: topV :: topV :: topV :: topV :: topV :: topV :: topV :: topV :: topV :: topV :: topV :: topV :: topV :: topV :: topV :: topV :: topV :: topV :: topV :: topV :: topV :: topV :: topV :: topV :: topV :: topV :: topV :: topV :: topV :: topV :: topV :: topV :: topV :: topV :: topV :: topV :: topV :: topV :: topV :: topV :: topV :: topV :: topV :: topV :: topV :: topV :: topV :: topV :: topV :: topV :: topV :: topV :: topV :: []), [some ⟨.view, .ints (flat ps)⟩, some ⟨.view, .ints (flat es)⟩, none, none, none, some deadB, some deadB, some ⟨.row 3 1, .ints (o)⟩, some ⟨.box, .vals [.int .i64 ((flat es).getD (0 + (↑k0 : Int).toNat * 2) 0), .int .i64 ((flat es).getD (0 + (↑k0 : Int).toNat * 2 + 1) 0)]⟩, none]⟩) (brT ((flat es).getD (0 + (↑k0 : Int).toNat * 2) 0 == o.getD (0 + (↑i : Int).toNat * 1) 0) (.need (o.length ≤ (List.drop (0 : Nat) o).length) (.need (o.length ≤ (1000000000 : Nat)) (.need ((0 : Int) ≤ (↑i : Int) ∧ (↑i : Int) < (↑o.length : Int)) (.need ((0 : Nat) + (↑i : Int).toNat * (1 : Nat) < o.length) (brT (decide (plF1 (List.drop 0 o) ((flat es).getD (0 + (↑k0 : Int).toNat * 2 + 1) 0) 0 o.length < 0)) (.need ((o.length + (1 : Nat)) * (8 : Nat) ≤ (140737488355328 : Nat) ∧ o.length + (1 : Nat) ≤ (2000000 : Nat)) (.need ((0 : Nat) + o.length * (1 : Nat) ≤ o.length) (brT ((flat es).getD (0 + (↑k0 : Int).toNat * 2 + 1) 0 == (List.take (o.length * 1) (List.drop 0 o) ++ [(flat es).getD (0 + (↑k0 : Int).toNat * 2 + 1) 0]).getD (0 + (↑i : Int).toNat * 1) 0) (.need (o.length + (1 : Nat) ≤ (List.drop (0 : Nat) (List.take (o.length * (1 : Nat)) (List.drop (0 : Nat) o) ++ [(flat es).getD ((0 : Nat) + (↑k0 : Int).toNat * (2 : Nat) + (1 : Nat)) (0 : Int)])).length) (.need (o.length + (1 : Nat) ≤ (1000000000 : Nat)) (.need ((0 : Int) ≤ (↑i : Int) ∧ (↑i : Int) < (↑(o.length + (1 : Nat)) : Int)) (.need ((0 : Nat) + (↑i : Int).toNat * (1 : Nat) < (List.take (o.length * (1 : Nat)) (List.drop (0 : Nat) o) ++ [(flat es).getD ((0 : Nat) + (↑k0 : Int).toNat * (2 : Nat) + (1 : Nat)) (0 : Int)]).length) (brT (decide (plF1 (List.drop 0 (List.take (o.length * 1) (List.drop 0 o) ++ [(flat es).getD (0 + (↑k0 : Int).toNat * 2 + 1) 0])) ((flat es).getD (0 + (↑k0 : Int).toNat * 2) 0) 0 (o.length + 1) < 0)) (.need ((o.length + (1 : Nat) + (1 : Nat)) * (8 : Nat) ≤ (140737488355328 : Nat) ∧ o.length + (1 : Nat) + (1 : Nat) ≤ (2000000 : Nat)) (.need ((0 : Nat) + (o.length + (1 : Nat)) * (1 : Nat) ≤ (List.take (o.length * (1 : Nat)) (List.drop (0 : Nat) o) ++ [(flat es).getD ((0 : Nat) + (↑k0 : Int).toNat * (2 : Nat) + (1 : Nat)) (0 : Int)]).length) (.leaf .normal ⟨(.slice (some ⟨0, 0, none⟩) (ps.length) (ps.length) :: .slice (some ⟨1, 0, none⟩) (es.length) (es.length) :: topV :: .int .i64 (b) :: .int .i64 (m) :: topV :: topV :: topV :: topV :: topV :: topV :: .slice (some ⟨15, 0, none⟩) (o.length + 1 + 1) (o.length + 1 + 1) :: .int .i64 ((↑i : Int)) :: .int .i64 (IntKind.i64.wrap ((↑k0 : Int) + 1)) :: topV :: topV :: topV :: topV :: topV :: topV :: topV :: topV :: topV :: topV :: topV :: topV :: topV :: topV :: topV :: topV :: topV :: topV :: topV :: topV :: topV :: topV :: topV :: topV :: topV :: topV :: topV :: topV :: topV :: topV :: topV :: topV :: topV :: topV :: topV :: topV :: topV :: topV :: topV :: topV :: topV :: topV :: topV :: topV :: topV :: topV :: topV :: topV :: topV :: topV :: topV :: topV :: topV :: topV :: topV :: topV :: topV :: topV :: topV :: topV :: topV :: topV :: topV :: topV :: topV :: topV :: topV :: topV :: topV :: topV :: topV :: topV :: topV :: topV :: []), [some ⟨.view, .ints (flat ps)⟩, some ⟨.view, .ints (flat es)⟩, none, none, none, some deadB, some deadB, some deadB, some ⟨.box, .vals [.int .i64 ((flat es).getD (0 + (↑k0 : Int).toNat * 2) 0), .int .i64 ((flat es).getD (0 + (↑k0 : Int).toNat * 2 + 1) 0)]⟩, none, none, some ⟨.row 3 1, .vals [.int .i64 ((flat es).getD (0 + (↑k0 : Int).toNat * 2 + 1) 0)]⟩, some deadB, none, some ⟨.row 3 1, .vals [.int .i64 ((flat es).getD (0 + (↑k0 : Int).toNat * 2) 0)]⟩, some ⟨.row 3 1, .ints (List.take ((o.length + 1) * 1) (List.drop 0 (List.take (o.length * 1) (List.drop 0 o) ++ [(flat es).getD (0 + (↑k0 : Int).toNat * 2 + 1) 0])) ++ [(flat es).getD (0 + (↑k0 : Int).toNat * 2) 0])⟩]⟩))) (.leaf .normal ⟨(.slice (some ⟨0, 0, none⟩) (ps.length) (ps.length) :: .slice (some ⟨1, 0, none⟩) (es.length) (es.length) :: topV :: .int .i64 (b) :: .int .i64 (m) :: topV :: topV :: topV :: topV :: topV :: topV :: .slice (some ⟨12, 0, none⟩) (o.length + 1) (o.length + 1) :: .int .i64 ((↑i : Int)) :: .int .i64 (IntKind.i64.wrap ((↑k0 : Int) + 1)) :: topV :: topV :: topV :: topV :: topV :: topV :: topV :: topV :: topV :: topV :: topV :: topV :: topV :: topV :: topV :: topV :: topV :: topV :: topV :: topV :: topV :: topV :: topV :: topV :: topV :: topV :: topV :: topV :: topV :: topV :: topV :: topV :: topV :: topV :: topV :: topV :: topV :: topV :: topV :: topV :: topV :: topV :: topV :: topV :: topV :: topV :: topV :: topV :: topV :: topV :: topV :: topV :: topV :: topV :: topV :: topV :: topV :: topV :: topV :: topV :: topV :: topV :: topV :: topV :: topV :: topV :: topV :: topV :: topV :: topV :: topV :: topV :: topV :: topV :: []), [some ⟨.view, .ints (flat ps)⟩, some ⟨.view, .ints (flat es)⟩, none, none, none, some deadB, some deadB, some deadB, some ⟨.box, .vals [.int .i64 ((flat es).getD (0 + (↑k0 : Int).toNat * 2) 0), .int .i64 ((flat es).getD (0 + (↑k0 : Int).toNat * 2 + 1) 0)]⟩, none, none, some ⟨.row 3 1, .vals [.int .i64 ((flat es).getD (0 + (↑k0 : Int).toNat * 2 + 1) 0)]⟩, some ⟨.row 3 1, .ints (List.take (o.length * 1) (List.drop 0 o) ++ [(flat es).getD (0 + (↑k0 : Int).toNat * 2 + 1) 0])⟩, none]⟩)))))) (.need ((0 : Int) ≤ (↑i : Int) ∧ (↑i : Int) < (↑(o.length + (1 : Nat)) : Int)) (.need ((0 : Nat) + (↑i : Int).toNat * (1 : Nat) < (List.take (o.length * (1 : Nat)) (List.drop (0 : Nat) o) ++ [(flat es).getD ((0 : Nat) + (↑k0 : Int).toNat * (2 : Nat) + (1 : Nat)) (0 : Int)]).length) (.leaf .normal ⟨(.slice (some ⟨0, 0, none⟩) (ps.length) (ps.length) :: .slice (some ⟨1, 0, none⟩) (es.length) (es.length) :: topV :: .int .i64 (b) :: .int .i64 (m) :: topV :: topV :: topV :: topV :: topV :: topV :: .slice (some ⟨12, 0, none⟩) (o.length + 1) (o.length + 1) :: .int .i64 ((↑i : Int)) :: .int .i64 (IntKind.i64.wrap ((↑k0 : Int) + 1)) :: topV :: topV :: topV :: topV :: topV :: topV :: topV :: topV :: topV :: topV :: topV :: topV :: topV :: topV :: topV :: topV :: topV :: topV :: topV :: topV :: topV :: topV :: topV :: topV :: topV :: topV :: topV :: topV :: topV :: topV :: topV :: topV :: topV :: topV :: topV :: topV :: topV :: topV :: topV :: topV :: topV :: topV :: topV :: topV :: topV :: topV :: topV :: topV :: topV :: topV :: topV :: topV :: topV :: topV :: topV :: topV :: topV :: topV :: topV :: topV :: topV :: topV :: topV :: topV :: topV :: topV :: topV :: topV :: topV :: topV :: topV :: topV :: topV :: topV :: []), [some ⟨.view, .ints (flat ps)⟩, some ⟨.view, .ints (flat es)⟩, none, none, none, some deadB, some deadB, some deadB, some ⟨.box, .vals [.int .i64 ((flat es).getD (0 + (↑k0 : Int).toNat * 2) 0), .int .i64 ((flat es).getD (0 + (↑k0 : Int).toNat * 2 + 1) 0)]⟩, none, none, some ⟨.row 3 1, .vals [.int .i64 ((flat es).getD (0 + (↑k0 : Int).toNat * 2 + 1) 0)]⟩, some ⟨.row 3 1, .ints (List.take (o.length * 1) (List.drop 0 o) ++ [(flat es).getD (0 + (↑k0 : Int).toNat * 2 + 1) 0])⟩, none]⟩)))))) (brT ((flat es).getD (0 + (↑k0 : Int).toNat * 2 + 1) 0 == o.getD (0 + (↑i : Int).toNat * 1) 0) (.need (o.length ≤ (List.drop (0 : Nat) o).length) (.need (o.length ≤ (1000000000 : Nat)) (.need ((0 : Int) ≤ (↑i : Int) ∧ (↑i : Int) < (↑o.length : Int)) (.need ((0 : Nat) + (↑i : Int).toNat * (1 : Nat) < o.length) (brT (decide (plF1 (List.drop 0 o) ((flat es).getD (0 + (↑k0 : Int).toNat * 2) 0) 0 o.length < 0)) (.need ((o.length + (1 : Nat)) * (8 : Nat) ≤ (140737488355328 : Nat) ∧ o.length + (1 : Nat) ≤ (2000000 : Nat)) (.need ((0 : Nat) + o.length * (1 : Nat) ≤ o.length) (.leaf .normal ⟨(.slice (some ⟨0, 0, none⟩) (ps.length) (ps.length) :: .slice (some ⟨1, 0, none⟩) (es.length) (es.length) :: topV :: .int .i64 (b) :: .int .i64 (m) :: topV :: topV :: topV :: topV :: topV :: topV :: .slice (some ⟨13, 0, none⟩) (o.length + 1) (o.length + 1) :: .int .i64 ((↑i : Int)) :: .int .i64 (IntKind.i64.wrap ((↑k0 : Int) + 1)) :: topV :: topV :: topV :: topV :: topV :: topV :: topV :: topV :: topV :: topV :: topV :: topV :: topV :: topV :: topV :: topV :: topV :: topV :: topV :: topV :: topV :: topV :: topV :: topV :: topV :: topV :: topV :: topV :: topV :: topV :: topV :: topV :: topV :: topV :: topV :: topV :: topV :: topV :: topV :: topV :: topV :: topV :: topV :: topV :: topV :: topV :: topV :: topV :: topV :: topV :: topV :: topV :: topV :: topV :: topV :: topV :: topV :: topV :: topV :: topV :: topV :: topV :: topV :: topV :: topV :: topV :: topV :: topV :: topV :: topV :: topV :: topV :: topV :: topV :: []), [some ⟨.view, .ints (flat ps)⟩, some ⟨.view, .ints (flat es)⟩, none, none, none, some deadB, some deadB, some deadB, some ⟨.box, .vals [.int .i64 ((flat es).getD (0 + (↑k0 : Int).toNat * 2) 0), .int .i64 ((flat es).getD (0 + (↑k0 : Int).toNat * 2 + 1) 0)]⟩, none, none, none, some ⟨.row 3 1, .vals [.int .i64 ((flat es).getD (0 + (↑k0 : Int).toNat * 2) 0)]⟩, some ⟨.row 3 1, .ints (List.take (o.length * 1) (List.drop 0 o) ++ [(flat es).getD (0 + (↑k0 : Int).toNat * 2) 0])⟩]⟩))) (.leaf .normal ⟨(.slice (some ⟨0, 0, none⟩) (ps.length) (ps.length) :: .slice (some ⟨1, 0, none⟩) (es.length) (es.length) :: topV :: .int .i64 (b) :: .int .i64 (m) :: topV :: topV :: topV :: topV :: topV :: topV :: .slice (some ⟨7, 0, none⟩) (o.length) (o.length) :: .int .i64 ((↑i : Int)) :: .int .i64 (IntKind.i64.wrap ((↑k0 : Int) + 1)) :: topV :: topV :: topV :: topV :: topV :: topV :: topV :: topV :: topV :: topV :: topV :: topV :: topV :: topV :: topV :: topV :: topV :: topV :: topV :: topV :: topV :: topV :: topV :: topV :: topV :: topV :: topV :: topV :: topV :: topV :: topV :: topV :: topV :: topV :: topV :: topV :: topV :: topV :: topV :: topV :: topV :: topV :: topV :: topV :: topV :: topV :: topV :: topV :: topV :: topV :: topV :: topV :: topV :: topV :: topV :: topV :: topV :: topV :: topV :: topV :: topV :: topV :: topV :: topV :: topV :: topV :: topV :: topV :: topV :: topV :: topV :: topV :: topV :: topV :: []), [some ⟨.view, .ints (flat ps)⟩, some ⟨.view, .ints (flat es)⟩, none, none, none, some deadB, some deadB, some ⟨.row 3 1, .ints (o)⟩, some ⟨.box, .vals [.int .i64 ((flat es).getD (0 + (↑k0 : Int).toNat * 2) 0), .int .i64 ((flat es).getD (0 + (↑k0 : Int).toNat * 2 + 1) 0)]⟩, none, none, none]⟩)))))) (.need ((0 : Int) ≤ (↑i : Int) ∧ (↑i : Int) < (↑o.length : Int)) (.need ((0 : Nat) + (↑i : Int).toNat * (1 : Nat) < o.length) (.leaf .normal ⟨(.slice (some ⟨0, 0, none⟩) (ps.length) (ps.length) :: .slice (some ⟨1, 0, none⟩) (es.length) (es.length) :: topV :: .int .i64 (b) :: .int .i64 (m) :: topV :: topV :: topV :: topV :: topV :: topV :: .slice (some ⟨7, 0, none⟩) (o.length) (o.length) :: .int .i64 ((↑i : Int)) :: .int .i64 (IntKind.i64.wrap ((↑k0 : Int) + 1)) :: topV :: topV :: topV :: topV :: topV :: topV :: topV :: topV :: topV :: topV :: topV :: topV :: topV :: topV :: topV :: topV :: topV :: topV :: topV :: topV :: topV :: topV :: topV :: topV :: topV :: topV :: topV :: topV :: topV :: topV :: topV :: topV :: topV :: topV :: topV :: topV :: topV :: topV :: topV :: topV :: topV :: topV :: topV :: topV :: topV :: topV :: topV :: topV :: topV :: topV :: topV :: topV :: topV :: topV :: topV :: topV :: topV :: topV :: topV :: topV :: topV :: topV :: topV :: topV :: topV :: topV :: topV :: topV :: topV :: topV :: topV :: topV :: topV :: topV :: []), [some ⟨.view, .ints (flat ps)⟩, some ⟨.view, .ints (flat es)⟩, none, none, none, some deadB, some deadB, some ⟨.row 3 1, .ints (o)⟩, some ⟨.box, .vals [.int .i64 ((flat es).getD (0 + (↑k0 : Int).toNat * 2) 0), .int .i64 ((flat es).getD (0 + (↑k0 : Int).toNat * 2 + 1) 0)]⟩, none, none, none]⟩))))))))) (.need ((0 : Int) ≤ (↑i : Int) ∧ (↑i : Int) < (↑o.length : Int)) (.need ((0 : Nat) + (↑i : Int).toNat * (1 : Nat) < o.length) (brT ((flat es).getD (0 + (↑k0 : Int).toNat * 2 + 1) 0 == o.getD (0 + (↑i : Int).toNat * 1) 0) (.need (o.length ≤ (List.drop (0 : Nat) o).length) (.need (o.length ≤ (1000000000 : Nat)) (.need ((0 : Int) ≤ (↑i : Int) ∧ (↑i : Int) < (↑o.length : Int)) (.need ((0 : Nat) + (↑i : Int).toNat * (1 : Nat) < o.length) (brT (decide (plF1 (List.drop 0 o) ((flat es).getD (0 + (↑k0 : Int).toNat * 2) 0) 0 o.length < 0)) (.need ((o.length + (1 : Nat)) * (8 : Nat) ≤ (140737488355328 : Nat) ∧ o.length + (1 : Nat) ≤ (2000000 : Nat)) (.need ((0 : Nat) + o.length * (1 : Nat) ≤ o.length) (.leaf .normal ⟨(.slice (some ⟨0, 0, none⟩) (ps.length) (ps.length) :: .slice (some ⟨1, 0, none⟩) (es.length) (es.length) :: topV :: .int .i64 (b) :: .int .i64 (m) :: topV :: topV :: topV :: topV :: topV :: topV :: .slice (some ⟨13, 0, none⟩) (o.length + 1) (o.length + 1) :: .int .i64 ((↑i : Int)) :: .int .i64 (IntKind.i64.wrap ((↑k0 : Int) + 1)) :: topV :: topV :: topV :: topV :: topV :: topV :: topV :: topV :: topV :: topV :: topV :: topV :: topV :: topV :: topV :: topV :: topV :: topV :: topV :: topV :: topV :: topV :: topV :: topV :: topV :: topV :: topV :: topV :: topV :: topV :: topV :: topV :: topV :: topV :: topV :: topV :: topV :: topV :: topV :: topV :: topV :: topV :: topV :: topV :: topV :: topV :: topV :: topV :: topV :: topV :: topV :: topV :: topV :: topV :: topV :: topV :: topV :: topV :: topV :: topV :: topV :: topV :: topV :: topV :: topV :: topV :: topV :: topV :: topV :: topV :: topV :: topV :: topV :: topV :: []), [some ⟨.view, .ints (flat ps)⟩, some ⟨.view, .ints (flat es)⟩, none, none, none, some deadB, some deadB, some deadB, some ⟨.box, .vals [.int .i64 ((flat es).getD (0 + (↑k0 : Int).toNat * 2) 0), .int .i64 ((flat es).getD (0 + (↑k0 : Int).toNat * 2 + 1) 0)]⟩, none, none, none, some ⟨.row 3 1, .vals [.int .i64 ((flat es).getD (0 + (↑k0 : Int).toNat * 2) 0)]⟩, some ⟨.row 3 1, .ints (List.take (o.length * 1) (List.drop 0 o) ++ [(flat es).getD (0 + (↑k0 : Int).toNat * 2) 0])⟩]⟩))) (.leaf .normal ⟨(.slice (some ⟨0, 0, none⟩) (ps.length) (ps.length) :: .slice (some ⟨1, 0, none⟩) (es.length) (es.length) :: topV :: .int .i64 (b) :: .int .i64 (m) :: topV :: topV :: topV :: topV :: topV :: topV :: .slice (some ⟨7, 0, none⟩) (o.length) (o.length) :: .int .i64 ((↑i : Int)) :: .int .i64 (IntKind.i64.wrap ((↑k0 : Int) + 1)) :: topV :: topV :: topV :: topV :: topV :: topV :: topV :: topV :: topV :: topV :: topV :: topV :: topV :: topV :: topV :: topV :: topV :: topV :: topV :: topV :: topV :: topV :: topV :: topV :: topV :: topV :: topV :: topV :: topV :: topV :: topV :: topV :: topV :: topV :: topV :: topV :: topV :: topV :: topV :: topV :: topV :: topV :: topV :: topV :: topV :: topV :: topV :: topV :: topV :: topV :: topV :: topV :: topV :: topV :: topV :: topV :: topV :: topV :: topV :: topV :: topV :: topV :: topV :: topV :: topV :: topV :: topV :: topV :: topV :: topV :: topV :: topV :: topV :: topV :: []), [some ⟨.view, .ints (flat ps)⟩, some ⟨.view, .ints (flat es)⟩, none, none, none, some deadB, some deadB, some ⟨.row 3 1, .ints (o)⟩, some ⟨.box, .vals [.int .i64 ((flat es).getD (0 + (↑k0 : Int).toNat * 2) 0), .int .i64 ((flat es).getD (0 + (↑k0 : Int).toNat * 2 + 1) 0)]⟩, none, none, none]⟩)))))) (.need ((0 : Int) ≤ (↑i : Int) ∧ (↑i : Int) < (↑o.length : Int)) (.need ((0 : Nat) + (↑i : Int).toNat * (1 : Nat) < o.length) (.leaf .normal ⟨(.slice (some ⟨0, 0, none⟩) (ps.length) (ps.length) :: .slice (some ⟨1, 0, none⟩) (es.length) (es.length) :: topV :: .int .i64 (b) :: .int .i64 (m) :: topV :: topV :: topV :: topV :: topV :: topV :: .slice (some ⟨7, 0, none⟩) (o.length) (o.length) :: .int .i64 ((↑i : Int)) :: .int .i64 (IntKind.i64.wrap ((↑k0 : Int) + 1)) :: topV :: topV :: topV :: topV :: topV :: topV :: topV :: topV :: topV :: topV :: topV :: topV :: topV :: topV :: topV :: topV :: topV :: topV :: topV :: topV :: topV :: topV :: topV :: topV :: topV :: topV :: topV :: topV :: topV :: topV :: topV :: topV :: topV :: topV :: topV :: topV :: topV :: topV :: topV :: topV :: topV :: topV :: topV :: topV :: topV :: topV :: topV :: topV :: topV :: topV :: topV :: topV :: topV :: topV :: topV :: topV :: topV :: topV :: topV :: topV :: topV :: topV :: topV :: topV :: topV :: topV :: topV :: topV :: topV :: topV :: topV :: topV :: topV :: topV :: []), [some ⟨.view, .ints (flat ps)⟩, some ⟨.view, .ints (flat es)⟩, none, none, none, some deadB, some deadB, some ⟨.row 3 1, .ints (o)⟩, some ⟨.box, .vals [.int .i64 ((flat es).getD (0 + (↑k0 : Int).toNat * 2) 0), .int .i64 ((flat es).getD (0 + (↑k0 : Int).toNat * 2 + 1) 0)]⟩, none, none, none]⟩)))))))))))))))) (.leaf (.exit 2) ⟨(.slice (some ⟨0, 0, none⟩) (ps.length) (ps.length) :: .slice (some ⟨1, 0, none⟩) (es.length) (es.length) :: topV :: .int .i64 (b) :: .int .i64 (m) :: topV :: topV :: topV :: topV :: topV :: topV :: .slice (some ⟨7, 0, none⟩) (o.length) (o.length) :: .int .i64 ((↑i : Int)) :: topV :: topV :: topV :: topV :: topV :: topV :: topV :: topV :: topV :: topV :: topV :: topV :: topV :: topV :: topV :: topV :: topV :: topV :: topV :: topV :: topV :: topV :: topV :: topV :: topV :: topV :: topV :: topV :: topV :: topV :: topV :: topV :: topV :: topV :: topV :: topV :: topV :: topV :: topV :: topV :: topV :: topV :: topV :: topV :: topV :: topV :: topV :: topV :: topV :: topV :: topV :: topV :: topV :: topV :: topV :: topV :: topV :: topV :: topV :: topV :: topV :: topV :: topV :: topV :: topV :: topV :: topV :: topV :: topV :: topV :: topV :: topV :: topV :: topV :: topV :: []), [some ⟨.view, .ints (flat ps)⟩, some ⟨.view, .ints (flat es)⟩, none, none, none, some deadB, some deadB, some ⟨.row 3 1, .ints (o)⟩]⟩) := by kernel_rfl
set_option maxRecDepth 100000 in
theorem nl_lki : loopsOf c_lki = [] := by kernel_rfl
def inv_lki (ps es : List Pt) (b m : Int) (i : Nat) : Nat × (List Int) → Prop := fun (k0, o) => k0 ≤ es.length ∧ (Goo ps.length o ∧ i < o.length)
def me_lki (ps es : List Pt) (b m : Int) (i : Nat) : Nat × (List Int) → Nat := fun (k0, o) => es.length - k0
/-- A round of this loop. -/
def Round_lki (ps es : List Pt) (b m : Int) (i : Nat) : Prop := ∀ xx : Nat × (List Int), inv_lki ps es b m i xx → (bodyL Try.prog ECn 30 12 noL 2 c_lki k_lki 30 (s_lki ps es b m i xx)).ok (RoundEnd 7 (s_lki ps es b m i) (inv_lki ps es b m i) (me_lki ps es b m i) re_lki (rs_lki ps es b m i) xx) (fun _ _ => False)
def e_lki (s : St) (k : Ex → St → Tree) : Option Tree := match Nat.beq s.tmps.length 88, pickL s.tmps [0, 1, 3, 4, 11, 12, 13], s.mem with
  | true, [.slice (some ⟨0, 0, none⟩) n _, .slice (some ⟨1, 0, none⟩) r _, .int .i64 b, .int .i64 m, .slice (some ⟨6, 0, none⟩) z _, .int .i64 i0, .int .i64 kk], [some ⟨.view, .ints xs⟩, some ⟨.view, .ints ys⟩, none, none, none, some ⟨.dead, .vals []⟩, some ⟨.row 3 1, .ints os⟩] => some (needs [kk = 0, xs.length = n * 2, ys.length = r * 2, os.length = z, n ≤ 20, r ≤ 20, allV (ptsA n xs) = true, evA n (ptsA r ys) = true, Goo n os, 0 ≤ i0 ∧ i0 < z] (k (.exit 2) ⟨(.slice (some ⟨0, 0, none⟩) n n :: .slice (some ⟨1, 0, none⟩) r r :: topV :: .int .i64 b :: .int .i64 m :: topV :: topV :: topV :: topV :: topV :: topV :: .slice (some ⟨7, 0, none⟩) (inE (ptsA n xs) m i0.toNat (ptsA r ys) os).length (inE (ptsA n xs) m i0.toNat (ptsA r ys) os).length :: .int .i64 i0 :: topV :: topV :: topV :: topV :: topV :: topV :: topV :: topV :: topV :: topV :: topV :: topV :: topV :: topV :: topV :: topV :: topV :: topV :: topV :: topV :: topV :: topV :: topV :: topV :: topV :: topV :: topV :: topV :: topV :: topV :: topV :: topV :: topV :: topV :: topV :: topV :: topV :: topV :: topV :: topV :: topV :: topV :: topV :: topV :: topV :: topV :: topV :: topV :: topV :: topV :: topV :: topV :: topV :: topV :: topV :: topV :: topV :: topV :: topV :: topV :: topV :: topV :: topV :: topV :: topV :: topV :: topV :: topV :: topV :: topV :: topV :: topV :: topV :: topV :: topV :: []), [some ⟨.view, .ints xs⟩, some ⟨.view, .ints ys⟩, none, none, none, some ⟨.dead, .vals []⟩, some ⟨.dead, .vals []⟩, some ⟨.row 3 1, .ints (inE (ptsA n xs) m i0.toNat (ptsA r ys) os)⟩]⟩))
  | _, _, _ => none
set_option maxRecDepth 100000 in
theorem round_lki (ps es : List Pt) (b m : Int) (i : Nat) (hn : ps.length ≤ 20) (hr : es.length ≤ 20) (hv : allV ps = true) (he : evA ps.length es = true) : Round_lki ps es b m i := by
  rintro ⟨k0, o⟩ ⟨h1, hg, hi⟩
  rw [tr_lki]
  have fe := flat_length es
  have fp := flat_length ps
  have ol := goo_len hg
  have P : ∀ k, k < ps.length → ptB (ps.getD k (0, 0)).1 (ps.getD k (0, 0)).2 = true := fun k hk => List.all_eq_true.1 hv (ps.getD k (0, 0)) (by simp [hk])
  simp only [Int.toNat_natCast, Nat.zero_add, Nat.add_zero, Nat.mul_one, List.drop_zero, flat_get0, flat_get1, List.take_length]
  refine brT_ok.2 ⟨fun hlt => ?_, fun hge => ?_⟩
  · have hlt := of_decide_eq_true hlt
    have hk : k0 < es.length := by omega
    have st := inE_step (ps := ps) (m := m) (i := i) (o := o) hk
    have ev : evB ps.length (es.getD k0 (0, 0)) = true := List.all_eq_true.1 he (es.getD k0 (0, 0)) (by simp [hk])
    rw [wsucc (n := es.length) hk (by omega)]
    generalize es.getD k0 (0, 0) = e at *
    have er := ev
    simp only [evB, Bool.and_eq_true, decide_eq_true_eq] at er
    refine ⟨by omega, by omega, P _ (by omega), P _ (by omega), by omega, by omega, by omega, by omega, brT_ok.2 ⟨fun c => ?_, fun c => ?_⟩⟩
    · have c : m < edL ps e := of_decide_eq_true c
      have SL : stE ps m i e o = o := by unfold stE; rw [if_pos c]
      have G0 := stE_goo (ps := ps) (m := m) (i := i) hg ev
      rw [SL] at G0 st
      refine ⟨(k0 + 1, o), [some 7], ⟨by omega, G0.1, Nat.lt_of_lt_of_le hi G0.2⟩, ?_, rfl, ?_, ?_⟩
      · show es.length - (k0 + 1) < es.length - k0; omega
      · simp only [rs_lki, st]
      · repeat' (first | exact True.intro | exact rfl | exact fun _ => rfl | (simp; done) | refine And.intro ?_ ?_)
    have c : ¬ m < edL ps e := of_decide_eq_false c
    have se : stE ps m i e o = stA (o.getD i 0) e.2 e.1 (stA (o.getD i 0) e.1 e.2 o) := by unfold stE; rw [if_neg c]
    refine brT_ok.2 ⟨fun c1 => ?_, fun c1 => ?_⟩
    · have c1 : e.1 = o.getD i 0 := by simpa using c1
      refine ⟨Nat.le_refl _, by omega, by omega, hi, brT_ok.2 ⟨fun c2 => ?_, fun c2 => ?_⟩⟩
      · have c2 := of_decide_eq_true c2
        have s1 : stA (o.getD i 0) e.1 e.2 o = o ++ [e.2] := by unfold stA; rw [if_pos ⟨c1, c2⟩]
        have gi : (o ++ [e.2]).getD i 0 = o.getD i 0 := by simp [List.getD_eq_getElem?_getD, List.getElem?_append_left hi]
        have ll : (o ++ [e.2]).length = o.length + 1 := by simp
        rw [gi]
        refine ⟨⟨by omega, by omega⟩, Nat.le_refl _, brT_ok.2 ⟨fun c3 => ?_, fun c3 => ?_⟩⟩
        · have c3 : e.2 = o.getD i 0 := by simpa using c3
          refine ⟨by omega, by omega, by omega, by omega, brT_ok.2 ⟨fun c4 => ?_, fun c4 => ?_⟩⟩
          · have c4 := of_decide_eq_true c4
            have SL : stE ps m i e o = o ++ [e.2] ++ [e.1] := by rw [se, s1]; unfold stA; rw [if_pos ⟨c3, by rw [ll]; exact c4⟩]
            rw [List.take_of_length_le (by omega)]
            refine ⟨⟨by omega, by omega⟩, by omega, ?_⟩
            have G0 := stE_goo (ps := ps) (m := m) (i := i) hg ev
            rw [SL] at G0 st
            refine ⟨(k0 + 1, o ++ [e.2] ++ [e.1]), [some 15], ⟨by omega, G0.1, Nat.lt_of_lt_of_le hi G0.2⟩, ?_, rfl, ?_, ?_⟩
            · show es.length - (k0 + 1) < es.length - k0; omega
            · simp only [rs_lki, st]
            · repeat' (first | exact True.intro | exact rfl | exact fun _ => rfl | (simp; done) | refine And.intro ?_ ?_)
          · have c4 := of_decide_eq_false c4
            have SL : stE ps m i e o = o ++ [e.2] := by rw [se, s1]; unfold stA; rw [if_neg fun h => c4 (by rw [← ll]; exact h.2)]
            have G0 := stE_goo (ps := ps) (m := m) (i := i) hg ev
            rw [SL] at G0 st
            refine ⟨(k0 + 1, o ++ [e.2]), [some 12], ⟨by omega, G0.1, Nat.lt_of_lt_of_le hi G0.2⟩, ?_, rfl, ?_, ?_⟩
            · show es.length - (k0 + 1) < es.length - k0; omega
            · simp only [rs_lki, st]
            · repeat' (first | exact True.intro | exact rfl | exact fun _ => rfl | (simp; done) | refine And.intro ?_ ?_)
        · have c3 : ¬ e.2 = o.getD i 0 := by simpa using c3
          have SL : stE ps m i e o = o ++ [e.2] := by rw [se, s1]; unfold stA; rw [if_neg fun h => c3 h.1]
          refine ⟨by omega, by omega, ?_⟩
          have G0 := stE_goo (ps := ps) (m := m) (i := i) hg ev
          rw [SL] at G0 st
          refine ⟨(k0 + 1, o ++ [e.2]), [some 12], ⟨by omega, G0.1, Nat.lt_of_lt_of_le hi G0.2⟩, ?_, rfl, ?_, ?_⟩
          · show es.length - (k0 + 1) < es.length - k0; omega
          · simp only [rs_lki, st]
          · repeat' (first | exact True.intro | exact rfl | exact fun _ => rfl | (simp; done) | refine And.intro ?_ ?_)
      · have c2 := of_decide_eq_false c2
        have s1 : stA (o.getD i 0) e.1 e.2 o = o := by unfold stA; rw [if_neg fun h => c2 h.2]
        refine brT_ok.2 ⟨fun c3 => ?_, fun c3 => ?_⟩
        · have c3 : e.2 = o.getD i 0 := by simpa using c3
          refine ⟨Nat.le_refl _, by omega, by omega, hi, brT_ok.2 ⟨fun c4 => ?_, fun c4 => ?_⟩⟩
          · have c4 := of_decide_eq_true c4
            have SL : stE ps m i e o = o ++ [e.1] := by rw [se, s1]; unfold stA; rw [if_pos ⟨c3, c4⟩]
            refine ⟨⟨by omega, by omega⟩, Nat.le_refl _, ?_⟩
            have G0 := stE_goo (ps := ps) (m := m) (i := i) hg ev
            rw [SL] at G0 st
            refine ⟨(k0 + 1, o ++ [e.1]), [some 13], ⟨by omega, G0.1, Nat.lt_of_lt_of_le hi G0.2⟩, ?_, rfl, ?_, ?_⟩
            · show es.length - (k0 + 1) < es.length - k0; omega
            · simp only [rs_lki, st]
            · repeat' (first | exact True.intro | exact rfl | exact fun _ => rfl | (simp; done) | refine And.intro ?_ ?_)
          · have c4 := of_decide_eq_false c4
            have SL : stE ps m i e o = o := by rw [se, s1]; unfold stA; rw [if_neg fun h => c4 h.2]
            have G0 := stE_goo (ps := ps) (m := m) (i := i) hg ev
            rw [SL] at G0 st
            refine ⟨(k0 + 1, o), [some 7], ⟨by omega, G0.1, Nat.lt_of_lt_of_le hi G0.2⟩, ?_, rfl, ?_, ?_⟩
            · show es.length - (k0 + 1) < es.length - k0; omega
            · simp only [rs_lki, st]
            · repeat' (first | exact True.intro | exact rfl | exact fun _ => rfl | (simp; done) | refine And.intro ?_ ?_)
        · have c3 : ¬ e.2 = o.getD i 0 := by simpa using c3
          have SL : stE ps m i e o = o := by rw [se, s1]; unfold stA; rw [if_neg fun h => c3 h.1]
          refine ⟨by omega, hi, ?_⟩
          have G0 := stE_goo (ps := ps) (m := m) (i := i) hg ev
          rw [SL] at G0 st
          refine ⟨(k0 + 1, o), [some 7], ⟨by omega, G0.1, Nat.lt_of_lt_of_le hi G0.2⟩, ?_, rfl, ?_, ?_⟩
          · show es.length - (k0 + 1) < es.length - k0; omega
          · simp only [rs_lki, st]
          · repeat' (first | exact True.intro | exact rfl | exact fun _ => rfl | (simp; done) | refine And.intro ?_ ?_)
    · have c1 : ¬ e.1 = o.getD i 0 := by simpa using c1
      have s1 : stA (o.getD i 0) e.1 e.2 o = o := by unfold stA; rw [if_neg fun h => c1 h.1]
      refine ⟨by omega, hi, ?_⟩
      refine brT_ok.2 ⟨fun c3 => ?_, fun c3 => ?_⟩
      · have c3 : e.2 = o.getD i 0 := by simpa using c3
        refine ⟨Nat.le_refl _, by omega, by omega, hi, brT_ok.2 ⟨fun c4 => ?_, fun c4 => ?_⟩⟩
        · have c4 := of_decide_eq_true c4
          have SL : stE ps m i e o = o ++ [e.1] := by rw [se, s1]; unfold stA; rw [if_pos ⟨c3, c4⟩]
          refine ⟨⟨by omega, by omega⟩, Nat.le_refl _, ?_⟩
          have G0 := stE_goo (ps := ps) (m := m) (i := i) hg ev
          rw [SL] at G0 st
          refine ⟨(k0 + 1, o ++ [e.1]), [some 13], ⟨by omega, G0.1, Nat.lt_of_lt_of_le hi G0.2⟩, ?_, rfl, ?_, ?_⟩
          · show es.length - (k0 + 1) < es.length - k0; omega
          · simp only [rs_lki, st]
          · repeat' (first | exact True.intro | exact rfl | exact fun _ => rfl | (simp; done) | refine And.intro ?_ ?_)
        · have c4 := of_decide_eq_false c4
          have SL : stE ps m i e o = o := by rw [se, s1]; unfold stA; rw [if_neg fun h => c4 h.2]
          have G0 := stE_goo (ps := ps) (m := m) (i := i) hg ev
          rw [SL] at G0 st
          refine ⟨(k0 + 1, o), [some 7], ⟨by omega, G0.1, Nat.lt_of_lt_of_le hi G0.2⟩, ?_, rfl, ?_, ?_⟩
          · show es.length - (k0 + 1) < es.length - k0; omega
          · simp only [rs_lki, st]
          · repeat' (first | exact True.intro | exact rfl | exact fun _ => rfl | (simp; done) | refine And.intro ?_ ?_)
      · have c3 : ¬ e.2 = o.getD i 0 := by simpa using c3
        have SL : stE ps m i e o = o := by rw [se, s1]; unfold stA; rw [if_neg fun h => c3 h.1]
        refine ⟨by omega, hi, ?_⟩
        have G0 := stE_goo (ps := ps) (m := m) (i := i) hg ev
        rw [SL] at G0 st
        refine ⟨(k0 + 1, o), [some 7], ⟨by omega, G0.1, Nat.lt_of_lt_of_le hi G0.2⟩, ?_, rfl, ?_, ?_⟩
        · show es.length - (k0 + 1) < es.length - k0; omega
        · simp only [rs_lki, st]
        · repeat' (first | exact True.intro | exact rfl | exact fun _ => rfl | (simp; done) | refine And.intro ?_ ?_)
  · have hge := of_decide_eq_false hge
    refine ⟨rfl, [some 7], ?_⟩
    have e : inE ps m i (es.drop k0) o = o := by rw [List.drop_of_length_le (by omega)]; rfl
    simp only [rs_lki, e]
    repeat' (first | exact True.intro | exact rfl | exact fun _ => rfl | (simp; done) | refine And.intro ?_ ?_)
set_option maxRecDepth 100000 in
theorem lg_lki : LoopE Try.prog e_lki c_lki := by
  intro s k t F H hlt ht
  unfold e_lki at hlt
  split at hlt
  rotate_left
  · cases hlt
  rename_i hlen hpick hmem
  obtain ⟨tmps, mem⟩ := s
  simp only at hlen hpick hmem
  subst hmem
  obtain rfl := Option.some.inj hlt
  obtain ⟨⟨rfl, h1, h2, h3, h4, h5, h6, h7, h8, h9, _⟩, ht2⟩ := needs_ok ht
  clear ht hlt
  obtain ⟨ps, rfl, rfl⟩ := even_flat h1
  obtain ⟨es, rfl, rfl⟩ := even_flat h2
  obtain ⟨i, ei⟩ := Int.eq_ofNat_of_zero_le h9.1
  subst ei
  subst h3
  rw [ptsA_flat, ptsA_flat] at ht2
  rw [ptsA_flat] at h6 h7
  simp only [Int.toNat_natCast] at ht2
  refine ⟨_, _, ht2, loop_run2 mixed ECn_ok (s_lki ps es _ _ i) (inv_lki ps es _ _ i) (me_lki ps es _ _ i) re_lki (rs_lki ps es _ _ i) k_lki (fun _ => rfl) (noLoops nl_lki) (round_lki ps es _ _ i h4 h5 h6 h7) (x := (0, _)) ⟨Nat.zero_le _, h8, by omega⟩ (π := [some 6]) rfl ?_⟩
  refine ⟨rfl, rfl, ?_, wvs_spread' [0, 1, 3, 4, 11, 12, 13] hlen rfl ?_⟩
  · repeat' (first | exact True.intro | exact rfl | exact wv_top _ _ | exact fun _ => rfl | assumption | exact Eq.symm (by assumption) | exact vI0 rfl | refine And.intro ?_ ?_)
  · rw [hpick]
    repeat' (first | exact True.intro | exact rfl | exact wv_top _ _ | exact fun _ => rfl | assumption | exact Eq.symm (by assumption) | exact vI0 rfl | refine And.intro ?_ ?_)
end Go.Proofs.Ytnlciknmpjikgaa
namespace Go.Proofs.Ytnlciknmpjikgaa
set_option linter.all false
open Go.RowKit
def ltLk : LT := fun j s k => match j with
  | 1 => e_lki s k
  | _ => none
theorem goo_one {n : Nat} {a : Int} (h : 0 ≤ a ∧ a < n) : Goo n [a] := ⟨by simp, fun x hx => by simp only [List.mem_singleton] at hx; subst hx; exact h⟩
noncomputable def c_lko : Code := ((loopsOf (codeOf Try.f61))[0]?).getD .skip
def k_lko : Ex → List Nat := keeps [0, 1, 3, 4, 11, 12] [(0, [3, 11])] []
def s_lko (ps es : List Pt) (a b m : Int) : Nat × (List Int) → St := fun (i, o) => ⟨(.slice (some ⟨0, 0, none⟩) ps.length ps.length :: .slice (some ⟨1, 0, none⟩) es.length es.length :: topV :: .int .i64 b :: .int .i64 m :: topV :: topV :: topV :: topV :: topV :: topV :: .slice (some ⟨6, 0, none⟩) o.length o.length :: .int .i64 i :: topV :: topV :: topV :: topV :: topV :: topV :: topV :: topV :: topV :: topV :: topV :: topV :: topV :: topV :: topV :: topV :: topV :: topV :: topV :: topV :: topV :: topV :: topV :: topV :: topV :: topV :: topV :: topV :: topV :: topV :: topV :: topV :: topV :: topV :: topV :: topV :: topV :: topV :: topV :: topV :: topV :: topV :: topV :: topV :: topV :: topV :: topV :: topV :: topV :: topV :: topV :: topV :: topV :: topV :: topV :: topV :: topV :: topV :: topV :: topV :: topV :: topV :: topV :: topV :: topV :: topV :: topV :: topV :: topV :: topV :: topV :: topV :: topV :: topV :: topV :: []), [some ⟨.view, .ints (flat ps)⟩, some ⟨.view, .ints (flat es)⟩, none, none, none, some ⟨.dead, .vals []⟩, some ⟨.row 3 1, .ints o⟩]⟩
def re_lko : Nat × (List Int) → Ex := fun _ => .exit 0
def rs_lko (ps es : List Pt) (a b m : Int) : Nat × (List Int) → St := fun (i, o) => ⟨(topV :: topV :: topV :: .int .i64 b :: topV :: topV :: topV :: topV :: topV :: topV :: topV :: .slice (some ⟨6, 0, none⟩) (bfE ps es m ps.length 0 [a]).length (bfE ps es m ps.length 0 [a]).length :: topV :: topV :: topV :: topV :: topV :: topV :: topV :: topV :: topV :: topV :: topV :: topV :: topV :: topV :: topV :: topV :: topV :: topV :: topV :: topV :: topV :: topV :: topV :: topV :: topV :: topV :: topV :: topV :: topV :: topV :: topV :: topV :: topV :: topV :: topV :: topV :: topV :: topV :: topV :: topV :: topV :: topV :: topV :: topV :: topV :: topV :: topV :: topV :: topV :: topV :: topV :: topV :: topV :: topV :: topV :: topV :: topV :: topV :: topV :: topV :: topV :: topV :: topV :: topV :: topV :: topV :: topV :: topV :: topV :: topV :: topV :: topV :: topV :: topV :: topV :: topV :: []), [some ⟨.view, .ints (flat ps)⟩, some ⟨.view, .ints (flat es)⟩, none, none, none, some ⟨.dead, .vals []⟩, some ⟨.row 3 1, .ints (bfE ps es m ps.length 0 [a])⟩]⟩
set_option maxRecDepth 100000 in
theorem tr_lko (ps es : List Pt) (a b m : Int) (i : Nat) (o : List Int) : bodyL Try.prog ECn 30 12 ltLk 1 c_lko k_lko 30 (s_lko ps es a b m (i, o)) = brT (decide ((↑i : Int) < (↑o.length : Int))) (.need ((0 : Int) = (0 : Int)) (.need ((flat ps).length = ps.length * (2 : Nat)) (.need ((flat es).length = es.length * (2 : Nat)) (.need (o.length = o.length) (.need (ps.length ≤ (20 : Nat)) (.need (es.length ≤ (20 : Nat)) (.need (allV (ptsA ps.length (flat ps)) = true) (.need (evA ps.length (ptsA es.length (flat es)) = true) (.need (Goo ps.length o) (.need ((0 : Int) ≤ (↑i : Int) ∧ (↑i : Int) < (↑o.length : Int)) (.leaf .normal ⟨(.slice (some ⟨0, 0, none⟩) (ps.length) (ps.length) :: .slice (some ⟨1, 0, none⟩) (es.length) (es.length) :: topV :: .int .i64 (b) :: .int .i64 (m) :: topV :: topV :: topV :: topV :: topV :: topV :: .slice (some ⟨7, 0, none⟩) ((inE (ptsA ps.length (flat ps)) m (↑i : Int).toNat (ptsA es.length (flat es)) o).length) ((inE (ptsA ps.length (flat ps)) m (↑i : Int).toNat (ptsA es.length (flat es)) o).length) :: .int .i64 (IntKind.i64.wrap ((↑i : Int) + 1)) :: topV :: topV :: topV :: topV :: topV :: topV :: topV :: topV :: topV :: topV :: topV :: topV :: topV :: topV :: topV :: topV :: topV :: topV :: topV :: topV :: topV :: topV :: topV :: topV :: topV :: topV :: topV :: topV :: topV :: topV :: topV :: topV :: topV :: topV :: topV :: topV :: topV :: topV :: topV :: topV :: topV :: topV :: topV :: topV :: topV :: topV :: topV :: topV :: topV :: topV :: topV :: topV :: topV :: topV :: topV :: topV :: topV :: topV :: topV :: topV :: topV :: topV :: topV :: topV :: topV :: topV :: topV :: topV :: topV :: topV :: topV :: topV :: topV :: topV :: topV :: []), [some ⟨.view, .ints (flat ps)⟩, some ⟨.view, .ints (flat es)⟩, none, none, none, some deadB, some deadB, some ⟨.row 3 1, .ints (inE (ptsA ps.length (flat ps)) m (↑i : Int).toNat (ptsA es.length (flat es)) o)⟩]⟩))))))))))) (.leaf (.exit 0) ⟨(topV :: topV :: topV :: .int .i64 (b) :: topV :: topV :: topV :: topV :: topV :: topV :: topV :: .slice (some ⟨6, 0, none⟩) (o.length) (o.length) :: topV :: topV :: topV :: topV :: topV :: topV :: topV :: topV :: topV :: topV :: topV :: topV :: topV :: topV :: topV :: topV :: topV :: topV :: topV :: topV :: topV :: topV :: topV :: topV :: topV :: topV :: topV :: topV :: topV :: topV :: topV :: topV :: topV :: topV :: topV :: topV :: topV :: topV :: topV :: topV :: topV :: topV :: topV :: topV :: topV :: topV :: topV :: topV :: topV :: topV :: topV :: topV :: topV :: topV :: topV :: topV :: topV :: topV :: topV :: topV :: topV :: topV :: topV :: topV :: topV :: topV :: topV :: topV :: topV :: topV :: topV :: topV :: topV :: topV :: topV :: topV :: []), [some ⟨.view, .ints (flat ps)⟩, some ⟨.view, .ints (flat es)⟩, none, none, none, some deadB, some ⟨.row 3 1, .ints (o)⟩]⟩) := by kernel_rfl
def inv_lko (ps es : List Pt) (a b m : Int) : Nat × (List Int) → Prop := fun (i, o) => (Goo ps.length o ∧ i ≤ o.length) ∧ bfE ps es m (ps.length - i) i o = bfE ps es m ps.length 0 [a]
def me_lko (ps es : List Pt) (a b m : Int) : Nat × (List Int) → Nat := fun (i, o) => ps.length - i
/-- A round of this loop. -/
def Round_lko (ps es : List Pt) (a b m : Int) : Prop := ∀ xx : Nat × (List Int), inv_lko ps es a b m xx → (bodyL Try.prog ECn 30 12 ltLk 1 c_lko k_lko 30 (s_lko ps es a b m xx)).ok (RoundEnd 6 (s_lko ps es a b m) (inv_lko ps es a b m) (me_lko ps es a b m) re_lko (rs_lko ps es a b m) xx) (fun _ _ => False)
def e_lko (s : St) (k : Ex → St → Tree) : Option Tree := match Nat.beq s.tmps.length 88, pickL s.tmps [0, 1, 3, 4, 11, 12], s.mem with
  | true, [.slice (some ⟨0, 0, none⟩) n _, .slice (some ⟨1, 0, none⟩) r _, .int .i64 b, .int .i64 m, .slice (some ⟨5, 0, none⟩) z _, .int .i64 i0], [some ⟨.view, .ints xs⟩, some ⟨.view, .ints ys⟩, none, none, none, some ⟨.row 3 1, .vals [.int .i64 a]⟩] => some (needs [i0 = 0, z = 1, xs.length = n * 2, ys.length = r * 2, n ≤ 20, r ≤ 20, allV (ptsA n xs) = true, evA n (ptsA r ys) = true, 0 ≤ a ∧ a < n] (k (.exit 0) ⟨(topV :: topV :: topV :: .int .i64 b :: topV :: topV :: topV :: topV :: topV :: topV :: topV :: .slice (some ⟨6, 0, none⟩) (bfE (ptsA n xs) (ptsA r ys) m n 0 [a]).length (bfE (ptsA n xs) (ptsA r ys) m n 0 [a]).length :: topV :: topV :: topV :: topV :: topV :: topV :: topV :: topV :: topV :: topV :: topV :: topV :: topV :: topV :: topV :: topV :: topV :: topV :: topV :: topV :: topV :: topV :: topV :: topV :: topV :: topV :: topV :: topV :: topV :: topV :: topV :: topV :: topV :: topV :: topV :: topV :: topV :: topV :: topV :: topV :: topV :: topV :: topV :: topV :: topV :: topV :: topV :: topV :: topV :: topV :: topV :: topV :: topV :: topV :: topV :: topV :: topV :: topV :: topV :: topV :: topV :: topV :: topV :: topV :: topV :: topV :: topV :: topV :: topV :: topV :: topV :: topV :: topV :: topV :: topV :: topV :: []), [some ⟨.view, .ints xs⟩, some ⟨.view, .ints ys⟩, none, none, none, some ⟨.dead, .vals []⟩, some ⟨.row 3 1, .ints (bfE (ptsA n xs) (ptsA r ys) m n 0 [a])⟩]⟩))
  | _, _, _ => none
set_option maxRecDepth 100000 in
theorem in_lko : loopsOf c_lko = [c_lki] := by kernel_rfl
theorem ltLk_good : LoopsGood Try.prog ltLk 1 c_lko := by
  intro i d hd s k t F H hlt ht
  rw [in_lko] at hd
  cases i with
  | zero =>
    obtain rfl : c_lki = d := by simpa using hd
    exact lg_lki s k t F H hlt ht
  | succ i => simp at hd
set_option maxRecDepth 100000 in
theorem round_lko (ps es : List Pt) (a b m : Int) (hn : ps.length ≤ 20) (hr : es.length ≤ 20) (hv : allV ps = true) (he : evA ps.length es = true) : Round_lko ps es a b m := by
  rintro ⟨i, o⟩ ⟨⟨hg, h1⟩, h2⟩
  rw [tr_lko]
  have fe := flat_length es
  have fp := flat_length ps
  have ol := goo_len hg
  simp only [Int.toNat_natCast, Nat.zero_add, Nat.add_zero, Nat.mul_one, List.drop_zero, ptsA_flat]
  refine brT_ok.2 ⟨fun hlt => ?_, fun hge => ?_⟩
  · have hlt := of_decide_eq_true hlt
    have hi : i < o.length := by omega
    obtain ⟨q1, q2⟩ := inE_goo (ps := ps) (m := m) (i := i) hg he
    have e1 : bfE ps es m (ps.length - i) i o = bfE ps es m (ps.length - (i + 1)) (i + 1) (inE ps m i es o) := by
      rw [show ps.length - i = (ps.length - (i + 1)) + 1 by omega]
      show (if i < o.length then bfE ps es m (ps.length - (i + 1)) (i + 1) (inE ps m i es o) else o) = _
      rw [if_pos hi]
    rw [wsucc (n := o.length) hi (by omega)]
    refine ⟨True.intro, by omega, by omega, True.intro, hn, hr, hv, he, hg, by omega, (i + 1, inE ps m i es o), [some 7], ⟨⟨q1, by omega⟩, e1.symm.trans h2⟩, ?_, rfl, rfl, ?_⟩
    · show ps.length - (i + 1) < ps.length - i; omega
    · repeat' (first | exact True.intro | exact rfl | exact fun _ => rfl | (simp; done) | refine And.intro ?_ ?_)
  · have hge := of_decide_eq_false hge
    have e : bfE ps es m (ps.length - i) i o = o := by
      cases ps.length - i with
      | zero => rfl
      | succ f =>
        show (if i < o.length then bfE ps es m f (i + 1) (inE ps m i es o) else o) = o
        rw [if_neg (by omega)]
    rw [e] at h2
    refine ⟨rfl, [some 6], ?_⟩
    rw [h2]
    repeat' (first | exact True.intro | exact rfl | exact fun _ => rfl | (simp; done) | refine And.intro ?_ ?_)
set_option maxRecDepth 100000 in
theorem lg_lko : LoopE Try.prog e_lko c_lko := by
  intro s k t F H hlt ht
  unfold e_lko at hlt
  split at hlt
  rotate_left
  · cases hlt
  rename_i hlen hpick hmem
  obtain ⟨tmps, mem⟩ := s
  simp only at hlen hpick hmem
  subst hmem
  obtain rfl := Option.some.inj hlt
  obtain ⟨⟨rfl, rfl, h1, h2, h4, h5, h6, h7, h8, _⟩, ht2⟩ := needs_ok ht
  clear ht hlt
  obtain ⟨ps, rfl, rfl⟩ := even_flat h1
  obtain ⟨es, rfl, rfl⟩ := even_flat h2
  rw [ptsA_flat, ptsA_flat] at ht2
  rw [ptsA_flat] at h6 h7
  refine ⟨_, _, ht2, loop_run2 mixed ECn_ok (s_lko ps es _ _ _) (inv_lko ps es _ _ _) (me_lko ps es _ _ _) re_lko (rs_lko ps es _ _ _) k_lko (fun _ => rfl) ltLk_good (round_lko ps es _ _ _ h4 h5 h6 h7) (x := (0, [_])) ⟨⟨goo_one h8, Nat.zero_le _⟩, rfl⟩ (π := [some 5]) rfl ?_⟩
  refine ⟨rfl, rfl, ?_, wvs_spread' [0, 1, 3, 4, 11, 12] hlen rfl ?_⟩
  · repeat' (first | exact True.intro | exact rfl | exact wv_top _ _ | exact fun _ => rfl | assumption | exact Eq.symm (by assumption) | exact vI0 rfl | refine And.intro ?_ ?_)
  · rw [hpick]
    repeat' (first | exact True.intro | exact rfl | exact wv_top _ _ | exact fun _ => rfl | assumption | exact Eq.symm (by assumption) | exact vI0 rfl | refine And.intro ?_ ?_)
theorem Lr_lko {fn : Func} (hf : Try.prog.funcs[61]? = some fn) : LoopsGood Try.prog (lt1 e_lko) 0 (codeOf fn) := by
  obtain rfl := fn_is Try.func61 hf
  exact lt1_good lg_lko
def LLk : FuncId → LT := fun f => match f with
  | 61 => lt1 e_lko
  | _ => noL
def ELk : Env := withT (mkE TCn RCn LLk) JCn
theorem ELk_ok : EnvOk Try.prog ELk := withT_ok (mkEOk TCn_ok RCn_ok (by
  intro f fn hf
  unfold LLk
  split
  all_goals first | with_reducible exact Lr_lko hf | exact noL_good)) JCn_ok
set_option maxRecDepth 100000 in
theorem tr_lkF (ps es : List Pt) (a b m : Int) : bodyV Try.prog ELk 30 12 61 [.row ps.length (.ints (flat ps)), .row es.length (.ints (flat es)), .v (iv a), .v (iv b), .v (iv m)] = .need ((0 : Int) = (0 : Int)) (.need ((1 : Nat) = (1 : Nat)) (.need ((flat ps).length = ps.length * (2 : Nat)) (.need ((flat es).length = es.length * (2 : Nat)) (.need (ps.length ≤ (20 : Nat)) (.need (es.length ≤ (20 : Nat)) (.need (allV (ptsA ps.length (flat ps)) = true) (.need (evA ps.length (ptsA es.length (flat es)) = true) (.need ((0 : Int) ≤ a ∧ a < (↑ps.length : Int)) (.need ((bfE (ptsA ps.length (flat ps)) (ptsA es.length (flat es)) m ps.length (0 : Nat) [a]).length ≤ (List.drop (0 : Nat) (bfE (ptsA ps.length (flat ps)) (ptsA es.length (flat es)) m ps.length (0 : Nat) [a])).length) (.need ((bfE (ptsA ps.length (flat ps)) (ptsA es.length (flat es)) m ps.length (0 : Nat) [a]).length ≤ (1000000000 : Nat)) (.fin (.bool (decide (0 ≤ plF1 (List.drop 0 (bfE (ptsA ps.length (flat ps)) (ptsA es.length (flat es)) m ps.length 0 [a])) b 0 (bfE (ptsA ps.length (flat ps)) (ptsA es.length (flat es)) m ps.length 0 [a]).length))) []))))))))))) := by kernel_rfl
/-- Is b reached from a over edges that are not longer than m? -/
def lkV (ps es : List Pt) (a b m : Int) : Bool := decide (0 ≤ plF1 (bfE ps es m ps.length 0 [a]) b 0 (bfE ps es m ps.length 0 [a]).length)
theorem bfE_goo {n : Nat} {ps es : List Pt} {m : Int} : ∀ {f i : Nat} {o : List Int}, Goo n o → evA n es = true → Goo n (bfE ps es m f i o)
  | 0, _, _, h, _ => h
  | f + 1, i, o, h, he => by
    simp only [bfE]
    split
    · exact bfE_goo (inE_goo h he).1 he
    · exact h
set_option maxRecDepth 100000 in
theorem res_lk (ps es : List Pt) (a b m : Int) (hn : ps.length ≤ 20) (hm : es.length ≤ 20) (hv : allV ps = true) (he : evA ps.length es = true) (ha : 0 ≤ a ∧ a < ps.length) : Res Try.prog 61 [.row ps.length (.ints (flat ps)), .row es.length (.ints (flat es)), .v (iv a), .v (iv b), .v (iv m)] (.bool (lkV ps es a b m)) := by
  refine bodyV_res mixed ELk_ok (m := 30) (n := 12) rfl ?_
  rw [tr_lkF]
  have fe := flat_length es
  have fp := flat_length ps
  have ol := goo_len (bfE_goo (ps := ps) (m := m) (f := ps.length) (i := 0) (goo_one ha) he)
  simp only [List.drop_zero, ptsA_flat, Tree.ok]
  exact ⟨trivial, trivial, by omega, by omega, hn, hm, hv, he, ha, Nat.le_refl _, by omega, rfl⟩
def pLk : List DArg → Option (Value × List Prop)
  | [.row n (.ints xs), .row r (.ints ys), .v (.int .i64 a), .v (.int .i64 b), .v (.int .i64 m)] => some (.bool (lkV (ptsA n xs) (ptsA r ys) a b m), [n * 2 ≤ xs.length, r * 2 ≤ ys.length, n ≤ 20, r ≤ 20, allV (ptsA n xs) = true, evA n (ptsA r ys) = true, 0 ≤ a ∧ a < n])
  | _ => none
theorem pLk_ok {ds : List DArg} {v : Value} {C : List Prop} (h : pLk ds = some (v, C)) (hC : AllP C) : Res Try.prog 61 ds v := by
  unfold pLk at h
  split at h
  · rename_i n xs r ys a b m
    obtain ⟨rfl, rfl⟩ : _ ∧ _ := by simpa using h
    obtain ⟨c1, c2, c3, c4, c5, c6, c7, _⟩ := hC
    obtain ⟨_, h2⟩ := ptsA_spec c1
    obtain ⟨_, h3⟩ := ptsA_spec c2
    exact res_pts1 (pre := []) (post := [_, _, _, _]) c1 (res_pts1 (pre := [_]) (post := [_, _, _]) c2 (res_lk (ptsA n xs) (ptsA r ys) a b m (by rw [h2]; exact c3) (by rw [h3]; exact c4) c5 (by rw [h2]; exact c6) (by rw [h2]; exact c7)))
  · cases h
end Go.Proofs.Ytnlciknmpjikgaa
namespace Go.Proofs.Ytnlciknmpjikgaa
set_option linter.all false
open Go.RowKit
/-- Of so many from i on, all. -/
def allQ (P : Nat → Bool) : Nat → Nat → Bool
  | _, 0 => true
  | i, m + 1 => P i && allQ P (i + 1) m
theorem allQ_get {P : Nat → Bool} : ∀ (m i : Nat), allQ P i m = true → ∀ j, i ≤ j → j < i + m → P j = true
  | 0, i, _, j, h1, h2 => by omega
  | m + 1, i, h, j, h1, h2 => by
    simp only [allQ, Bool.and_eq_true] at h
    rcases Nat.lt_or_ge i j with h3 | h3
    · exact allQ_get m (i + 1) h.2 j (by omega) (by omega)
    · obtain rfl : j = i := by omega
      exact h.1
end Go.Proofs.Ytnlciknmpjikgaa
namespace Go.Proofs.Ytnlciknmpjikgaa
set_option linter.all false
open Go.RowKit
def TCk : Tab := fun f ds => match f with
  | 61 => pLk ds
  | 62 => pMz ds
  | f => T3 f ds
theorem TCk_ok : TabOk Try.prog TCk := by
  intro f ds v C h hC
  unfold TCk at h
  split at h
  all_goals first | with_reducible exact pLk_ok h hC | with_reducible exact pMz_ok res_smh h hC | exact T3_ok _ _ _ _ h hC
def ECk : Env := mkE TCk (fun _ _ => none) (fun _ => noL)
theorem ECk_ok : EnvOk Try.prog ECk := mkEOk TCk_ok (fun _ _ _ _ _ h => (by cases h)) (fun _ _ _ => noL_good)
/-- An edge between two different places. -/
def enB (n : Nat) (e : Pt) : Bool := evB n e && !(e.1 == e.2)
def enA (n : Nat) (es : List Pt) : Bool := es.all (enB n)
def lkQ (ps es : List Pt) (i k : Nat) : Bool := lkV ps es i k (mhP (ps.getD i (0, 0)) (ps.getD k (0, 0)))
def lkR (ps es : List Pt) (i : Nat) : Bool := allQ (lkQ ps es i) 0 i
theorem allQ_st (P : Nat → Bool) {k n : Nat} (h : k < n) : allQ P k (n - k) = (P k && allQ P (k + 1) (n - (k + 1))) := by
  rw [show n - k = (n - (k + 1)) + 1 by omega]
  rfl
theorem allQ_en (P : Nat → Bool) {k n : Nat} (h : n ≤ k) : allQ P k (n - k) = true := by
  rw [show n - k = 0 by omega]
  rfl
noncomputable def c_cse : Code := ((loopsOf (codeOf Try.f24))[0]?).getD .skip
def k_cse : Ex → List Nat := keeps [0, 1, 5] [(0, [0, 1])] [4]
def s_cse (ps es : List Pt) : Nat → St := fun i => ⟨(.slice (some ⟨0, 0, none⟩) ps.length ps.length :: .slice (some ⟨1, 0, none⟩) es.length es.length :: topV :: topV :: topV :: .int .i64 i :: topV :: topV :: topV :: topV :: topV :: topV :: topV :: topV :: topV :: topV :: topV :: topV :: topV :: topV :: topV :: topV :: topV :: topV :: topV :: topV :: topV :: topV :: topV :: topV :: topV :: topV :: topV :: topV :: topV :: topV :: topV :: topV :: topV :: topV :: topV :: topV :: topV :: topV :: topV :: topV :: topV :: topV :: topV :: topV :: topV :: topV :: topV :: topV :: topV :: topV :: topV :: topV :: topV :: topV :: topV :: topV :: topV :: topV :: topV :: topV :: topV :: topV :: topV :: topV :: topV :: topV :: topV :: topV :: topV :: topV :: topV :: topV :: topV :: topV :: []), [some ⟨.view, .ints (flat ps)⟩, some ⟨.view, .ints (flat es)⟩]⟩
def re_cse (ps es : List Pt) : Nat → Ex := fun i => bif enA ps.length (es.drop i) then .exit 0 else .ret
def rs_cse (ps es : List Pt) : Nat → St := fun i => bif enA ps.length (es.drop i) then ⟨(.slice (some ⟨0, 0, none⟩) ps.length ps.length :: .slice (some ⟨1, 0, none⟩) es.length es.length :: topV :: topV :: topV :: topV :: topV :: topV :: topV :: topV :: topV :: topV :: topV :: topV :: topV :: topV :: topV :: topV :: topV :: topV :: topV :: topV :: topV :: topV :: topV :: topV :: topV :: topV :: topV :: topV :: topV :: topV :: topV :: topV :: topV :: topV :: topV :: topV :: topV :: topV :: topV :: topV :: topV :: topV :: topV :: topV :: topV :: topV :: topV :: topV :: topV :: topV :: topV :: topV :: topV :: topV :: topV :: topV :: topV :: topV :: topV :: topV :: topV :: topV :: topV :: topV :: topV :: topV :: topV :: topV :: topV :: topV :: topV :: topV :: topV :: topV :: topV :: topV :: topV :: topV :: []), [some ⟨.view, .ints (flat ps)⟩, some ⟨.view, .ints (flat es)⟩]⟩ else ⟨(topV :: topV :: topV :: topV :: .bool false :: topV :: topV :: topV :: topV :: topV :: topV :: topV :: topV :: topV :: topV :: topV :: topV :: topV :: topV :: topV :: topV :: topV :: topV :: topV :: topV :: topV :: topV :: topV :: topV :: topV :: topV :: topV :: topV :: topV :: topV :: topV :: topV :: topV :: topV :: topV :: topV :: topV :: topV :: topV :: topV :: topV :: topV :: topV :: topV :: topV :: topV :: topV :: topV :: topV :: topV :: topV :: topV :: topV :: topV :: topV :: topV :: topV :: topV :: topV :: topV :: topV :: topV :: topV :: topV :: topV :: topV :: topV :: topV :: topV :: topV :: topV :: topV :: topV :: topV :: topV :: []), [some ⟨.view, .ints (flat ps)⟩, some ⟨.view, .ints (flat es)⟩]⟩
set_option maxRecDepth 100000 in
theorem tr_cse (ps es : List Pt) (i : Nat) : bodyL Try.prog ECk 30 12 noL 1 c_cse k_cse 2 (s_cse ps es i) = brT (decide ((↑i : Int) < (↑es.length : Int))) (.need ((0 : Int) ≤ (↑i : Int) ∧ (↑i : Int) < (↑es.length : Int)) (.need ((0 : Nat) + (↑i : Int).toNat * (2 : Nat) + (2 : Nat) ≤ (flat es).length) (brT (decide (0 ≤ (flat es).getD (0 + (↑i : Int).toNat * 2) 0)) (brT (!decide ((flat es).getD (0 + (↑i : Int).toNat * 2) 0 ≤ IntKind.i64.wrap ((↑ps.length : Int) - 1))) (.leaf .ret ⟨(topV :: topV :: topV :: topV :: .bool (false) :: topV :: topV :: topV :: topV :: topV :: topV :: topV :: topV :: topV :: topV :: topV :: topV :: topV :: topV :: topV :: topV :: topV :: topV :: topV :: topV :: topV :: topV :: topV :: topV :: topV :: topV :: topV :: topV :: topV :: topV :: topV :: topV :: topV :: topV :: topV :: topV :: topV :: topV :: topV :: topV :: topV :: topV :: topV :: topV :: topV :: topV :: topV :: topV :: topV :: topV :: topV :: topV :: topV :: topV :: topV :: topV :: topV :: topV :: topV :: topV :: topV :: topV :: topV :: topV :: topV :: topV :: topV :: topV :: topV :: topV :: topV :: topV :: topV :: topV :: topV :: []), [some ⟨.view, .ints (flat ps)⟩, some ⟨.view, .ints (flat es)⟩]⟩) (brT (decide (0 ≤ (flat es).getD (0 + (↑i : Int).toNat * 2 + 1) 0)) (brT (!decide ((flat es).getD (0 + (↑i : Int).toNat * 2 + 1) 0 ≤ IntKind.i64.wrap ((↑ps.length : Int) - 1))) (.leaf .ret ⟨(topV :: topV :: topV :: topV :: .bool (false) :: topV :: topV :: topV :: topV :: topV :: topV :: topV :: topV :: topV :: topV :: topV :: topV :: topV :: topV :: topV :: topV :: topV :: topV :: topV :: topV :: topV :: topV :: topV :: topV :: topV :: topV :: topV :: topV :: topV :: topV :: topV :: topV :: topV :: topV :: topV :: topV :: topV :: topV :: topV :: topV :: topV :: topV :: topV :: topV :: topV :: topV :: topV :: topV :: topV :: topV :: topV :: topV :: topV :: topV :: topV :: topV :: topV :: topV :: topV :: topV :: topV :: topV :: topV :: topV :: topV :: topV :: topV :: topV :: topV :: topV :: topV :: topV :: topV :: topV :: topV :: []), [some ⟨.view, .ints (flat ps)⟩, some ⟨.view, .ints (flat es)⟩]⟩) (brT ((flat es).getD (0 + (↑i : Int).toNat * 2) 0 == (flat es).getD (0 + (↑i : Int).toNat * 2 + 1) 0) (.leaf .ret ⟨(topV :: topV :: topV :: topV :: .bool (false) :: topV :: topV :: topV :: topV :: topV :: topV :: topV :: topV :: topV :: topV :: topV :: topV :: topV :: topV :: topV :: topV :: topV :: topV :: topV :: topV :: topV :: topV :: topV :: topV :: topV :: topV :: topV :: topV :: topV :: topV :: topV :: topV :: topV :: topV :: topV :: topV :: topV :: topV :: topV :: topV :: topV :: topV :: topV :: topV :: topV :: topV :: topV :: topV :: topV :: topV :: topV :: topV :: topV :: topV :: topV :: topV :: topV :: topV :: topV :: topV :: topV :: topV :: topV :: topV :: topV :: topV :: topV :: topV :: topV :: topV :: topV :: topV :: topV :: topV :: topV :: []), [some ⟨.view, .ints (flat ps)⟩, some ⟨.view, .ints (flat es)⟩]⟩) (.leaf .normal ⟨(.slice (some ⟨0, 0, none⟩) (ps.length) (ps.length) :: .slice (some ⟨1, 0, none⟩) (es.length) (es.length) :: topV :: topV :: topV :: .int .i64 (IntKind.i64.wrap ((↑i : Int) + 1)) :: topV :: topV :: topV :: topV :: topV :: topV :: topV :: topV :: topV :: topV :: topV :: topV :: topV :: topV :: topV :: topV :: topV :: topV :: topV :: topV :: topV :: topV :: topV :: topV :: topV :: topV :: topV :: topV :: topV :: topV :: topV :: topV :: topV :: topV :: topV :: topV :: topV :: topV :: topV :: topV :: topV :: topV :: topV :: topV :: topV :: topV :: topV :: topV :: topV :: topV :: topV :: topV :: topV :: topV :: topV :: topV :: topV :: topV :: topV :: topV :: topV :: topV :: topV :: topV :: topV :: topV :: topV :: topV :: topV :: topV :: topV :: topV :: topV :: topV :: []), [some ⟨.view, .ints (flat ps)⟩, some ⟨.view, .ints (flat es)⟩]⟩))) (.leaf .ret ⟨(topV :: topV :: topV :: topV :: .bool (false) :: topV :: topV :: topV :: topV :: topV :: topV :: topV :: topV :: topV :: topV :: topV :: topV :: topV :: topV :: topV :: topV :: topV :: topV :: topV :: topV :: topV :: topV :: topV :: topV :: topV :: topV :: topV :: topV :: topV :: topV :: topV :: topV :: topV :: topV :: topV :: topV :: topV :: topV :: topV :: topV :: topV :: topV :: topV :: topV :: topV :: topV :: topV :: topV :: topV :: topV :: topV :: topV :: topV :: topV :: topV :: topV :: topV :: topV :: topV :: topV :: topV :: topV :: topV :: topV :: topV :: topV :: topV :: topV :: topV :: topV :: topV :: topV :: topV :: topV :: topV :: []), [some ⟨.view, .ints (flat ps)⟩, some ⟨.view, .ints (flat es)⟩]⟩))) (.leaf .ret ⟨(topV :: topV :: topV :: topV :: .bool (false) :: topV :: topV :: topV :: topV :: topV :: topV :: topV :: topV :: topV :: topV :: topV :: topV :: topV :: topV :: topV :: topV :: topV :: topV :: topV :: topV :: topV :: topV :: topV :: topV :: topV :: topV :: topV :: topV :: topV :: topV :: topV :: topV :: topV :: topV :: topV :: topV :: topV :: topV :: topV :: topV :: topV :: topV :: topV :: topV :: topV :: topV :: topV :: topV :: topV :: topV :: topV :: topV :: topV :: topV :: topV :: topV :: topV :: topV :: topV :: topV :: topV :: topV :: topV :: topV :: topV :: topV :: topV :: topV :: topV :: topV :: topV :: topV :: topV :: topV :: topV :: []), [some ⟨.view, .ints (flat ps)⟩, some ⟨.view, .ints (flat es)⟩]⟩)))) (.leaf (.exit 0) ⟨(.slice (some ⟨0, 0, none⟩) (ps.length) (ps.length) :: .slice (some ⟨1, 0, none⟩) (es.length) (es.length) :: topV :: topV :: topV :: topV :: topV :: topV :: topV :: topV :: topV :: topV :: topV :: topV :: topV :: topV :: topV :: topV :: topV :: topV :: topV :: topV :: topV :: topV :: topV :: topV :: topV :: topV :: topV :: topV :: topV :: topV :: topV :: topV :: topV :: topV :: topV :: topV :: topV :: topV :: topV :: topV :: topV :: topV :: topV :: topV :: topV :: topV :: topV :: topV :: topV :: topV :: topV :: topV :: topV :: topV :: topV :: topV :: topV :: topV :: topV :: topV :: topV :: topV :: topV :: topV :: topV :: topV :: topV :: topV :: topV :: topV :: topV :: topV :: topV :: topV :: topV :: topV :: topV :: topV :: []), [some ⟨.view, .ints (flat ps)⟩, some ⟨.view, .ints (flat es)⟩]⟩) := by kernel_rfl
set_option maxRecDepth 100000 in
theorem nl_cse : loopsOf c_cse = [] := by kernel_rfl
def inv_cse (ps es : List Pt) : Nat → Prop := fun i => i ≤ es.length
def me_cse (ps es : List Pt) : Nat → Nat := fun i => es.length - i
/-- A round of this loop. -/
def Round_cse (ps es : List Pt) : Prop := ∀ xx : Nat, inv_cse ps es xx → (bodyL Try.prog ECk 30 12 noL 1 c_cse k_cse 2 (s_cse ps es xx)).ok (RoundEnd 2 (s_cse ps es) (inv_cse ps es) (me_cse ps es) (re_cse ps es) (rs_cse ps es) xx) (fun _ _ => False)
def e_cse (s : St) (k : Ex → St → Tree) : Option Tree := match Nat.beq s.tmps.length 80, pickL s.tmps [0, 1, 5], s.mem with
  | true, [.slice (some ⟨0, 0, none⟩) n _, .slice (some ⟨1, 0, none⟩) r _, .int .i64 i0], [some ⟨.view, .ints xs⟩, some ⟨.view, .ints ys⟩] => some (needs [i0 = 0, xs.length = n * 2, ys.length = r * 2, n ≤ 20, r ≤ 20] (brT (enA n (ptsA r ys)) (k (.exit 0) ⟨(.slice (some ⟨0, 0, none⟩) n n :: .slice (some ⟨1, 0, none⟩) r r :: topV :: topV :: topV :: topV :: topV :: topV :: topV :: topV :: topV :: topV :: topV :: topV :: topV :: topV :: topV :: topV :: topV :: topV :: topV :: topV :: topV :: topV :: topV :: topV :: topV :: topV :: topV :: topV :: topV :: topV :: topV :: topV :: topV :: topV :: topV :: topV :: topV :: topV :: topV :: topV :: topV :: topV :: topV :: topV :: topV :: topV :: topV :: topV :: topV :: topV :: topV :: topV :: topV :: topV :: topV :: topV :: topV :: topV :: topV :: topV :: topV :: topV :: topV :: topV :: topV :: topV :: topV :: topV :: topV :: topV :: topV :: topV :: topV :: topV :: topV :: topV :: topV :: topV :: []), [some ⟨.view, .ints xs⟩, some ⟨.view, .ints ys⟩]⟩) (k .ret ⟨(topV :: topV :: topV :: topV :: .bool false :: topV :: topV :: topV :: topV :: topV :: topV :: topV :: topV :: topV :: topV :: topV :: topV :: topV :: topV :: topV :: topV :: topV :: topV :: topV :: topV :: topV :: topV :: topV :: topV :: topV :: topV :: topV :: topV :: topV :: topV :: topV :: topV :: topV :: topV :: topV :: topV :: topV :: topV :: topV :: topV :: topV :: topV :: topV :: topV :: topV :: topV :: topV :: topV :: topV :: topV :: topV :: topV :: topV :: topV :: topV :: topV :: topV :: topV :: topV :: topV :: topV :: topV :: topV :: topV :: topV :: topV :: topV :: topV :: topV :: topV :: topV :: topV :: topV :: topV :: topV :: []), [some ⟨.view, .ints xs⟩, some ⟨.view, .ints ys⟩]⟩)))
  | _, _, _ => none
set_option maxRecDepth 100000 in
theorem round_cse (ps es : List Pt) (h : ps.length ≤ 20) (hm : es.length ≤ 20) : Round_cse ps es := by
  intro i h1
  have h1 : i ≤ es.length := h1
  rw [tr_cse]
  have fe := flat_length es
  simp only [Int.toNat_natCast, Nat.zero_add, Nat.add_zero, flat_get0, flat_get1]
  refine brT_ok.2 ⟨fun hlt => ?_, fun hge => ?_⟩
  · have hlt := of_decide_eq_true hlt
    have hi : i < es.length := by omega
    have st : enA ps.length (es.drop i) = (enB ps.length (es.getD i (0, 0)) && enA ps.length (es.drop (i + 1))) := all_drop hi (0, 0) _
    have wl : IntKind.i64.wrap ((ps.length : Int) - 1) = ps.length - 1 := wr (by omega)
    rw [wsucc (n := es.length) hi (by omega), wl]
    generalize es.getD i (0, 0) = e at *
    have bad : enB ps.length e = false → enA ps.length (es.drop i) = false := fun hb => by rw [st, hb, Bool.false_and]
    have isB : enB ps.length e = true ↔ (0 ≤ e.1 ∧ e.1 < ps.length) ∧ (0 ≤ e.2 ∧ e.2 < ps.length) ∧ e.1 ≠ e.2 := by
      unfold enB evB
      simp only [Bool.and_eq_true, decide_eq_true_eq, Bool.not_eq_true', beq_eq_false_iff_ne, ne_eq]
      exact ⟨fun h => ⟨h.1.1, h.1.2, h.2⟩, fun h => ⟨⟨h.1, h.2.1⟩, h.2.2⟩⟩
    refine ⟨by omega, by omega, brT_ok.2 ⟨fun c1 => brT_ok.2 ⟨fun c2 => ?_, fun c2 => brT_ok.2 ⟨fun c3 => brT_ok.2 ⟨fun c4 => ?_, fun c4 => brT_ok.2 ⟨fun c5 => ?_, fun c5 => ?_⟩⟩, fun c3 => ?_⟩⟩, fun c1 => ?_⟩⟩
    · have b : enB ps.length e = false := by
        rw [Bool.eq_false_iff, ne_eq, isB]
        intro h
        simp only [Bool.not_eq_true', decide_eq_false_iff_not] at c2
        omega
      have e1 := bad b
      refine ⟨by simp only [re_cse, e1, cond_false], [], ?_⟩
      simp only [rs_cse, e1, cond_false]
      repeat' (first | exact True.intro | exact rfl | exact fun _ => rfl | refine And.intro ?_ ?_)
    · have b : enB ps.length e = false := by
        rw [Bool.eq_false_iff, ne_eq, isB]
        intro h
        simp only [Bool.not_eq_true', decide_eq_false_iff_not] at c4
        omega
      have e1 := bad b
      refine ⟨by simp only [re_cse, e1, cond_false], [], ?_⟩
      simp only [rs_cse, e1, cond_false]
      repeat' (first | exact True.intro | exact rfl | exact fun _ => rfl | refine And.intro ?_ ?_)
    · have b : enB ps.length e = false := by
        rw [Bool.eq_false_iff, ne_eq, isB]
        intro h
        exact h.2.2 (by simpa using c5)
      have e1 := bad b
      refine ⟨by simp only [re_cse, e1, cond_false], [], ?_⟩
      simp only [rs_cse, e1, cond_false]
      repeat' (first | exact True.intro | exact rfl | exact fun _ => rfl | refine And.intro ?_ ?_)
    · have b : enB ps.length e = true := by
        rw [isB]
        have g1 := of_decide_eq_true c1
        have g3 := of_decide_eq_true c3
        simp only [Bool.not_eq_false', decide_eq_true_eq] at c2 c4
        have g5 : ¬ e.1 = e.2 := by simpa using c5
        exact ⟨by omega, by omega, g5⟩
      rw [b, Bool.true_and] at st
      refine ⟨i + 1, [], ?_, ?_, by simp only [re_cse, st], by simp only [rs_cse, st], ?_⟩
      · show i + 1 ≤ es.length; omega
      · show es.length - (i + 1) < es.length - i; omega
      · repeat' (first | exact True.intro | exact rfl | exact fun _ => rfl | refine And.intro ?_ ?_)
    · have b : enB ps.length e = false := by
        rw [Bool.eq_false_iff, ne_eq, isB]
        intro h
        have := of_decide_eq_false c3
        omega
      have e1 := bad b
      refine ⟨by simp only [re_cse, e1, cond_false], [], ?_⟩
      simp only [rs_cse, e1, cond_false]
      repeat' (first | exact True.intro | exact rfl | exact fun _ => rfl | refine And.intro ?_ ?_)
    · have b : enB ps.length e = false := by
        rw [Bool.eq_false_iff, ne_eq, isB]
        intro h
        have := of_decide_eq_false c1
        omega
      have e1 := bad b
      refine ⟨by simp only [re_cse, e1, cond_false], [], ?_⟩
      simp only [rs_cse, e1, cond_false]
      repeat' (first | exact True.intro | exact rfl | exact fun _ => rfl | refine And.intro ?_ ?_)
  · have hge := of_decide_eq_false hge
    have e : enA ps.length (es.drop i) = true := by rw [List.drop_of_length_le (by omega)]; rfl
    refine ⟨by simp only [re_cse, e, cond_true], [], ?_⟩
    simp only [rs_cse, e, cond_true]
    repeat' (first | exact True.intro | exact rfl | exact fun _ => rfl | refine And.intro ?_ ?_)
set_option maxRecDepth 100000 in
theorem lg_cse : LoopE Try.prog e_cse c_cse := by
  intro s k t F H hlt ht
  unfold e_cse at hlt
  split at hlt
  rotate_left
  · cases hlt
  rename_i hlen hpick hmem
  obtain ⟨tmps, mem⟩ := s
  simp only at hlen hpick hmem
  subst hmem
  obtain rfl := Option.some.inj hlt
  obtain ⟨⟨rfl, h1, h2, h3, h4, _⟩, ht2⟩ := needs_ok ht
  clear ht hlt
  obtain ⟨ps, rfl, rfl⟩ := even_flat h1
  obtain ⟨es, rfl, rfl⟩ := even_flat h2
  rw [ptsA_flat] at ht2
  refine ⟨_, _, pick2k ht2, loop_run mixed ECk_ok (s_cse ps es) (inv_cse ps es) (me_cse ps es) (re_cse ps es) (rs_cse ps es) k_cse (fun _ => rfl) (noLoops nl_cse) (round_cse ps es h3 h4) (x := 0) (Nat.zero_le _) (π := []) rfl ?_⟩
  refine ⟨rfl, rfl, ?_, wvs_spread' [0, 1, 5] hlen rfl ?_⟩
  · repeat' (first | exact True.intro | exact rfl | exact wv_top _ _ | exact fun _ => rfl | assumption | exact Eq.symm (by assumption) | exact vI0 rfl | refine And.intro ?_ ?_)
  · rw [hpick]
    repeat' (first | exact True.intro | exact rfl | exact wv_top _ _ | exact fun _ => rfl | assumption | exact Eq.symm (by assumption) | exact vI0 rfl | refine And.intro ?_ ?_)
noncomputable def c_csk : Code := ((loopsOf (codeOf Try.f24))[2]?).getD .skip
def k_csk : Ex → List Nat := keeps [0, 1, 7, 8] [(4, [0, 1, 7])] [4]
def s_csk (ps es : List Pt) (i : Nat) : Nat → St := fun k0 => ⟨(.slice (some ⟨0, 0, none⟩) ps.length ps.length :: .slice (some ⟨1, 0, none⟩) es.length es.length :: topV :: topV :: topV :: topV :: topV :: .int .i64 i :: .int .i64 k0 :: topV :: topV :: topV :: topV :: topV :: topV :: topV :: topV :: topV :: topV :: topV :: topV :: topV :: topV :: topV :: topV :: topV :: topV :: topV :: topV :: topV :: topV :: topV :: topV :: topV :: topV :: topV :: topV :: topV :: topV :: topV :: topV :: topV :: topV :: topV :: topV :: topV :: topV :: topV :: topV :: topV :: topV :: topV :: topV :: topV :: topV :: topV :: topV :: topV :: topV :: topV :: topV :: topV :: topV :: topV :: topV :: topV :: topV :: topV :: topV :: topV :: topV :: topV :: topV :: topV :: topV :: topV :: topV :: topV :: topV :: topV :: []), [some ⟨.view, .ints (flat ps)⟩, some ⟨.view, .ints (flat es)⟩]⟩
def re_csk (ps es : List Pt) (i : Nat) : Nat → Ex := fun k0 => bif allQ (lkQ ps es i) k0 (i - k0) then .exit 4 else .ret
def rs_csk (ps es : List Pt) (i : Nat) : Nat → St := fun k0 => bif allQ (lkQ ps es i) k0 (i - k0) then ⟨(.slice (some ⟨0, 0, none⟩) ps.length ps.length :: .slice (some ⟨1, 0, none⟩) es.length es.length :: topV :: topV :: topV :: topV :: topV :: .int .i64 i :: topV :: topV :: topV :: topV :: topV :: topV :: topV :: topV :: topV :: topV :: topV :: topV :: topV :: topV :: topV :: topV :: topV :: topV :: topV :: topV :: topV :: topV :: topV :: topV :: topV :: topV :: topV :: topV :: topV :: topV :: topV :: topV :: topV :: topV :: topV :: topV :: topV :: topV :: topV :: topV :: topV :: topV :: topV :: topV :: topV :: topV :: topV :: topV :: topV :: topV :: topV :: topV :: topV :: topV :: topV :: topV :: topV :: topV :: topV :: topV :: topV :: topV :: topV :: topV :: topV :: topV :: topV :: topV :: topV :: topV :: topV :: topV :: []), [some ⟨.view, .ints (flat ps)⟩, some ⟨.view, .ints (flat es)⟩]⟩ else ⟨(topV :: topV :: topV :: topV :: .bool false :: topV :: topV :: topV :: topV :: topV :: topV :: topV :: topV :: topV :: topV :: topV :: topV :: topV :: topV :: topV :: topV :: topV :: topV :: topV :: topV :: topV :: topV :: topV :: topV :: topV :: topV :: topV :: topV :: topV :: topV :: topV :: topV :: topV :: topV :: topV :: topV :: topV :: topV :: topV :: topV :: topV :: topV :: topV :: topV :: topV :: topV :: topV :: topV :: topV :: topV :: topV :: topV :: topV :: topV :: topV :: topV :: topV :: topV :: topV :: topV :: topV :: topV :: topV :: topV :: topV :: topV :: topV :: topV :: topV :: topV :: topV :: topV :: topV :: topV :: topV :: []), [some ⟨.view, .ints (flat ps)⟩, some ⟨.view, .ints (flat es)⟩]⟩
set_option maxRecDepth 100000 in
theorem tr_csk (ps es : List Pt) (i : Nat) (k0 : Nat) : bodyL Try.prog ECk 30 12 noL 3 c_csk k_csk 2 (s_csk ps es i k0) = brT (decide ((↑k0 : Int) < (↑i : Int))) (.need (ptB ((flat ps).getD ((0 : Nat) + (↑i : Int).toNat * (2 : Nat)) (0 : Int)) ((flat ps).getD ((0 : Nat) + (↑i : Int).toNat * (2 : Nat) + (1 : Nat)) (0 : Int)) = true) (.need (ptB ((flat ps).getD ((0 : Nat) + (↑k0 : Int).toNat * (2 : Nat)) (0 : Int)) ((flat ps).getD ((0 : Nat) + (↑k0 : Int).toNat * (2 : Nat) + (1 : Nat)) (0 : Int)) = true) (.need (ps.length * (2 : Nat) ≤ (List.drop (0 : Nat) (flat ps)).length) (.need (es.length * (2 : Nat) ≤ (List.drop (0 : Nat) (flat es)).length) (.need (ps.length ≤ (20 : Nat)) (.need (es.length ≤ (20 : Nat)) (.need (allV (ptsA ps.length (List.drop (0 : Nat) (flat ps))) = true) (.need (evA ps.length (ptsA es.length (List.drop (0 : Nat) (flat es))) = true) (.need ((0 : Int) ≤ (↑i : Int) ∧ (↑i : Int) < (↑ps.length : Int)) (.need ((0 : Int) ≤ (↑i : Int) ∧ (↑i : Int) < (↑ps.length : Int)) (.need ((0 : Nat) + (↑i : Int).toNat * (2 : Nat) + (2 : Nat) ≤ (flat ps).length) (.need ((0 : Int) ≤ (↑k0 : Int) ∧ (↑k0 : Int) < (↑ps.length : Int)) (.need ((0 : Nat) + (↑k0 : Int).toNat * (2 : Nat) + (2 : Nat) ≤ (flat ps).length) (brT (!lkV (ptsA ps.length (List.drop 0 (flat ps))) (ptsA es.length (List.drop 0 (flat es))) (↑i : Int) (↑k0 : Int) (mhP ((flat ps).getD (0 + (↑i : Int).toNat * (2 : Nat)) 0, (flat ps).getD (0 + (↑i : Int).toNat * (2 : Nat) + 1) 0) ((flat ps).getD (0 + (↑k0 : Int).toNat * (2 : Nat)) 0, (flat ps).getD (0 + (↑k0 : Int).toNat * (2 : Nat) + 1) 0))) (.leaf .ret ⟨(topV :: topV :: topV :: topV :: .bool (false) :: topV :: topV :: topV :: topV :: topV :: topV :: topV :: topV :: topV :: topV :: topV :: topV :: topV :: topV :: topV :: topV :: topV :: topV :: topV :: topV :: topV :: topV :: topV :: topV :: topV :: topV :: topV :: topV :: topV :: topV :: topV :: topV :: topV :: topV :: topV :: topV :: topV :: topV :: topV :: topV :: topV :: topV :: topV :: topV :: topV :: topV :: topV :: topV :: topV :: topV :: topV :: topV :: topV :: topV :: topV :: topV :: topV :: topV :: topV :: topV :: topV :: topV :: topV :: topV :: topV :: topV :: topV :: topV :: topV :: topV :: topV :: topV :: topV :: topV :: topV :: []), [some ⟨.view, .ints (flat ps)⟩, some ⟨.view, .ints (flat es)⟩]⟩) (.leaf .normal ⟨(.slice (some ⟨0, 0, none⟩) (ps.length) (ps.length) :: .slice (some ⟨1, 0, none⟩) (es.length) (es.length) :: topV :: topV :: topV :: topV :: topV :: .int .i64 ((↑i : Int)) :: .int .i64 (IntKind.i64.wrap ((↑k0 : Int) + 1)) :: topV :: topV :: topV :: topV :: topV :: topV :: topV :: topV :: topV :: topV :: topV :: topV :: topV :: topV :: topV :: topV :: topV :: topV :: topV :: topV :: topV :: topV :: topV :: topV :: topV :: topV :: topV :: topV :: topV :: topV :: topV :: topV :: topV :: topV :: topV :: topV :: topV :: topV :: topV :: topV :: topV :: topV :: topV :: topV :: topV :: topV :: topV :: topV :: topV :: topV :: topV :: topV :: topV :: topV :: topV :: topV :: topV :: topV :: topV :: topV :: topV :: topV :: topV :: topV :: topV :: topV :: topV :: topV :: topV :: topV :: topV :: []), [some ⟨.view, .ints (flat ps)⟩, some ⟨.view, .ints (flat es)⟩]⟩))))))))))))))) (.leaf (.exit 4) ⟨(.slice (some ⟨0, 0, none⟩) (ps.length) (ps.length) :: .slice (some ⟨1, 0, none⟩) (es.length) (es.length) :: topV :: topV :: topV :: topV :: topV :: .int .i64 ((↑i : Int)) :: topV :: topV :: topV :: topV :: topV :: topV :: topV :: topV :: topV :: topV :: topV :: topV :: topV :: topV :: topV :: topV :: topV :: topV :: topV :: topV :: topV :: topV :: topV :: topV :: topV :: topV :: topV :: topV :: topV :: topV :: topV :: topV :: topV :: topV :: topV :: topV :: topV :: topV :: topV :: topV :: topV :: topV :: topV :: topV :: topV :: topV :: topV :: topV :: topV :: topV :: topV :: topV :: topV :: topV :: topV :: topV :: topV :: topV :: topV :: topV :: topV :: topV :: topV :: topV :: topV :: topV :: topV :: topV :: topV :: topV :: topV :: topV :: []), [some ⟨.view, .ints (flat ps)⟩, some ⟨.view, .ints (flat es)⟩]⟩) := by kernel_rfl
set_option maxRecDepth 100000 in
theorem nl_csk : loopsOf c_csk = [] := by kernel_rfl
def inv_csk (ps es : List Pt) (i : Nat) : Nat → Prop := fun k0 => k0 ≤ i
def me_csk (ps es : List Pt) (i : Nat) : Nat → Nat := fun k0 => i - k0
/-- A round of this loop. -/
def Round_csk (ps es : List Pt) (i : Nat) : Prop := ∀ xx : Nat, inv_csk ps es i xx → (bodyL Try.prog ECk 30 12 noL 3 c_csk k_csk 2 (s_csk ps es i xx)).ok (RoundEnd 2 (s_csk ps es i) (inv_csk ps es i) (me_csk ps es i) (re_csk ps es i) (rs_csk ps es i) xx) (fun _ _ => False)
def e_csk (s : St) (k : Ex → St → Tree) : Option Tree := match Nat.beq s.tmps.length 80, pickL s.tmps [0, 1, 7, 8], s.mem with
  | true, [.slice (some ⟨0, 0, none⟩) n _, .slice (some ⟨1, 0, none⟩) r _, .int .i64 i0, .int .i64 kk], [some ⟨.view, .ints xs⟩, some ⟨.view, .ints ys⟩] => some (needs [kk = 0, xs.length = n * 2, ys.length = r * 2, n ≤ 20, r ≤ 20, allV (ptsA n xs) = true, evA n (ptsA r ys) = true, 0 ≤ i0 ∧ i0 < n] (brT (allQ (lkQ (ptsA n xs) (ptsA r ys) i0.toNat) 0 i0.toNat) (k (.exit 4) ⟨(.slice (some ⟨0, 0, none⟩) n n :: .slice (some ⟨1, 0, none⟩) r r :: topV :: topV :: topV :: topV :: topV :: .int .i64 i0 :: topV :: topV :: topV :: topV :: topV :: topV :: topV :: topV :: topV :: topV :: topV :: topV :: topV :: topV :: topV :: topV :: topV :: topV :: topV :: topV :: topV :: topV :: topV :: topV :: topV :: topV :: topV :: topV :: topV :: topV :: topV :: topV :: topV :: topV :: topV :: topV :: topV :: topV :: topV :: topV :: topV :: topV :: topV :: topV :: topV :: topV :: topV :: topV :: topV :: topV :: topV :: topV :: topV :: topV :: topV :: topV :: topV :: topV :: topV :: topV :: topV :: topV :: topV :: topV :: topV :: topV :: topV :: topV :: topV :: topV :: topV :: topV :: []), [some ⟨.view, .ints xs⟩, some ⟨.view, .ints ys⟩]⟩) (k .ret ⟨(topV :: topV :: topV :: topV :: .bool false :: topV :: topV :: topV :: topV :: topV :: topV :: topV :: topV :: topV :: topV :: topV :: topV :: topV :: topV :: topV :: topV :: topV :: topV :: topV :: topV :: topV :: topV :: topV :: topV :: topV :: topV :: topV :: topV :: topV :: topV :: topV :: topV :: topV :: topV :: topV :: topV :: topV :: topV :: topV :: topV :: topV :: topV :: topV :: topV :: topV :: topV :: topV :: topV :: topV :: topV :: topV :: topV :: topV :: topV :: topV :: topV :: topV :: topV :: topV :: topV :: topV :: topV :: topV :: topV :: topV :: topV :: topV :: topV :: topV :: topV :: topV :: topV :: topV :: topV :: topV :: []), [some ⟨.view, .ints xs⟩, some ⟨.view, .ints ys⟩]⟩)))
  | _, _, _ => none
set_option maxRecDepth 100000 in
theorem round_csk (ps es : List Pt) (i : Nat) (h : ps.length ≤ 20) (hm : es.length ≤ 20) (hv : allV ps = true) (he : evA ps.length es = true) (hi : i < ps.length) : Round_csk ps es i := by
  intro k0 h1
  have h1 : k0 ≤ i := h1
  rw [tr_csk]
  have fe := flat_length es
  have fp := flat_length ps
  have P : ∀ k, k < ps.length → ptB (ps.getD k (0, 0)).1 (ps.getD k (0, 0)).2 = true := fun k hk => List.all_eq_true.1 hv (ps.getD k (0, 0)) (by simp [hk])
  simp only [Int.toNat_natCast, Nat.zero_add, Nat.add_zero, List.drop_zero, ptsA_flat, flat_get0, flat_get1]
  refine brT_ok.2 ⟨fun hlt => ?_, fun hge => ?_⟩
  · have hlt := of_decide_eq_true hlt
    have hk : k0 < i := by omega
    have st := allQ_st (lkQ ps es i) hk
    rw [wsucc (n := i) hk (by omega)]
    refine ⟨P _ (by omega), P _ (by omega), Nat.le_of_eq fp.symm, Nat.le_of_eq fe.symm, h, hm, hv, he, by omega, by omega, by omega, by omega, by omega, brT_ok.2 ⟨fun c => ?_, fun c => ?_⟩⟩
    · have c : lkQ ps es i k0 = false := by
        have c : (!lkQ ps es i k0) = true := c
        simpa using c
      rw [c, Bool.false_and] at st
      refine ⟨by simp only [re_csk, st, cond_false], [], ?_⟩
      simp only [rs_csk, st, cond_false]
      repeat' (first | exact True.intro | exact rfl | exact fun _ => rfl | refine And.intro ?_ ?_)
    · have c : lkQ ps es i k0 = true := by
        have c : (!lkQ ps es i k0) = false := c
        simpa using c
      rw [c, Bool.true_and] at st
      refine ⟨k0 + 1, [], ?_, ?_, by simp only [re_csk, st], by simp only [rs_csk, st], ?_⟩
      · show k0 + 1 ≤ i; omega
      · show i - (k0 + 1) < i - k0; omega
      · repeat' (first | exact True.intro | exact rfl | exact fun _ => rfl | refine And.intro ?_ ?_)
  · have hge := of_decide_eq_false hge
    have e : allQ (lkQ ps es i) k0 (i - k0) = true := allQ_en _ (by omega)
    refine ⟨by simp only [re_csk, e, cond_true], [], ?_⟩
    simp only [rs_csk, e, cond_true]
    repeat' (first | exact True.intro | exact rfl | exact fun _ => rfl | refine And.intro ?_ ?_)
set_option maxRecDepth 100000 in
theorem lg_csk : LoopE Try.prog e_csk c_csk := by
  intro s k t F H hlt ht
  unfold e_csk at hlt
  split at hlt
  rotate_left
  · cases hlt
  rename_i hlen hpick hmem
  obtain ⟨tmps, mem⟩ := s
  simp only at hlen hpick hmem
  subst hmem
  obtain rfl := Option.some.inj hlt
  obtain ⟨⟨rfl, h1, h2, h3, h4, h5, h6, h7, _⟩, ht2⟩ := needs_ok ht
  clear ht hlt
  obtain ⟨ps, rfl, rfl⟩ := even_flat h1
  obtain ⟨es, rfl, rfl⟩ := even_flat h2
  obtain ⟨i, ei⟩ := Int.eq_ofNat_of_zero_le h7.1
  subst ei
  rw [ptsA_flat, ptsA_flat] at ht2
  rw [ptsA_flat] at h5 h6
  simp only [Int.toNat_natCast] at ht2
  refine ⟨_, _, pick2k ht2, loop_run mixed ECk_ok (s_csk ps es i) (inv_csk ps es i) (me_csk ps es i) (re_csk ps es i) (rs_csk ps es i) k_csk (fun _ => rfl) (noLoops nl_csk) (round_csk ps es i h3 h4 h5 h6 (by omega)) (x := 0) (Nat.zero_le _) (π := []) rfl ?_⟩
  refine ⟨rfl, rfl, ?_, wvs_spread' [0, 1, 7, 8] hlen rfl ?_⟩
  · repeat' (first | exact True.intro | exact rfl | exact wv_top _ _ | exact fun _ => rfl | assumption | exact Eq.symm (by assumption) | exact vI0 rfl | refine And.intro ?_ ?_)
  · rw [hpick]
    repeat' (first | exact True.intro | exact rfl | exact wv_top _ _ | exact fun _ => rfl | assumption | exact Eq.symm (by assumption) | exact vI0 rfl | refine And.intro ?_ ?_)
def ltCk : LT := fun j s k => match j with
  | 2 => e_csk s k
  | _ => none
noncomputable def c_cso : Code := ((loopsOf (codeOf Try.f24))[1]?).getD .skip
def k_cso : Ex → List Nat := keeps [0, 1, 7] [(2, [])] [4]
def s_cso (ps es : List Pt) : Nat → St := fun i => ⟨(.slice (some ⟨0, 0, none⟩) ps.length ps.length :: .slice (some ⟨1, 0, none⟩) es.length es.length :: topV :: topV :: topV :: topV :: topV :: .int .i64 i :: topV :: topV :: topV :: topV :: topV :: topV :: topV :: topV :: topV :: topV :: topV :: topV :: topV :: topV :: topV :: topV :: topV :: topV :: topV :: topV :: topV :: topV :: topV :: topV :: topV :: topV :: topV :: topV :: topV :: topV :: topV :: topV :: topV :: topV :: topV :: topV :: topV :: topV :: topV :: topV :: topV :: topV :: topV :: topV :: topV :: topV :: topV :: topV :: topV :: topV :: topV :: topV :: topV :: topV :: topV :: topV :: topV :: topV :: topV :: topV :: topV :: topV :: topV :: topV :: topV :: topV :: topV :: topV :: topV :: topV :: topV :: topV :: []), [some ⟨.view, .ints (flat ps)⟩, some ⟨.view, .ints (flat es)⟩]⟩
def re_cso (ps es : List Pt) : Nat → Ex := fun i => bif allQ (lkR ps es) i (ps.length - i) then .exit 2 else .ret
def rs_cso (ps es : List Pt) : Nat → St := fun i => bif allQ (lkR ps es) i (ps.length - i) then ⟨(topV :: topV :: topV :: topV :: topV :: topV :: topV :: topV :: topV :: topV :: topV :: topV :: topV :: topV :: topV :: topV :: topV :: topV :: topV :: topV :: topV :: topV :: topV :: topV :: topV :: topV :: topV :: topV :: topV :: topV :: topV :: topV :: topV :: topV :: topV :: topV :: topV :: topV :: topV :: topV :: topV :: topV :: topV :: topV :: topV :: topV :: topV :: topV :: topV :: topV :: topV :: topV :: topV :: topV :: topV :: topV :: topV :: topV :: topV :: topV :: topV :: topV :: topV :: topV :: topV :: topV :: topV :: topV :: topV :: topV :: topV :: topV :: topV :: topV :: topV :: topV :: topV :: topV :: topV :: topV :: []), [some ⟨.view, .ints (flat ps)⟩, some ⟨.view, .ints (flat es)⟩]⟩ else ⟨(topV :: topV :: topV :: topV :: .bool false :: topV :: topV :: topV :: topV :: topV :: topV :: topV :: topV :: topV :: topV :: topV :: topV :: topV :: topV :: topV :: topV :: topV :: topV :: topV :: topV :: topV :: topV :: topV :: topV :: topV :: topV :: topV :: topV :: topV :: topV :: topV :: topV :: topV :: topV :: topV :: topV :: topV :: topV :: topV :: topV :: topV :: topV :: topV :: topV :: topV :: topV :: topV :: topV :: topV :: topV :: topV :: topV :: topV :: topV :: topV :: topV :: topV :: topV :: topV :: topV :: topV :: topV :: topV :: topV :: topV :: topV :: topV :: topV :: topV :: topV :: topV :: topV :: topV :: topV :: topV :: []), [some ⟨.view, .ints (flat ps)⟩, some ⟨.view, .ints (flat es)⟩]⟩
set_option maxRecDepth 100000 in
theorem tr_cso (ps es : List Pt) (i : Nat) : bodyL Try.prog ECk 30 12 ltCk 2 c_cso k_cso 2 (s_cso ps es i) = brT (decide ((↑i : Int) < (↑ps.length : Int))) (.need ((0 : Int) = (0 : Int)) (.need ((flat ps).length = ps.length * (2 : Nat)) (.need ((flat es).length = es.length * (2 : Nat)) (.need (ps.length ≤ (20 : Nat)) (.need (es.length ≤ (20 : Nat)) (.need (allV (ptsA ps.length (flat ps)) = true) (.need (evA ps.length (ptsA es.length (flat es)) = true) (.need ((0 : Int) ≤ (↑i : Int) ∧ (↑i : Int) < (↑ps.length : Int)) (brT (allQ (lkQ (ptsA ps.length (flat ps)) (ptsA es.length (flat es)) (↑i : Int).toNat) 0 (↑i : Int).toNat) (.leaf .normal ⟨(.slice (some ⟨0, 0, none⟩) (ps.length) (ps.length) :: .slice (some ⟨1, 0, none⟩) (es.length) (es.length) :: topV :: topV :: topV :: topV :: topV :: .int .i64 (IntKind.i64.wrap ((↑i : Int) + 1)) :: topV :: topV :: topV :: topV :: topV :: topV :: topV :: topV :: topV :: topV :: topV :: topV :: topV :: topV :: topV :: topV :: topV :: topV :: topV :: topV :: topV :: topV :: topV :: topV :: topV :: topV :: topV :: topV :: topV :: topV :: topV :: topV :: topV :: topV :: topV :: topV :: topV :: topV :: topV :: topV :: topV :: topV :: topV :: topV :: topV :: topV :: topV :: topV :: topV :: topV :: topV :: topV :: topV :: topV :: topV :: topV :: topV :: topV :: topV :: topV :: topV :: topV :: topV :: topV :: topV :: topV :: topV :: topV :: topV :: topV :: topV :: topV :: []), [some ⟨.view, .ints (flat ps)⟩, some ⟨.view, .ints (flat es)⟩]⟩) (.leaf .ret ⟨(topV :: topV :: topV :: topV :: .bool (false) :: topV :: topV :: topV :: topV :: topV :: topV :: topV :: topV :: topV :: topV :: topV :: topV :: topV :: topV :: topV :: topV :: topV :: topV :: topV :: topV :: topV :: topV :: topV :: topV :: topV :: topV :: topV :: topV :: topV :: topV :: topV :: topV :: topV :: topV :: topV :: topV :: topV :: topV :: topV :: topV :: topV :: topV :: topV :: topV :: topV :: topV :: topV :: topV :: topV :: topV :: topV :: topV :: topV :: topV :: topV :: topV :: topV :: topV :: topV :: topV :: topV :: topV :: topV :: topV :: topV :: topV :: topV :: topV :: topV :: topV :: topV :: topV :: topV :: topV :: topV :: []), [some ⟨.view, .ints (flat ps)⟩, some ⟨.view, .ints (flat es)⟩]⟩)))))))))) (.leaf (.exit 2) ⟨(topV :: topV :: topV :: topV :: topV :: topV :: topV :: topV :: topV :: topV :: topV :: topV :: topV :: topV :: topV :: topV :: topV :: topV :: topV :: topV :: topV :: topV :: topV :: topV :: topV :: topV :: topV :: topV :: topV :: topV :: topV :: topV :: topV :: topV :: topV :: topV :: topV :: topV :: topV :: topV :: topV :: topV :: topV :: topV :: topV :: topV :: topV :: topV :: topV :: topV :: topV :: topV :: topV :: topV :: topV :: topV :: topV :: topV :: topV :: topV :: topV :: topV :: topV :: topV :: topV :: topV :: topV :: topV :: topV :: topV :: topV :: topV :: topV :: topV :: topV :: topV :: topV :: topV :: topV :: topV :: []), [some ⟨.view, .ints (flat ps)⟩, some ⟨.view, .ints (flat es)⟩]⟩) := by kernel_rfl
def inv_cso (ps es : List Pt) : Nat → Prop := fun i => i ≤ ps.length
def me_cso (ps es : List Pt) : Nat → Nat := fun i => ps.length - i
/-- A round of this loop. -/
def Round_cso (ps es : List Pt) : Prop := ∀ xx : Nat, inv_cso ps es xx → (bodyL Try.prog ECk 30 12 ltCk 2 c_cso k_cso 2 (s_cso ps es xx)).ok (RoundEnd 2 (s_cso ps es) (inv_cso ps es) (me_cso ps es) (re_cso ps es) (rs_cso ps es) xx) (fun _ _ => False)
def e_cso (s : St) (k : Ex → St → Tree) : Option Tree := match Nat.beq s.tmps.length 80, pickL s.tmps [0, 1, 7], s.mem with
  | true, [.slice (some ⟨0, 0, none⟩) n _, .slice (some ⟨1, 0, none⟩) r _, .int .i64 i0], [some ⟨.view, .ints xs⟩, some ⟨.view, .ints ys⟩] => some (needs [i0 = 0, xs.length = n * 2, ys.length = r * 2, n ≤ 20, r ≤ 20, allV (ptsA n xs) = true, evA n (ptsA r ys) = true] (brT (allQ (lkR (ptsA n xs) (ptsA r ys)) 0 n) (k (.exit 2) ⟨(topV :: topV :: topV :: topV :: topV :: topV :: topV :: topV :: topV :: topV :: topV :: topV :: topV :: topV :: topV :: topV :: topV :: topV :: topV :: topV :: topV :: topV :: topV :: topV :: topV :: topV :: topV :: topV :: topV :: topV :: topV :: topV :: topV :: topV :: topV :: topV :: topV :: topV :: topV :: topV :: topV :: topV :: topV :: topV :: topV :: topV :: topV :: topV :: topV :: topV :: topV :: topV :: topV :: topV :: topV :: topV :: topV :: topV :: topV :: topV :: topV :: topV :: topV :: topV :: topV :: topV :: topV :: topV :: topV :: topV :: topV :: topV :: topV :: topV :: topV :: topV :: topV :: topV :: topV :: topV :: []), [some ⟨.view, .ints xs⟩, some ⟨.view, .ints ys⟩]⟩) (k .ret ⟨(topV :: topV :: topV :: topV :: .bool false :: topV :: topV :: topV :: topV :: topV :: topV :: topV :: topV :: topV :: topV :: topV :: topV :: topV :: topV :: topV :: topV :: topV :: topV :: topV :: topV :: topV :: topV :: topV :: topV :: topV :: topV :: topV :: topV :: topV :: topV :: topV :: topV :: topV :: topV :: topV :: topV :: topV :: topV :: topV :: topV :: topV :: topV :: topV :: topV :: topV :: topV :: topV :: topV :: topV :: topV :: topV :: topV :: topV :: topV :: topV :: topV :: topV :: topV :: topV :: topV :: topV :: topV :: topV :: topV :: topV :: topV :: topV :: topV :: topV :: topV :: topV :: topV :: topV :: topV :: topV :: []), [some ⟨.view, .ints xs⟩, some ⟨.view, .ints ys⟩]⟩)))
  | _, _, _ => none
set_option maxRecDepth 100000 in
theorem in_cso : loopsOf c_cso = [c_csk] := by kernel_rfl
theorem ltCk_good : LoopsGood Try.prog ltCk 2 c_cso := by
  intro i d hd s k t F H hlt ht
  rw [in_cso] at hd
  cases i with
  | zero =>
    obtain rfl : c_csk = d := by simpa using hd
    exact lg_csk s k t F H hlt ht
  | succ i => simp at hd
set_option maxRecDepth 100000 in
theorem round_cso (ps es : List Pt) (h : ps.length ≤ 20) (hm : es.length ≤ 20) (hv : allV ps = true) (he : evA ps.length es = true) : Round_cso ps es := by
  intro i h1
  have h1 : i ≤ ps.length := h1
  rw [tr_cso]
  have fe := flat_length es
  have fp := flat_length ps
  simp only [Int.toNat_natCast, Nat.zero_add, Nat.add_zero, List.drop_zero, ptsA_flat]
  refine brT_ok.2 ⟨fun hlt => ?_, fun hge => ?_⟩
  · have hlt := of_decide_eq_true hlt
    have hi : i < ps.length := by omega
    have st := allQ_st (lkR ps es) hi
    rw [wsucc (n := ps.length) hi (by omega)]
    refine ⟨True.intro, by omega, by omega, h, hm, hv, he, by omega, brT_ok.2 ⟨fun c => ?_, fun c => ?_⟩⟩
    · have c : lkR ps es i = true := c
      rw [c, Bool.true_and] at st
      refine ⟨i + 1, [], ?_, ?_, by simp only [re_cso, st], by simp only [rs_cso, st], ?_⟩
      · show i + 1 ≤ ps.length; omega
      · show ps.length - (i + 1) < ps.length - i; omega
      · repeat' (first | exact True.intro | exact rfl | exact fun _ => rfl | refine And.intro ?_ ?_)
    · have c : lkR ps es i = false := c
      rw [c, Bool.false_and] at st
      refine ⟨by simp only [re_cso, st, cond_false], [], ?_⟩
      simp only [rs_cso, st, cond_false]
      repeat' (first | exact True.intro | exact rfl | exact fun _ => rfl | refine And.intro ?_ ?_)
  · have hge := of_decide_eq_false hge
    have e : allQ (lkR ps es) i (ps.length - i) = true := allQ_en _ (by omega)
    refine ⟨by simp only [re_cso, e, cond_true], [], ?_⟩
    simp only [rs_cso, e, cond_true]
    repeat' (first | exact True.intro | exact rfl | exact fun _ => rfl | refine And.intro ?_ ?_)
set_option maxRecDepth 100000 in
theorem lg_cso : LoopE Try.prog e_cso c_cso := by
  intro s k t F H hlt ht
  unfold e_cso at hlt
  split at hlt
  rotate_left
  · cases hlt
  rename_i hlen hpick hmem
  obtain ⟨tmps, mem⟩ := s
  simp only at hlen hpick hmem
  subst hmem
  obtain rfl := Option.some.inj hlt
  obtain ⟨⟨rfl, h1, h2, h3, h4, h5, h6, _⟩, ht2⟩ := needs_ok ht
  clear ht hlt
  obtain ⟨ps, rfl, rfl⟩ := even_flat h1
  obtain ⟨es, rfl, rfl⟩ := even_flat h2
  rw [ptsA_flat, ptsA_flat] at ht2
  rw [ptsA_flat] at h5 h6
  refine ⟨_, _, pick2k ht2, loop_run mixed ECk_ok (s_cso ps es) (inv_cso ps es) (me_cso ps es) (re_cso ps es) (rs_cso ps es) k_cso (fun _ => rfl) ltCk_good (round_cso ps es h3 h4 h5 h6) (x := 0) (Nat.zero_le _) (π := []) rfl ?_⟩
  refine ⟨rfl, rfl, ?_, wvs_spread' [0, 1, 7] hlen rfl ?_⟩
  · repeat' (first | exact True.intro | exact rfl | exact wv_top _ _ | exact fun _ => rfl | assumption | exact Eq.symm (by assumption) | exact vI0 rfl | refine And.intro ?_ ?_)
  · rw [hpick]
    repeat' (first | exact True.intro | exact rfl | exact wv_top _ _ | exact fun _ => rfl | assumption | exact Eq.symm (by assumption) | exact vI0 rfl | refine And.intro ?_ ?_)
def ltC2 : LT := fun j s k => match j with
  | 0 => e_cse s k
  | 1 => e_cso s k
  | _ => none
set_option maxRecDepth 100000 in
theorem in_C2 : loopsOf (codeOf Try.f24) = [c_cse, c_cso, c_csk] := by kernel_rfl
theorem ltC2_good : LoopsGood Try.prog ltC2 0 (codeOf Try.f24) := by
  intro i d hd s k t F H hlt ht
  rw [in_C2] at hd
  match i with
  | 0 =>
    obtain rfl : c_cse = d := by simpa using hd
    exact lg_cse s k t F H hlt ht
  | 1 =>
    obtain rfl : c_cso = d := by simpa using hd
    exact lg_cso s k t F H hlt ht
  | i + 2 =>
    have : ltC2 (0 + (i + 2)) s k = none := by
      rw [show 0 + (i + 2) = i + 2 by omega]
      rfl
    rw [this] at hlt
    cases hlt
theorem Lr_cs2 {fn : Func} (hf : Try.prog.funcs[24]? = some fn) : LoopsGood Try.prog ltC2 0 (codeOf fn) := by
  obtain rfl := fn_is Try.func24 hf
  exact ltC2_good
def LC2 : FuncId → LT := fun f => match f with
  | 24 => ltC2
  | _ => noL
def EC2 : Env := mkE TCk (fun _ _ => none) LC2
theorem EC2_ok : EnvOk Try.prog EC2 := mkEOk TCk_ok (fun _ _ _ _ _ h => (by cases h)) (by
  intro f fn hf
  unfold LC2
  split
  all_goals first | with_reducible exact Lr_cs2 hf | exact noL_good)
set_option maxRecDepth 100000 in
theorem tr_sCs (ps es : List Pt) : bodyV Try.prog EC2 30 12 24 [.row ps.length (.ints (flat ps)), .row es.length (.ints (flat es))] = .need (ps.length * (2 : Nat) ≤ (List.drop (0 : Nat) (flat ps)).length) (.need (ps.length ≤ (1000000000 : Nat)) (brT (!okL (ptsA ps.length (List.drop 0 (flat ps)))) (.fin (.bool (false)) []) (brT (!(↑es.length : Int) == if IntKind.i64.wrap ((↑ps.length : Int) - 1) < 0 then 0 else IntKind.i64.wrap ((↑ps.length : Int) - 1)) (.fin (.bool (false)) []) (.need ((0 : Int) = (0 : Int)) (.need ((flat ps).length = ps.length * (2 : Nat)) (.need ((flat es).length = es.length * (2 : Nat)) (.need (ps.length ≤ (20 : Nat)) (.need (es.length ≤ (20 : Nat)) (brT (enA ps.length (ptsA es.length (flat es))) (.need ((0 : Int) = (0 : Int)) (.need ((flat ps).length = ps.length * (2 : Nat)) (.need ((flat es).length = es.length * (2 : Nat)) (.need (ps.length ≤ (20 : Nat)) (.need (es.length ≤ (20 : Nat)) (.need (allV (ptsA ps.length (flat ps)) = true) (.need (evA ps.length (ptsA es.length (flat es)) = true) (brT (allQ (lkR (ptsA ps.length (flat ps)) (ptsA es.length (flat es))) 0 ps.length) (.fin (.bool (true)) []) (.fin (.bool (false)) []))))))))) (.fin (.bool (false)) [])))))))))) := by kernel_rfl
/-- What CheckSpanning answers, the model's way. -/
def csS (ps es : List Pt) : Bool := okL ps && (decide (es.length = ps.length - 1) && (enA ps.length es && allQ (lkR ps es) 0 ps.length))
theorem enA_ev {n : Nat} {es : List Pt} (h : enA n es = true) : evA n es = true := List.all_eq_true.2 fun e he => by
  have := List.all_eq_true.1 h e he
  unfold enB at this
  simp only [Bool.and_eq_true] at this
  exact this.1
set_option maxRecDepth 100000 in
theorem res_sCs (ps es : List Pt) (h : Big ps) : Res Try.prog 24 [.row ps.length (.ints (flat ps)), .row es.length (.ints (flat es))] (.bool (csS ps es)) := by
  refine bodyV_res mixed EC2_ok (m := 30) (n := 12) rfl ?_
  rw [tr_sCs]
  have fe := flat_length es
  have fp := flat_length ps
  unfold Big at h
  simp only [List.drop_zero, ptsA_flat, fp, fe]
  unfold csS
  refine ⟨Nat.le_refl _, h, ?_⟩
  rcases ho : okL ps with _ | _
  · exact rfl
  have hh := ho
  unfold okL at hh
  simp only [Bool.and_eq_true, decide_eq_true_eq] at hh
  obtain ⟨hv, c⟩ := hh
  simp only [Bool.not_true, brT_f, Bool.true_and]
  rw [len_max _ (by omega)]
  by_cases hl : es.length = ps.length - 1
  rotate_left
  · have e : ((es.length : Int) == ((ps.length - 1 : Nat) : Int)) = false := by simp; omega
    rw [e, decide_eq_false hl]
    exact rfl
  have e : ((es.length : Int) == ((ps.length - 1 : Nat) : Int)) = true := by simp; omega
  rw [e, decide_eq_true hl]
  simp only [Bool.not_true, brT_f, Bool.true_and, Tree.ok]
  refine ⟨True.intro, True.intro, True.intro, c, by omega, ?_⟩
  rcases hn : enA ps.length es with _ | _
  · exact rfl
  simp only [brT_t, Bool.true_and, Tree.ok]
  refine ⟨True.intro, True.intro, True.intro, c, by omega, hv, enA_ev hn, ?_⟩
  cases allQ (lkR ps es) 0 ps.length <;> exact rfl
end Go.Proofs.Ytnlciknmpjikgaa
