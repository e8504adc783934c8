/-
  Texts that the proof needs, merged. Written by an AI agent.
-/
import Derived.Orders
import Derived.Below
import Derived.OrdersIn
import Derived.Deep.LoopGhost
import Derived.WalkKit
import Derived.Laws.CopyRow
import Derived.Laws.AppendOwn
import Derived.Laws.Slices
import Derived.Laws.MakeOwn
import Derived.Test.YtolodncpegajkaaRows
import Derived.ProofKit
import Derived.OpenShut
import Derived.Carry
import Derived.IntWalk
import Derived.Test.YtolodncpegajkaaProg
import Derived.WalkSpells
import Derived.WalkLawsBesides
import Derived.Lib.Hide
import Derived.Deep.QuietTactic
import Derived.BigQuiet
import Derived.KernelRfl
import Derived.Deep.RegionHeld3
import Derived.LoopTactic
import Derived.Laws.StructEq
import Derived.Laws.Tables
import Derived.RangeFuncNested
import Derived.RangeFuncLeaves
import Derived.Deep.Slices
import Derived.Deep.Fields
import Derived.ChangeSame
import Derived.Deep.DeepCutAuto
import Derived.Shelf.SlSortCmp.WholeK
import Derived.Sort.Grow
import Derived.Shelf.SlSortCmp.NoneTotal
import Derived.Test.YtolodncpegajkaaZIsDrawing9
namespace Go.Proofs.Ytolodncpegajkaa
set_option linter.all false
open Go.RowKit
/-- The place of a point among others in order. -/
def kQ (p : Q4) : List Q4 → Nat
  | [] => 0
  | q :: r => if qLt q p then kQ p r + 1 else 0
/-- A point put in its place, unless it is there. -/
def inQ (p : Q4) : List Q4 → List Q4
  | [] => [p]
  | q :: r => if qLt q p then q :: inQ p r else if q = p then q :: r else p :: q :: r
theorem kQ_le (p : Q4) : ∀ ps : List Q4, kQ p ps ≤ ps.length
  | [] => Nat.le_refl _
  | q :: r => by
    have := kQ_le p r
    simp only [kQ, List.length_cons]
    split <;> omega
theorem inQ_is (p : Q4) : ∀ ps : List Q4, inQ p ps = if kQ p ps < ps.length ∧ ps.getD (kQ p ps) z4 = p then ps else ps.take (kQ p ps) ++ (p :: ps.drop (kQ p ps))
  | [] => by simp [inQ, kQ]
  | q :: r => by
    have ih := inQ_is p r
    simp only [inQ, kQ]
    split
    · rw [ih]
      simp only [List.length_cons, Nat.add_lt_add_iff_right, List.getD_cons_succ, List.take_succ_cons, List.drop_succ_cons, List.cons_append]
      split <;> rfl
    · simp
theorem inQ_mem (p : Q4) : ∀ (ps : List Q4) (z : Q4), z ∈ inQ p ps ↔ z ∈ ps ∨ z = p
  | [], z => by simp [inQ]
  | q :: r, z => by
    have ih := inQ_mem p r z
    simp only [inQ]
    split
    · simp only [List.mem_cons, ih]
      constructor
      · rintro (h | h | h) <;> simp [h]
      · rintro ((h | h) | h) <;> simp [h]
    · split
      · rename_i h1 h2
        subst h2
        simp only [List.mem_cons]
        constructor
        · intro h; exact .inl h
        · rintro (h | h)
          · exact h
          · exact .inl h
      · simp only [List.mem_cons]
        constructor
        · rintro (h | h | h) <;> simp [h]
        · rintro ((h | h) | h) <;> simp [h]
def pCm4 : List DArg → Option (Value × List Prop)
  | [.v (.agg ⟨[.int .i64 a, .int .i64 b]⟩), .v (.agg ⟨[.int .i64 c, .int .i64 d]⟩)] => some (iv (sgn (a * d - c * b)), [ratB a b = true, ratB c d = true])
  | _ => none
theorem pCm4_ok {ds : List DArg} {v : Value} {C : List Prop} (h : pCm4 ds = some (v, C)) (hC : AllP C) : Res Try.prog 159 ds v := by
  unfold pCm4 at h
  split at h
  · obtain ⟨rfl, rfl⟩ : _ ∧ _ := by simpa using h
    have h1 := hC.1
    have h2 := hC.2.1
    exact res_calls (by kernel_rfl) rfl rfl fun w => specCompare_any _ _ _ _ w h1 h2
  · cases h
def TCm4 : Tab := fun f ds => match f with
  | 159 => pCm4 ds
  | f => TCq f ds
theorem TCm4_ok : TabOk Try.prog TCm4 := by
  intro f ds v C h hC
  unfold TCm4 at h
  (try split at h)
  all_goals first | with_reducible exact pCm4_ok h hC | exact TCq_ok _ _ _ _ h hC
def ECm4 : Env := tabE TCm4
theorem ECm4_ok : EnvOk Try.prog ECm4 := tabE_ok TCm4_ok
set_option maxRecDepth 100000 in
theorem tr_rpl (a b c d e f g h : Int) : bodyV Try.prog ECm4 30 12 129 [.v (.agg #[iv a, iv b, iv c, iv d]), .v (.agg #[iv e, iv f, iv g, iv h])] = .need (ratB a b = true) (.need (ratB e f = true) (brT (decide (sgn (a * f - e * b) < 0)) (.fin (.bool (true)) []) (brT (sgn (a * f - e * b) == 0) (.need (ratB c d = true) (.need (ratB g h = true) (.fin (.bool (decide (sgn (c * h - g * d) < 0))) []))) (.fin (.bool (false)) [])))) := by kernel_rfl
theorem res_rpl {a b c d e f g h : Int} (h1 : okQ (a, b, c, d) = true) (h2 : okQ (e, f, g, h) = true) : Res Try.prog 129 [.v (.agg #[iv a, iv b, iv c, iv d]), .v (.agg #[iv e, iv f, iv g, iv h])] (.bool (qLt (a, b, c, d) (e, f, g, h))) := by
  refine bodyV_res mixed ECm4_ok (m := 30) (n := 12) rfl ?_
  rw [tr_rpl]
  obtain ⟨k1, k2⟩ := okQ_1 h1
  obtain ⟨k3, k4⟩ := okQ_1 h2
  have hs : ∀ x : Int, sgn x = 1 ∨ sgn x = 0 ∨ sgn x = -1 := fun x => by unfold sgn; split <;> (try split) <;> simp
  unfold qLt cmQ cmpRQ orI
  simp only at k1 k2 k3 k4 ⊢
  generalize sgn (a * f - e * b) = A at *
  generalize sgn (c * h - g * d) = B at *
  refine ⟨k1, k3, brT_ok.2 ⟨fun q => ?_, fun q => brT_ok.2 ⟨fun q2 => ⟨k2, k4, ?_⟩, fun q2 => ?_⟩⟩⟩
  · have q := of_decide_eq_true q
    show Value.bool _ = Value.bool _
    rw [if_neg (by omega), decide_eq_true q]
  · show Value.bool _ = Value.bool _
    rw [if_pos (beq_iff_eq.1 q2)]
  · have q := of_decide_eq_false q
    have q2 := beq_eq_false_iff_ne.1 q2
    show Value.bool _ = Value.bool _
    rw [if_neg q2, decide_eq_false q]
/-- The order, and what is valid, of numbers. -/
def rpB (a b c d e f g h : Int) : Bool := qLt (a, b, c, d) (e, f, g, h)
def okB (a b c d : Int) : Bool := okQ (a, b, c, d)
def pRpl : List DArg → Option (Value × List Prop)
  | [.v (.agg ⟨[.int .i64 a, .int .i64 b, .int .i64 c, .int .i64 d]⟩), .v (.agg ⟨[.int .i64 e, .int .i64 f, .int .i64 g, .int .i64 h]⟩)] => some (.bool (rpB a b c d e f g h), [okB a b c d = true, okB e f g h = true])
  | _ => none
theorem pRpl_ok {ds : List DArg} {v : Value} {C : List Prop} (h : pRpl ds = some (v, C)) (hC : AllP C) : Res Try.prog 129 ds v := by
  unfold pRpl at h
  split at h
  · obtain ⟨rfl, rfl⟩ : _ ∧ _ := by simpa using h
    exact res_rpl hC.1 hC.2.1
  · cases h
def TAl : Tab := fun f ds => match f with
  | 129 => pRpl ds
  | f => TCq f ds
theorem TAl_ok : TabOk Try.prog TAl := by
  intro f ds v C h hC
  unfold TAl at h
  (try split at h)
  all_goals first | with_reducible exact pRpl_ok h hC | exact TCq_ok _ _ _ _ h hC
def EAl : Env := tabE TAl
theorem EAl_ok : EnvOk Try.prog EAl := tabE_ok TAl_ok
/-- The place among the first cells. -/
def kZ (x y u v : Int) (n : Nat) (xs : List Int) : Nat := 0 + kQ (x, y, u, v) ((q4A n xs).drop 0)
theorem kZ_is (x y u v : Int) (ps : List Q4) : kZ x y u v ps.length (fl4 ps) = kQ (x, y, u, v) ps := by
  unfold kZ
  rw [q4A_fl4, List.drop_zero, Nat.zero_add]
noncomputable def c_adq : Code := ((loopsOf (codeOf Try.f81))[0]?).getD .skip
def k_adq : Ex → List Nat := keeps [0, 3, 5] [(0, [0, 3, 5])] [4]
def s_adq (ps : List Q4) (p : Q4) : Nat → St := fun i => ⟨(.slice (some ⟨0, 0, none⟩) ps.length ps.length :: topV :: topV :: .pointer (some ⟨1, 0, none⟩) :: topV :: .int .i64 i :: topV :: topV :: topV :: topV :: topV :: topV :: topV :: topV :: topV :: topV :: topV :: topV :: topV :: topV :: topV :: topV :: topV :: topV :: topV :: topV :: topV :: topV :: topV :: topV :: topV :: topV :: topV :: topV :: topV :: topV :: topV :: topV :: topV :: topV :: topV :: topV :: topV :: topV :: topV :: topV :: topV :: topV :: []), [some ⟨.row 52 4, .ints (fl4 ps)⟩, some ⟨.box, .vals [.int .i64 p.1, .int .i64 p.2.1, .int .i64 p.2.2.1, .int .i64 p.2.2.2]⟩]⟩
def re_adq : Nat → Ex := fun _ => .exit 0
def rs_adq (ps : List Q4) (p : Q4) : Nat → St := fun i => ⟨(.slice (some ⟨0, 0, none⟩) ps.length ps.length :: topV :: topV :: .pointer (some ⟨1, 0, none⟩) :: topV :: .int .i64 ((i + kQ p (ps.drop i) : Nat) : Int) :: topV :: topV :: topV :: topV :: topV :: topV :: topV :: topV :: topV :: topV :: topV :: topV :: topV :: topV :: topV :: topV :: topV :: topV :: topV :: topV :: topV :: topV :: topV :: topV :: topV :: topV :: topV :: topV :: topV :: topV :: topV :: topV :: topV :: topV :: topV :: topV :: topV :: topV :: topV :: topV :: topV :: topV :: []), [some ⟨.row 52 4, .ints (fl4 ps)⟩, some ⟨.box, .vals [.int .i64 p.1, .int .i64 p.2.1, .int .i64 p.2.2.1, .int .i64 p.2.2.2]⟩]⟩
set_option maxRecDepth 100000 in
theorem tr_adq (ps : List Q4) (p : Q4) (i : Nat) : bodyL Try.prog EAl 30 12 noL 1 c_adq k_adq 2 (s_adq ps p i) = brT (decide ((↑i : Int) < (↑ps.length : Int))) (.need (okB ((fl4 ps).getD ((0 : Nat) + (↑i : Int).toNat * (4 : Nat)) (0 : Int)) ((fl4 ps).getD ((0 : Nat) + (↑i : Int).toNat * (4 : Nat) + (1 : Nat)) (0 : Int)) ((fl4 ps).getD ((0 : Nat) + (↑i : Int).toNat * (4 : Nat) + (1 : Nat) + (1 : Nat)) (0 : Int)) ((fl4 ps).getD ((0 : Nat) + (↑i : Int).toNat * (4 : Nat) + (1 : Nat) + (1 : Nat) + (1 : Nat)) (0 : Int)) = true) (.need (okB p.1 p.snd.1 p.snd.snd.1 p.snd.snd.2 = true) (.need ((0 : Int) ≤ (↑i : Int) ∧ (↑i : Int) < (↑ps.length : Int)) (.need ((0 : Nat) + (↑i : Int).toNat * (4 : Nat) + (4 : Nat) ≤ (fl4 ps).length) (brT (rpB ((fl4 ps).getD (0 + (↑i : Int).toNat * 4) 0) ((fl4 ps).getD (0 + (↑i : Int).toNat * 4 + 1) 0) ((fl4 ps).getD (0 + (↑i : Int).toNat * 4 + 1 + 1) 0) ((fl4 ps).getD (0 + (↑i : Int).toNat * 4 + 1 + 1 + 1) 0) p.1 p.snd.1 p.snd.snd.1 p.snd.snd.2) (.leaf .normal ⟨(.slice (some ⟨0, 0, none⟩) (ps.length) (ps.length) :: topV :: topV :: .pointer (some ⟨1, 0, none⟩) :: topV :: .int .i64 (IntKind.i64.wrap ((↑i : Int) + 1)) :: topV :: topV :: topV :: topV :: topV :: topV :: topV :: topV :: topV :: topV :: topV :: topV :: topV :: topV :: topV :: topV :: topV :: topV :: topV :: topV :: topV :: topV :: topV :: topV :: topV :: topV :: topV :: topV :: topV :: topV :: topV :: topV :: topV :: topV :: topV :: topV :: topV :: topV :: topV :: topV :: topV :: topV :: []), [some ⟨.row 52 4, .ints (fl4 ps)⟩, some ⟨.box, .vals [.int .i64 (p.1), .int .i64 (p.snd.1), .int .i64 (p.snd.snd.1), .int .i64 (p.snd.snd.2)]⟩]⟩) (.leaf (.exit 0) ⟨(.slice (some ⟨0, 0, none⟩) (ps.length) (ps.length) :: topV :: topV :: .pointer (some ⟨1, 0, none⟩) :: topV :: .int .i64 ((↑i : Int)) :: topV :: topV :: topV :: topV :: topV :: topV :: topV :: topV :: topV :: topV :: topV :: topV :: topV :: topV :: topV :: topV :: topV :: topV :: topV :: topV :: topV :: topV :: topV :: topV :: topV :: topV :: topV :: topV :: topV :: topV :: topV :: topV :: topV :: topV :: topV :: topV :: topV :: topV :: topV :: topV :: topV :: topV :: []), [some ⟨.row 52 4, .ints (fl4 ps)⟩, some ⟨.box, .vals [.int .i64 (p.1), .int .i64 (p.snd.1), .int .i64 (p.snd.snd.1), .int .i64 (p.snd.snd.2)]⟩]⟩)))))) (.leaf (.exit 0) ⟨(.slice (some ⟨0, 0, none⟩) (ps.length) (ps.length) :: topV :: topV :: .pointer (some ⟨1, 0, none⟩) :: topV :: .int .i64 ((↑i : Int)) :: topV :: topV :: topV :: topV :: topV :: topV :: topV :: topV :: topV :: topV :: topV :: topV :: topV :: topV :: topV :: topV :: topV :: topV :: topV :: topV :: topV :: topV :: topV :: topV :: topV :: topV :: topV :: topV :: topV :: topV :: topV :: topV :: topV :: topV :: topV :: topV :: topV :: topV :: topV :: topV :: topV :: topV :: []), [some ⟨.row 52 4, .ints (fl4 ps)⟩, some ⟨.box, .vals [.int .i64 (p.1), .int .i64 (p.snd.1), .int .i64 (p.snd.snd.1), .int .i64 (p.snd.snd.2)]⟩]⟩) := by kernel_rfl
set_option maxRecDepth 100000 in
theorem nl_adq : loopsOf c_adq = [] := by kernel_rfl
def inv_adq (ps : List Q4) (p : Q4) : Nat → Prop := fun i => i ≤ ps.length
def me_adq (ps : List Q4) (p : Q4) : Nat → Nat := fun i => ps.length - i
/-- A round of this loop. -/
def Round_adq (ps : List Q4) (p : Q4) : Prop := ∀ xx : Nat, inv_adq ps p xx → (bodyL Try.prog EAl 30 12 noL 1 c_adq k_adq 2 (s_adq ps p xx)).ok (RoundEnd 2 (s_adq ps p) (inv_adq ps p) (me_adq ps p) re_adq (rs_adq ps p) xx) (fun _ _ => False)
def e_adq (s : St) (k : Ex → St → Tree) : Option Tree := match Nat.beq s.tmps.length 48, pickL s.tmps [0, 3, 5], s.mem with
  | true, [.slice (some ⟨0, 0, none⟩) n _, .pointer (some ⟨1, 0, none⟩), .int .i64 i], [some ⟨.row 52 4, .ints xs⟩, some ⟨.box, .vals [.int .i64 x, .int .i64 y, .int .i64 u, .int .i64 v]⟩] => some (needs [i = 0, xs.length = n * 4, n ≤ 1000000000, allV4 n xs, okB x y u v = true] (k (.exit 0) ⟨(.slice (some ⟨0, 0, none⟩) n n :: topV :: topV :: .pointer (some ⟨1, 0, none⟩) :: topV :: .int .i64 ((kZ x y u v n xs : Nat) : Int) :: topV :: topV :: topV :: topV :: topV :: topV :: topV :: topV :: topV :: topV :: topV :: topV :: topV :: topV :: topV :: topV :: topV :: topV :: topV :: topV :: topV :: topV :: topV :: topV :: topV :: topV :: topV :: topV :: topV :: topV :: topV :: topV :: topV :: topV :: topV :: topV :: topV :: topV :: topV :: topV :: topV :: topV :: []), [some ⟨.row 52 4, .ints xs⟩, some ⟨.box, .vals [.int .i64 x, .int .i64 y, .int .i64 u, .int .i64 v]⟩]⟩))
  | _, _, _ => none
theorem kQ_no {p q : Q4} {r : List Q4} (h : qLt q p = false) : kQ p (q :: r) = 0 := by simp [kQ, h]
theorem kQ_yes {p q : Q4} {r : List Q4} (h : qLt q p = true) : kQ p (q :: r) = kQ p r + 1 := by simp [kQ, h]
set_option maxRecDepth 100000 in
theorem round_adq (ps : List Q4) (p : Q4) (h : ps.length ≤ 1000000000) (ho : ∀ q ∈ ps, okQ q = true) (hp : okQ p = true) : Round_adq ps p := by
  intro i h1
  have h1 : i ≤ ps.length := h1
  rw [tr_adq]
  simp only [brT_ok, Tree.ok, decide_eq_true_eq, decide_eq_false_iff_not, Int.toNat_natCast, Nat.zero_add, fl4_length, fl4_get0, fl4_get1, fl4_g2, fl4_g3]
  refine ⟨fun hlt => ⟨ho _ (getD_mem4 (by omega)), hp, by omega, by omega, fun g => ?_, fun g => ?_⟩, fun hge => ?_⟩
  · have hd : ps.drop i = ps.getD i z4 :: ps.drop (i + 1) := drop_cons (by omega) _
    have g : qLt (ps.getD i z4) p = true := g
    have e : i + kQ p (ps.drop i) = (i + 1) + kQ p (ps.drop (i + 1)) := by rw [hd, kQ_yes g]; omega
    rw [wsucc (n := ps.length) (by omega) h]
    refine ⟨i + 1, [], ?_, ?_, rfl, by simp only [rs_adq, e], ?_⟩
    · show i + 1 ≤ ps.length; omega
    · show ps.length - (i + 1) < ps.length - i; omega
    · repeat' (first | exact True.intro | exact rfl | exact fun _ => rfl | (simp; done) | refine And.intro ?_ ?_)
  · have hd : ps.drop i = ps.getD i z4 :: ps.drop (i + 1) := drop_cons (by omega) _
    have g : qLt (ps.getD i z4) p = false := g
    have e : i + kQ p (ps.drop i) = i := by rw [hd, kQ_no g]; rfl
    refine ⟨rfl, [], ?_⟩
    simp only [rs_adq, e]
    repeat' (first | exact True.intro | exact rfl | exact fun _ => rfl | (simp; done) | refine And.intro ?_ ?_)
  · have e : i + kQ p (ps.drop i) = i := by rw [List.drop_of_length_le (by omega)]; rfl
    refine ⟨rfl, [], ?_⟩
    simp only [rs_adq, e]
    repeat' (first | exact True.intro | exact rfl | exact fun _ => rfl | (simp; done) | refine And.intro ?_ ?_)
set_option maxRecDepth 100000 in
theorem lg_adq : LoopE Try.prog e_adq c_adq := by
  intro s k t F H hlt ht
  unfold e_adq at hlt
  split at hlt
  rotate_left
  · cases hlt
  rename_i hlen hpick hmem
  obtain ⟨tmps, mem⟩ := s
  simp only at hlen hpick hmem
  subst hmem
  obtain rfl := Option.some.inj hlt
  obtain ⟨⟨rfl, h1, h2, h3, h4, _⟩, ht2⟩ := needs_ok ht
  clear ht hlt
  obtain ⟨ps, rfl, rfl⟩ := four_fl4 h1
  unfold allV4 at h3
  rw [q4A_fl4] at h3
  unfold kZ at ht2
  rw [q4A_fl4] at ht2
  refine ⟨_, _, ht2, loop_run mixed EAl_ok (s_adq ps (_, _, _, _)) (inv_adq ps (_, _, _, _)) (me_adq ps (_, _, _, _)) re_adq (rs_adq ps (_, _, _, _)) k_adq (fun _ => rfl) (noLoops nl_adq) (round_adq ps (_, _, _, _) h2 h3 h4) (x := 0) (Nat.zero_le _) (π := []) rfl ?_⟩
  refine ⟨rfl, rfl, ?_, wvs_spread' [0, 3, 5] hlen rfl ?_⟩
  · repeat' (first | exact True.intro | exact rfl | exact wv_top _ _ | exact fun _ => rfl | assumption | exact Eq.symm (by assumption) | exact vI0 rfl | refine And.intro ?_ ?_)
  · rw [hpick]
    repeat' (first | exact True.intro | exact rfl | exact wv_top _ _ | exact fun _ => rfl | assumption | exact Eq.symm (by assumption) | exact vI0 rfl | refine And.intro ?_ ?_)
theorem Lr_adq {fn : Func} (hf : Try.prog.funcs[81]? = some fn) : LoopsGood Try.prog (lt1 e_adq) 0 (codeOf fn) := by
  obtain rfl := fn_is Try.func81 hf
  exact lt1_good lg_adq
def LAq : FuncId → LT := fun f => match f with
  | 81 => lt1 e_adq
  | _ => noL
def EAq : Env := mkE TAl (fun _ _ => none) LAq
theorem EAq_ok : EnvOk Try.prog EAq := mkEOk TAl_ok (fun _ _ _ _ _ h => (by cases h)) (by
  intro f fn hf
  unfold LAq
  split
  all_goals first | with_reducible exact Lr_adq hf | exact noL_good)
abbrev zadqF_0 (ps : List Q4) (x : Int) (y : Int) (u : Int) (v : Int) := (some (IntKind.i64, (↑(kZ x y u v ps.length (fl4 ps)) : Int)))
abbrev zadqF_1 (ps : List Q4) (x : Int) (y : Int) (u : Int) (v : Int) := ((bndI (zadqF_0 ps x y u v) (↑ps.length : Int)).toNat - (bndI none (0 : Int)).toNat)
abbrev zadqF_2 (ps : List Q4) (x : Int) (y : Int) (u : Int) (v : Int) := (bndI (zadqF_0 ps x y u v) (↑ps.length : Int))
abbrev zadqF_3 (ps : List Q4) (x : Int) (y : Int) (u : Int) (v : Int) := ((bndI none (↑ps.length : Int)).toNat - (bndI (zadqF_0 ps x y u v) (0 : Int)).toNat)
abbrev zadqF_4 (ps : List Q4) (x : Int) (y : Int) (u : Int) (v : Int) := ((bndI none (↑ps.length : Int)).toNat - (bndI (zadqF_0 ps x y u v) 0).toNat)
abbrev zadqF_5 (ps : List Q4) (x : Int) (y : Int) (u : Int) (v : Int) := ((zadqF_2 ps x y u v).toNat - (bndI none 0).toNat)
set_option maxRecDepth 100000 in
theorem tr_adqF (ps : List Q4) (x y u v : Int) : bodyM Try.prog EAq (runM Try.prog EAq 30 12) 30 81 [.slice (some ⟨0, 0, none⟩) ps.length ps.length, .agg #[.int .i64 x, .int .i64 y, .int .i64 u, .int .i64 v]] [some ⟨.row 52 4, .ints (fl4 ps)⟩] .fin = .need ((0 : Int) = (0 : Int)) (.need ((fl4 ps).length = ps.length * (4 : Nat)) (.need (ps.length ≤ (1000000000 : Nat)) (.need (allV4 ps.length (fl4 ps)) (.need (okB x y u v = true) (brT (decide ((↑(kZ x y u v ps.length (fl4 ps)) : Int) < (↑ps.length : Int))) (.need ((0 : Int) ≤ (↑(kZ x y u v ps.length (fl4 ps)) : Int) ∧ (↑(kZ x y u v ps.length (fl4 ps)) : Int) < (↑ps.length : Int)) (.need ((0 : Nat) + (↑(kZ x y u v ps.length (fl4 ps)) : Int).toNat * (4 : Nat) + (4 : Nat) ≤ (fl4 ps).length) (brT (negB false ((fl4 ps).getD (0 + (↑(kZ x y u v ps.length (fl4 ps)) : Int).toNat * 4) 0 == x && ((fl4 ps).getD (0 + (↑(kZ x y u v ps.length (fl4 ps)) : Int).toNat * 4 + 1) 0 == y && true) && ((fl4 ps).getD (0 + (↑(kZ x y u v ps.length (fl4 ps)) : Int).toNat * 4 + 1 + 1) 0 == u && ((fl4 ps).getD (0 + (↑(kZ x y u v ps.length (fl4 ps)) : Int).toNat * 4 + 1 + 1 + 1) 0 == v && true) && true))) (.fin (.slice (some ⟨0, 0, none⟩) (ps.length) (ps.length)) [some ⟨.row 52 4, .ints (fl4 ps)⟩, zB4 x y u v]) (.need ((0 : Int) ≤ bndI none (0 : Int) ∧ bndI none (0 : Int) ≤ bndI (zadqF_0 ps x y u v) (↑ps.length : Int) ∧ bndI (zadqF_0 ps x y u v) (↑ps.length : Int) ≤ (↑ps.length : Int)) (.need (((0 : Nat) + ((zadqF_2 ps x y u v).toNat - (bndI none (0 : Int)).toNat, Cs.ints (List.take ((zadqF_1 ps x y u v) * Try.prog.types[(52 : Nat)].size) (List.drop ((0 : Nat) + (bndI none (0 : Int)).toNat * Try.prog.types[(52 : Nat)].size) (fl4 ps))), [(0 : Nat) + (bndI none (0 : Int)).toNat * Try.prog.types[(52 : Nat)].size + (zadqF_1 ps x y u v) * Try.prog.types[(52 : Nat)].size ≤ (fl4 ps).length]).fst) * (32 : Nat) ≤ (140737488355328 : Nat) ∧ (0 : Nat) + ((zadqF_2 ps x y u v).toNat - (bndI none (0 : Int)).toNat, Cs.ints (List.take ((zadqF_1 ps x y u v) * Try.prog.types[(52 : Nat)].size) (List.drop ((0 : Nat) + (bndI none (0 : Int)).toNat * Try.prog.types[(52 : Nat)].size) (fl4 ps))), [(0 : Nat) + (bndI none (0 : Int)).toNat * Try.prog.types[(52 : Nat)].size + (zadqF_1 ps x y u v) * Try.prog.types[(52 : Nat)].size ≤ (fl4 ps).length]).fst ≤ (1000000 : Nat)) (.need ((0 : Nat) + ((zadqF_2 ps x y u v).toNat - (0 : Nat)) * (4 : Nat) ≤ (fl4 ps).length) (.need (((0 : Nat) + ((zadqF_2 ps x y u v).toNat - (bndI none (0 : Int)).toNat, Cs.ints (List.take ((zadqF_1 ps x y u v) * Try.prog.types[(52 : Nat)].size) (List.drop ((0 : Nat) + (bndI none (0 : Int)).toNat * Try.prog.types[(52 : Nat)].size) (fl4 ps))), [(0 : Nat) + (bndI none (0 : Int)).toNat * Try.prog.types[(52 : Nat)].size + (zadqF_1 ps x y u v) * Try.prog.types[(52 : Nat)].size ≤ (fl4 ps).length]).fst + (1 : Nat)) * (32 : Nat) ≤ (140737488355328 : Nat) ∧ (0 : Nat) + ((zadqF_2 ps x y u v).toNat - (bndI none (0 : Int)).toNat, Cs.ints (List.take ((zadqF_1 ps x y u v) * Try.prog.types[(52 : Nat)].size) (List.drop ((0 : Nat) + (bndI none (0 : Int)).toNat * Try.prog.types[(52 : Nat)].size) (fl4 ps))), [(0 : Nat) + (bndI none (0 : Int)).toNat * Try.prog.types[(52 : Nat)].size + (zadqF_1 ps x y u v) * Try.prog.types[(52 : Nat)].size ≤ (fl4 ps).length]).fst + (1 : Nat) ≤ (1000000 : Nat)) (.need ((0 : Nat) + ((0 : Nat) + ((zadqF_2 ps x y u v).toNat - (bndI none (0 : Int)).toNat, Cs.ints (List.take ((zadqF_1 ps x y u v) * Try.prog.types[(52 : Nat)].size) (List.drop ((0 : Nat) + (bndI none (0 : Int)).toNat * Try.prog.types[(52 : Nat)].size) (fl4 ps))), [(0 : Nat) + (bndI none (0 : Int)).toNat * Try.prog.types[(52 : Nat)].size + (zadqF_1 ps x y u v) * Try.prog.types[(52 : Nat)].size ≤ (fl4 ps).length]).fst) * (4 : Nat) ≤ ([] ++ List.take (((zadqF_2 ps x y u v).toNat - (0 : Nat)) * (4 : Nat)) (List.drop (0 : Nat) (fl4 ps))).length) (.need ((0 : Int) ≤ bndI (zadqF_0 ps x y u v) (0 : Int) ∧ bndI (zadqF_0 ps x y u v) (0 : Int) ≤ bndI none (↑ps.length : Int) ∧ bndI none (↑ps.length : Int) ≤ (↑ps.length : Int)) (.need (((0 : Nat) + ((zadqF_2 ps x y u v).toNat - (bndI none (0 : Int)).toNat, Cs.ints (List.take ((zadqF_1 ps x y u v) * Try.prog.types[(52 : Nat)].size) (List.drop ((0 : Nat) + (bndI none (0 : Int)).toNat * Try.prog.types[(52 : Nat)].size) (fl4 ps))), [(0 : Nat) + (bndI none (0 : Int)).toNat * Try.prog.types[(52 : Nat)].size + (zadqF_1 ps x y u v) * Try.prog.types[(52 : Nat)].size ≤ (fl4 ps).length]).fst + (1 : Nat) + ((bndI none (↑ps.length : Int)).toNat - (bndI (zadqF_0 ps x y u v) (0 : Int)).toNat, Cs.ints (List.take ((zadqF_3 ps x y u v) * Try.prog.types[(52 : Nat)].size) (List.drop ((0 : Nat) + (bndI (zadqF_0 ps x y u v) (0 : Int)).toNat * Try.prog.types[(52 : Nat)].size) (fl4 ps))), [(0 : Nat) + (bndI (zadqF_0 ps x y u v) (0 : Int)).toNat * Try.prog.types[(52 : Nat)].size + (zadqF_3 ps x y u v) * Try.prog.types[(52 : Nat)].size ≤ (fl4 ps).length]).fst) * (32 : Nat) ≤ (140737488355328 : Nat) ∧ (0 : Nat) + ((zadqF_2 ps x y u v).toNat - (bndI none (0 : Int)).toNat, Cs.ints (List.take ((zadqF_1 ps x y u v) * Try.prog.types[(52 : Nat)].size) (List.drop ((0 : Nat) + (bndI none (0 : Int)).toNat * Try.prog.types[(52 : Nat)].size) (fl4 ps))), [(0 : Nat) + (bndI none (0 : Int)).toNat * Try.prog.types[(52 : Nat)].size + (zadqF_1 ps x y u v) * Try.prog.types[(52 : Nat)].size ≤ (fl4 ps).length]).fst + (1 : Nat) + ((bndI none (↑ps.length : Int)).toNat - (bndI (zadqF_0 ps x y u v) (0 : Int)).toNat, Cs.ints (List.take ((zadqF_3 ps x y u v) * Try.prog.types[(52 : Nat)].size) (List.drop ((0 : Nat) + (bndI (zadqF_0 ps x y u v) (0 : Int)).toNat * Try.prog.types[(52 : Nat)].size) (fl4 ps))), [(0 : Nat) + (bndI (zadqF_0 ps x y u v) (0 : Int)).toNat * Try.prog.types[(52 : Nat)].size + (zadqF_3 ps x y u v) * Try.prog.types[(52 : Nat)].size ≤ (fl4 ps).length]).fst ≤ (1000000 : Nat)) (.need ((0 : Nat) + (bndI (zadqF_0 ps x y u v) (0 : Int)).toNat * (4 : Nat) + (zadqF_3 ps x y u v) * (4 : Nat) ≤ (fl4 ps).length) (.need ((0 : Nat) + ((0 : Nat) + ((zadqF_2 ps x y u v).toNat - (bndI none (0 : Int)).toNat, Cs.ints (List.take ((zadqF_1 ps x y u v) * Try.prog.types[(52 : Nat)].size) (List.drop ((0 : Nat) + (bndI none (0 : Int)).toNat * Try.prog.types[(52 : Nat)].size) (fl4 ps))), [(0 : Nat) + (bndI none (0 : Int)).toNat * Try.prog.types[(52 : Nat)].size + (zadqF_1 ps x y u v) * Try.prog.types[(52 : Nat)].size ≤ (fl4 ps).length]).fst + (1 : Nat)) * (4 : Nat) ≤ (List.take (((0 : Nat) + ((zadqF_2 ps x y u v).toNat - (bndI none (0 : Int)).toNat, Cs.ints (List.take ((zadqF_1 ps x y u v) * Try.prog.types[(52 : Nat)].size) (List.drop ((0 : Nat) + (bndI none (0 : Int)).toNat * Try.prog.types[(52 : Nat)].size) (fl4 ps))), [(0 : Nat) + (bndI none (0 : Int)).toNat * Try.prog.types[(52 : Nat)].size + (zadqF_1 ps x y u v) * Try.prog.types[(52 : Nat)].size ≤ (fl4 ps).length]).fst) * (4 : Nat)) (List.drop (0 : Nat) ([] ++ List.take (((zadqF_2 ps x y u v).toNat - (0 : Nat)) * (4 : Nat)) (List.drop (0 : Nat) (fl4 ps)))) ++ [x, y, u, v]).length) (.fin (.slice (some ⟨6, 0, none⟩) (0 + ((zadqF_2 ps x y u v).toNat - (bndI none 0).toNat, Cs.ints (List.take ((zadqF_5 ps x y u v) * Try.prog.types[52].size) (List.drop (0 + (bndI none 0).toNat * Try.prog.types[52].size) (fl4 ps))), [0 + (bndI none 0).toNat * Try.prog.types[52].size + (zadqF_5 ps x y u v) * Try.prog.types[52].size ≤ (fl4 ps).length]).fst + 1 + ((bndI none (↑ps.length : Int)).toNat - (bndI (zadqF_0 ps x y u v) 0).toNat, Cs.ints (List.take ((zadqF_4 ps x y u v) * Try.prog.types[52].size) (List.drop (0 + (bndI (zadqF_0 ps x y u v) 0).toNat * Try.prog.types[52].size) (fl4 ps))), [0 + (bndI (zadqF_0 ps x y u v) 0).toNat * Try.prog.types[52].size + (zadqF_4 ps x y u v) * Try.prog.types[52].size ≤ (fl4 ps).length]).fst) (0 + ((zadqF_2 ps x y u v).toNat - (bndI none 0).toNat, Cs.ints (List.take ((zadqF_5 ps x y u v) * Try.prog.types[52].size) (List.drop (0 + (bndI none 0).toNat * Try.prog.types[52].size) (fl4 ps))), [0 + (bndI none 0).toNat * Try.prog.types[52].size + (zadqF_5 ps x y u v) * Try.prog.types[52].size ≤ (fl4 ps).length]).fst + 1 + ((bndI none (↑ps.length : Int)).toNat - (bndI (zadqF_0 ps x y u v) 0).toNat, Cs.ints (List.take ((zadqF_4 ps x y u v) * Try.prog.types[52].size) (List.drop (0 + (bndI (zadqF_0 ps x y u v) 0).toNat * Try.prog.types[52].size) (fl4 ps))), [0 + (bndI (zadqF_0 ps x y u v) 0).toNat * Try.prog.types[52].size + (zadqF_4 ps x y u v) * Try.prog.types[52].size ≤ (fl4 ps).length]).fst)) [some ⟨.row 52 4, .ints (fl4 ps)⟩, zB4 x y u v, some deadB, some deadB, some ⟨.row 52 4, .vals [zI x, zI y, zI u, zI v]⟩, some deadB, some ⟨.row 52 4, .ints (List.take ((0 + ((zadqF_2 ps x y u v).toNat - (bndI none 0).toNat, Cs.ints (List.take ((zadqF_5 ps x y u v) * Try.prog.types[52].size) (List.drop (0 + (bndI none 0).toNat * Try.prog.types[52].size) (fl4 ps))), [0 + (bndI none 0).toNat * Try.prog.types[52].size + (zadqF_5 ps x y u v) * Try.prog.types[52].size ≤ (fl4 ps).length]).fst + 1) * 4) (List.drop 0 (List.take ((0 + ((zadqF_2 ps x y u v).toNat - (bndI none 0).toNat, Cs.ints (List.take ((zadqF_5 ps x y u v) * Try.prog.types[52].size) (List.drop (0 + (bndI none 0).toNat * Try.prog.types[52].size) (fl4 ps))), [0 + (bndI none 0).toNat * Try.prog.types[52].size + (zadqF_5 ps x y u v) * Try.prog.types[52].size ≤ (fl4 ps).length]).fst) * 4) (List.drop 0 ([] ++ List.take (((zadqF_2 ps x y u v).toNat - 0) * 4) (List.drop 0 (fl4 ps)))) ++ [x, y, u, v])) ++ List.take ((zadqF_4 ps x y u v) * 4) (List.drop (0 + (bndI (zadqF_0 ps x y u v) 0).toNat * 4) (fl4 ps)))⟩]))))))))))))) (.need ((0 : Int) ≤ bndI none (0 : Int) ∧ bndI none (0 : Int) ≤ bndI (zadqF_0 ps x y u v) (↑ps.length : Int) ∧ bndI (zadqF_0 ps x y u v) (↑ps.length : Int) ≤ (↑ps.length : Int)) (.need (((0 : Nat) + ((zadqF_2 ps x y u v).toNat - (bndI none (0 : Int)).toNat, Cs.ints (List.take ((zadqF_1 ps x y u v) * Try.prog.types[(52 : Nat)].size) (List.drop ((0 : Nat) + (bndI none (0 : Int)).toNat * Try.prog.types[(52 : Nat)].size) (fl4 ps))), [(0 : Nat) + (bndI none (0 : Int)).toNat * Try.prog.types[(52 : Nat)].size + (zadqF_1 ps x y u v) * Try.prog.types[(52 : Nat)].size ≤ (fl4 ps).length]).fst) * (32 : Nat) ≤ (140737488355328 : Nat) ∧ (0 : Nat) + ((zadqF_2 ps x y u v).toNat - (bndI none (0 : Int)).toNat, Cs.ints (List.take ((zadqF_1 ps x y u v) * Try.prog.types[(52 : Nat)].size) (List.drop ((0 : Nat) + (bndI none (0 : Int)).toNat * Try.prog.types[(52 : Nat)].size) (fl4 ps))), [(0 : Nat) + (bndI none (0 : Int)).toNat * Try.prog.types[(52 : Nat)].size + (zadqF_1 ps x y u v) * Try.prog.types[(52 : Nat)].size ≤ (fl4 ps).length]).fst ≤ (1000000 : Nat)) (.need ((0 : Nat) + ((zadqF_2 ps x y u v).toNat - (0 : Nat)) * (4 : Nat) ≤ (fl4 ps).length) (.need (((0 : Nat) + ((zadqF_2 ps x y u v).toNat - (bndI none (0 : Int)).toNat, Cs.ints (List.take ((zadqF_1 ps x y u v) * Try.prog.types[(52 : Nat)].size) (List.drop ((0 : Nat) + (bndI none (0 : Int)).toNat * Try.prog.types[(52 : Nat)].size) (fl4 ps))), [(0 : Nat) + (bndI none (0 : Int)).toNat * Try.prog.types[(52 : Nat)].size + (zadqF_1 ps x y u v) * Try.prog.types[(52 : Nat)].size ≤ (fl4 ps).length]).fst + (1 : Nat)) * (32 : Nat) ≤ (140737488355328 : Nat) ∧ (0 : Nat) + ((zadqF_2 ps x y u v).toNat - (bndI none (0 : Int)).toNat, Cs.ints (List.take ((zadqF_1 ps x y u v) * Try.prog.types[(52 : Nat)].size) (List.drop ((0 : Nat) + (bndI none (0 : Int)).toNat * Try.prog.types[(52 : Nat)].size) (fl4 ps))), [(0 : Nat) + (bndI none (0 : Int)).toNat * Try.prog.types[(52 : Nat)].size + (zadqF_1 ps x y u v) * Try.prog.types[(52 : Nat)].size ≤ (fl4 ps).length]).fst + (1 : Nat) ≤ (1000000 : Nat)) (.need ((0 : Nat) + ((0 : Nat) + ((zadqF_2 ps x y u v).toNat - (bndI none (0 : Int)).toNat, Cs.ints (List.take ((zadqF_1 ps x y u v) * Try.prog.types[(52 : Nat)].size) (List.drop ((0 : Nat) + (bndI none (0 : Int)).toNat * Try.prog.types[(52 : Nat)].size) (fl4 ps))), [(0 : Nat) + (bndI none (0 : Int)).toNat * Try.prog.types[(52 : Nat)].size + (zadqF_1 ps x y u v) * Try.prog.types[(52 : Nat)].size ≤ (fl4 ps).length]).fst) * (4 : Nat) ≤ ([] ++ List.take (((zadqF_2 ps x y u v).toNat - (0 : Nat)) * (4 : Nat)) (List.drop (0 : Nat) (fl4 ps))).length) (.need ((0 : Int) ≤ bndI (zadqF_0 ps x y u v) (0 : Int) ∧ bndI (zadqF_0 ps x y u v) (0 : Int) ≤ bndI none (↑ps.length : Int) ∧ bndI none (↑ps.length : Int) ≤ (↑ps.length : Int)) (.need (((0 : Nat) + ((zadqF_2 ps x y u v).toNat - (bndI none (0 : Int)).toNat, Cs.ints (List.take ((zadqF_1 ps x y u v) * Try.prog.types[(52 : Nat)].size) (List.drop ((0 : Nat) + (bndI none (0 : Int)).toNat * Try.prog.types[(52 : Nat)].size) (fl4 ps))), [(0 : Nat) + (bndI none (0 : Int)).toNat * Try.prog.types[(52 : Nat)].size + (zadqF_1 ps x y u v) * Try.prog.types[(52 : Nat)].size ≤ (fl4 ps).length]).fst + (1 : Nat) + ((bndI none (↑ps.length : Int)).toNat - (bndI (zadqF_0 ps x y u v) (0 : Int)).toNat, Cs.ints (List.take ((zadqF_3 ps x y u v) * Try.prog.types[(52 : Nat)].size) (List.drop ((0 : Nat) + (bndI (zadqF_0 ps x y u v) (0 : Int)).toNat * Try.prog.types[(52 : Nat)].size) (fl4 ps))), [(0 : Nat) + (bndI (zadqF_0 ps x y u v) (0 : Int)).toNat * Try.prog.types[(52 : Nat)].size + (zadqF_3 ps x y u v) * Try.prog.types[(52 : Nat)].size ≤ (fl4 ps).length]).fst) * (32 : Nat) ≤ (140737488355328 : Nat) ∧ (0 : Nat) + ((zadqF_2 ps x y u v).toNat - (bndI none (0 : Int)).toNat, Cs.ints (List.take ((zadqF_1 ps x y u v) * Try.prog.types[(52 : Nat)].size) (List.drop ((0 : Nat) + (bndI none (0 : Int)).toNat * Try.prog.types[(52 : Nat)].size) (fl4 ps))), [(0 : Nat) + (bndI none (0 : Int)).toNat * Try.prog.types[(52 : Nat)].size + (zadqF_1 ps x y u v) * Try.prog.types[(52 : Nat)].size ≤ (fl4 ps).length]).fst + (1 : Nat) + ((bndI none (↑ps.length : Int)).toNat - (bndI (zadqF_0 ps x y u v) (0 : Int)).toNat, Cs.ints (List.take ((zadqF_3 ps x y u v) * Try.prog.types[(52 : Nat)].size) (List.drop ((0 : Nat) + (bndI (zadqF_0 ps x y u v) (0 : Int)).toNat * Try.prog.types[(52 : Nat)].size) (fl4 ps))), [(0 : Nat) + (bndI (zadqF_0 ps x y u v) (0 : Int)).toNat * Try.prog.types[(52 : Nat)].size + (zadqF_3 ps x y u v) * Try.prog.types[(52 : Nat)].size ≤ (fl4 ps).length]).fst ≤ (1000000 : Nat)) (.need ((0 : Nat) + (bndI (zadqF_0 ps x y u v) (0 : Int)).toNat * (4 : Nat) + (zadqF_3 ps x y u v) * (4 : Nat) ≤ (fl4 ps).length) (.need ((0 : Nat) + ((0 : Nat) + ((zadqF_2 ps x y u v).toNat - (bndI none (0 : Int)).toNat, Cs.ints (List.take ((zadqF_1 ps x y u v) * Try.prog.types[(52 : Nat)].size) (List.drop ((0 : Nat) + (bndI none (0 : Int)).toNat * Try.prog.types[(52 : Nat)].size) (fl4 ps))), [(0 : Nat) + (bndI none (0 : Int)).toNat * Try.prog.types[(52 : Nat)].size + (zadqF_1 ps x y u v) * Try.prog.types[(52 : Nat)].size ≤ (fl4 ps).length]).fst + (1 : Nat)) * (4 : Nat) ≤ (List.take (((0 : Nat) + ((zadqF_2 ps x y u v).toNat - (bndI none (0 : Int)).toNat, Cs.ints (List.take ((zadqF_1 ps x y u v) * Try.prog.types[(52 : Nat)].size) (List.drop ((0 : Nat) + (bndI none (0 : Int)).toNat * Try.prog.types[(52 : Nat)].size) (fl4 ps))), [(0 : Nat) + (bndI none (0 : Int)).toNat * Try.prog.types[(52 : Nat)].size + (zadqF_1 ps x y u v) * Try.prog.types[(52 : Nat)].size ≤ (fl4 ps).length]).fst) * (4 : Nat)) (List.drop (0 : Nat) ([] ++ List.take (((zadqF_2 ps x y u v).toNat - (0 : Nat)) * (4 : Nat)) (List.drop (0 : Nat) (fl4 ps)))) ++ [x, y, u, v]).length) (.fin (.slice (some ⟨6, 0, none⟩) (0 + ((zadqF_2 ps x y u v).toNat - (bndI none 0).toNat, Cs.ints (List.take ((zadqF_5 ps x y u v) * Try.prog.types[52].size) (List.drop (0 + (bndI none 0).toNat * Try.prog.types[52].size) (fl4 ps))), [0 + (bndI none 0).toNat * Try.prog.types[52].size + (zadqF_5 ps x y u v) * Try.prog.types[52].size ≤ (fl4 ps).length]).fst + 1 + ((bndI none (↑ps.length : Int)).toNat - (bndI (zadqF_0 ps x y u v) 0).toNat, Cs.ints (List.take ((zadqF_4 ps x y u v) * Try.prog.types[52].size) (List.drop (0 + (bndI (zadqF_0 ps x y u v) 0).toNat * Try.prog.types[52].size) (fl4 ps))), [0 + (bndI (zadqF_0 ps x y u v) 0).toNat * Try.prog.types[52].size + (zadqF_4 ps x y u v) * Try.prog.types[52].size ≤ (fl4 ps).length]).fst) (0 + ((zadqF_2 ps x y u v).toNat - (bndI none 0).toNat, Cs.ints (List.take ((zadqF_5 ps x y u v) * Try.prog.types[52].size) (List.drop (0 + (bndI none 0).toNat * Try.prog.types[52].size) (fl4 ps))), [0 + (bndI none 0).toNat * Try.prog.types[52].size + (zadqF_5 ps x y u v) * Try.prog.types[52].size ≤ (fl4 ps).length]).fst + 1 + ((bndI none (↑ps.length : Int)).toNat - (bndI (zadqF_0 ps x y u v) 0).toNat, Cs.ints (List.take ((zadqF_4 ps x y u v) * Try.prog.types[52].size) (List.drop (0 + (bndI (zadqF_0 ps x y u v) 0).toNat * Try.prog.types[52].size) (fl4 ps))), [0 + (bndI (zadqF_0 ps x y u v) 0).toNat * Try.prog.types[52].size + (zadqF_4 ps x y u v) * Try.prog.types[52].size ≤ (fl4 ps).length]).fst)) [some ⟨.row 52 4, .ints (fl4 ps)⟩, zB4 x y u v, some deadB, some deadB, some ⟨.row 52 4, .vals [zI x, zI y, zI u, zI v]⟩, some deadB, some ⟨.row 52 4, .ints (List.take ((0 + ((zadqF_2 ps x y u v).toNat - (bndI none 0).toNat, Cs.ints (List.take ((zadqF_5 ps x y u v) * Try.prog.types[52].size) (List.drop (0 + (bndI none 0).toNat * Try.prog.types[52].size) (fl4 ps))), [0 + (bndI none 0).toNat * Try.prog.types[52].size + (zadqF_5 ps x y u v) * Try.prog.types[52].size ≤ (fl4 ps).length]).fst + 1) * 4) (List.drop 0 (List.take ((0 + ((zadqF_2 ps x y u v).toNat - (bndI none 0).toNat, Cs.ints (List.take ((zadqF_5 ps x y u v) * Try.prog.types[52].size) (List.drop (0 + (bndI none 0).toNat * Try.prog.types[52].size) (fl4 ps))), [0 + (bndI none 0).toNat * Try.prog.types[52].size + (zadqF_5 ps x y u v) * Try.prog.types[52].size ≤ (fl4 ps).length]).fst) * 4) (List.drop 0 ([] ++ List.take (((zadqF_2 ps x y u v).toNat - 0) * 4) (List.drop 0 (fl4 ps)))) ++ [x, y, u, v])) ++ List.take ((zadqF_4 ps x y u v) * 4) (List.drop (0 + (bndI (zadqF_0 ps x y u v) 0).toNat * 4) (fl4 ps)))⟩]))))))))))))))) := by kernel_rfl
theorem ins_fl4 {ps : List Q4} {k : Nat} (h : k ≤ ps.length) (x y u v : Int) : List.take ((k + 1) * 4) (List.take (k * 4) (List.take (k * 4) (fl4 ps)) ++ [x, y, u, v]) ++ List.take ((ps.length - k) * 4) (List.drop (k * 4) (fl4 ps)) = fl4 (ps.take k ++ ((x, y, u, v) :: ps.drop k)) := by
  have l1 : (ps.take k).length = k := by simp; omega
  have l2 : (ps.drop k).length = ps.length - k := by simp
  have l3 : (ps.take k ++ [(x, y, u, v)]).length = k + 1 := by rw [List.length_append, l1]; rfl
  have e1 : List.take (k + 1) (ps.take k ++ [(x, y, u, v)]) = ps.take k ++ [(x, y, u, v)] := List.take_of_length_le (by omega)
  have e2 : List.take (ps.length - k) (ps.drop k) = ps.drop k := List.take_of_length_le (by omega)
  rw [fl4_take, fl4_take, List.take_take, Nat.min_self, fl4_snoc, fl4_take, fl4_drop, fl4_take, e1, e2, ← fl4_append, List.append_assoc]
  rfl
set_option maxRecDepth 100000 in
theorem ty_rp2 : Try.prog.types[(52 : Nat)].size = 4 := by kernel_rfl
set_option maxHeartbeats 2000000 in
theorem adq_row (ps : List Q4) (x y u v : Int) (h : ps.length ≤ 1000) (ho : ∀ q ∈ ps, okQ q = true) (hp : okB x y u v = true) : (bodyM Try.prog EAq (runM Try.prog EAq 30 12) 30 81 [.slice (some ⟨0, 0, none⟩) ps.length ps.length, .agg #[.int .i64 x, .int .i64 y, .int .i64 u, .int .i64 v]] [some ⟨.row 52 4, .ints (fl4 ps)⟩] .fin).ok (fun _ _ => False) (fun uu mem' => RowIs (.slice (some ⟨0, 0, none⟩) (inQ (x, y, u, v) ps).length (inQ (x, y, u, v) ps).length) ⟨.row 52 4, .ints (fl4 (inQ (x, y, u, v) ps))⟩ uu mem') := by
  rw [tr_adqF]
  try delta zB2 zB4 zR2 zI zadqF_0 zadqF_1 zadqF_2 zadqF_3 zadqF_4 zadqF_5
  have hk := kQ_le (x, y, u, v) ps
  have hi := inQ_is (x, y, u, v) ps
  simp only [List.drop_zero, kZ_is, ty_rp2, q4A_fl4, fl4_length, Nat.zero_add, Int.toNat_natCast, bndI, Nat.sub_zero, Int.toNat_zero, Nat.zero_mul, List.nil_append]
  generalize kQ (x, y, u, v) ps = k at *
  have hfl := ins_fl4 hk x y u v
  refine ⟨trivial, trivial, by omega, by unfold allV4; rw [q4A_fl4]; exact ho, hp, ?_⟩
  simp only [brT_ok, Tree.ok, decide_eq_true_eq, decide_eq_false_iff_not, fl4_get0, fl4_get1, fl4_g2, fl4_g3, hfl]
  have lt2 : (List.take (k * 4) (fl4 ps)).length = k * 4 := by rw [List.length_take, fl4_length]; omega
  have lt3 : (List.take (k * 4) (List.take (k * 4) (fl4 ps)) ++ [x, y, u, v]).length = (k + 1) * 4 := by rw [List.length_append, List.length_take, lt2]; simp; omega
  have fin : inQ (x, y, u, v) ps = ps.take k ++ ((x, y, u, v) :: ps.drop k) → RowIs (.slice (some ⟨0, 0, none⟩) (inQ (x, y, u, v) ps).length (inQ (x, y, u, v) ps).length) ⟨.row 52 4, .ints (fl4 (inQ (x, y, u, v) ps))⟩ (.slice (some ⟨6, 0, none⟩) (k + 1 + (ps.length - k)) (k + 1 + (ps.length - k)))
      [some ⟨.row 52 4, .ints (fl4 ps)⟩, some ⟨.box, .vals [.int .i64 x, .int .i64 y, .int .i64 u, .int .i64 v]⟩, some deadB, some deadB, some ⟨.row 52 4, .vals [.int .i64 x, .int .i64 y, .int .i64 u, .int .i64 v]⟩, some deadB, some ⟨.row 52 4, .ints (fl4 (ps.take k ++ ((x, y, u, v) :: ps.drop k)))⟩] := fun e => by
    have l : (inQ (x, y, u, v) ps).length = k + 1 + (ps.length - k) := by rw [e]; simp; omega
    rw [l, e]
    exact ⟨some 6, ⟨rfl, rfl, rfl⟩, rfl, rfl, rfl⟩
  refine ⟨fun hlt => ⟨by omega, by omega, fun g => ?_, fun g => ?_⟩, fun hge => ?_⟩
  · have e : inQ (x, y, u, v) ps = ps := by
      have g : (ps.getD k z4 == (x, y, u, v)) = true := (eq_q4 (ps.getD k z4) (x, y, u, v)).symm.trans g
      rw [hi, if_pos ⟨by omega, beq_iff_eq.1 g⟩]
    rw [e]
    exact ⟨some 0, ⟨rfl, rfl, rfl⟩, rfl, rfl, rfl⟩
  · have e : inQ (x, y, u, v) ps = ps.take k ++ ((x, y, u, v) :: ps.drop k) := by
      rw [hi, if_neg]
      rintro ⟨_, e⟩
      have g : (ps.getD k z4 == (x, y, u, v)) = false := (eq_q4 (ps.getD k z4) (x, y, u, v)).symm.trans g
      exact beq_eq_false_iff_ne.1 g e
    exact ⟨by omega, by omega, by omega, by omega, by omega, by omega, by omega, by omega, by omega, fin e⟩
  · have e : inQ (x, y, u, v) ps = ps.take k ++ ((x, y, u, v) :: ps.drop k) := by
      rw [hi, if_neg]
      rintro ⟨h1, _⟩
      omega
    exact ⟨by omega, by omega, by omega, by omega, by omega, by omega, by omega, by omega, by omega, fin e⟩
/-- The list with a point more, of plain numbers. -/
def inZ (x y u v : Int) (n : Nat) (xs : List Int) : List Q4 := inQ (x, y, u, v) (q4A n xs)
/-- The model's addPoint: it takes over a list. -/
def adqS : OSpec := fun e sz l xs rest => match e, sz, rest with
  | 52, 4, [.agg ⟨[.int .i64 x, .int .i64 y, .int .i64 u, .int .i64 v]⟩] => some (.slice (some ⟨0, 0, none⟩) (inZ x y u v l xs).length (inZ x y u v l xs).length, ⟨.row 52 4, .ints (fl4 (inZ x y u v l xs))⟩, [xs.length = l * 4, l ≤ 1000, allV4 l xs, okB x y u v = true])
  | _, _, _ => none
set_option maxRecDepth 100000 in
theorem adqS_ok : OSpecOk Try.prog 81 adqS := by
  intro e sz l xs rest v b C h hC
  unfold adqS at h
  split at h
  rotate_left
  · cases h
  obtain ⟨rfl, rfl, rfl⟩ : _ ∧ _ ∧ _ := by simpa using h
  obtain ⟨h1, h2, h3, h4, _⟩ := hC
  obtain ⟨ps, rfl, rfl⟩ := four_fl4 h1
  unfold allV4 at h3
  unfold inZ
  rw [q4A_fl4] at h3 ⊢
  exact ⟨rfl, EAq, 30, 12, EAq_ok, adq_row ps _ _ _ _ h2 h3 h4⟩
end Go.Proofs.Ytolodncpegajkaa
namespace Go.Proofs.Ytolodncpegajkaa
set_option linter.all false
open Go.RowKit
/-- The points where segments cross, of so many pairs, in order. -/
def cmL (xs : List Int) (n : Nat) : Nat → List Q4
  | 0 => []
  | t + 1 => bif cpQ xs n t then inQ (xpAt xs (prA n t).1 (prA n t).2) (cmL xs n t) else cmL xs n t
theorem inQ_len (p : Q4) : ∀ ps : List Q4, (inQ p ps).length ≤ ps.length + 1
  | [] => Nat.le_refl _
  | q :: r => by
    have := inQ_len p r
    simp only [inQ]
    split
    · simp; omega
    · split <;> simp
theorem cmL_len (xs : List Int) (n : Nat) : ∀ t, (cmL xs n t).length ≤ t
  | 0 => Nat.le_refl _
  | t + 1 => by
    have := cmL_len xs n t
    have h2 := inQ_len (xpAt xs (prA n t).1 (prA n t).2) (cmL xs n t)
    simp only [cmL]
    cases cpQ xs n t <;> simp <;> omega
theorem cmL_ok {xs : List Int} {n : Nat} (hv : vsB n xs = true) : ∀ t, t ≤ offR n 0 n → ∀ q ∈ cmL xs n t, okQ q = true
  | 0, _, q, h => by simp [cmL] at h
  | t + 1, ht, q, h => by
    have ih := cmL_ok hv t (by omega)
    simp only [cmL] at h
    rcases hc : cpQ xs n t with _ | _
    · rw [hc] at h
      exact ih q h
    · rw [hc] at h
      rcases (inQ_mem _ _ q).1 h with h | rfl
      · exact ih q h
      · obtain ⟨l1, l2⟩ := prA_lt2 (n := n) (t := t) (by omega)
        exact xpAt_ok hv l1 l2 (beq_iff_eq.1 hc)
def JAq : TabJ := consR 81 (owG adqS) noJ
theorem JAq_ok : GSound Try.prog JAq.g := consO_ok mixed (failG_sound _) (entersB_res (by kernel_rfl)).1 adqS_ok
def ECm : Env := withT (mkE TCq (fun _ _ => none) (fun _ => noL)) JAq
theorem ECm_ok : EnvOk Try.prog ECm := withT_ok (mkEOk TCq_ok (fun _ _ _ _ _ h => (by cases h)) (fun _ _ _ => noL_good)) JAq_ok
noncomputable def c_ciI : Code := ((loopsOf (codeOf Try.f31))[1]?).getD .skip
def k_ciI : Ex → List Nat := keeps [0, 3, 4, 5] [(2, [0, 3, 4]), (1, [0, 3, 4]), (0, [3])] [2]
def s_ciI (xs : List Int) (n i : Nat) : Nat → St := fun j => ⟨(.slice (some ⟨0, 0, none⟩) n n :: topV :: topV :: .slice (some ⟨3, 0, none⟩) (cmL xs n (offR n 0 i + j)).length (cmL xs n (offR n 0 i + j)).length :: .int .i64 i :: .int .i64 (i + 1 + j : Nat) :: topV :: topV :: topV :: topV :: topV :: topV :: topV :: topV :: topV :: topV :: topV :: topV :: topV :: topV :: topV :: topV :: topV :: topV :: topV :: topV :: topV :: topV :: topV :: topV :: topV :: topV :: topV :: topV :: topV :: topV :: topV :: topV :: topV :: topV :: topV :: topV :: topV :: topV :: topV :: topV :: []), [some ⟨.view, .ints xs⟩, some ⟨.dead, .vals []⟩, some ⟨.dead, .vals []⟩, some ⟨.row 52 4, .ints (fl4 (cmL xs n (offR n 0 i + j)))⟩]⟩
def re_ciI : Nat → Ex := fun _ => .exit 2
def rs_ciI (xs : List Int) (n i : Nat) : Nat → St := fun j => ⟨(.slice (some ⟨0, 0, none⟩) n n :: topV :: topV :: .slice (some ⟨3, 0, none⟩) (cmL xs n (offR n 0 (i + 1))).length (cmL xs n (offR n 0 (i + 1))).length :: .int .i64 i :: topV :: topV :: topV :: topV :: topV :: topV :: topV :: topV :: topV :: topV :: topV :: topV :: topV :: topV :: topV :: topV :: topV :: topV :: topV :: topV :: topV :: topV :: topV :: topV :: topV :: topV :: topV :: topV :: topV :: topV :: topV :: topV :: topV :: topV :: topV :: topV :: topV :: topV :: topV :: topV :: topV :: []), [some ⟨.view, .ints xs⟩, some ⟨.dead, .vals []⟩, some ⟨.dead, .vals []⟩, some ⟨.row 52 4, .ints (fl4 (cmL xs n (offR n 0 (i + 1))))⟩]⟩
abbrev zciI_0 (xs : List Int) (n : Nat) (i : Nat) (j : Nat) := (inZ (xp1 (xs.getD (0 + (↑i : Int).toNat * 4) 0) (xs.getD (0 + (↑i : Int).toNat * 4 + 1) 0) (xs.getD (0 + (↑i : Int).toNat * 4 + 1 + 1) 0) (xs.getD (0 + (↑i : Int).toNat * 4 + 1 + 1 + 1) 0) (xs.getD (0 + (↑(i + 1 + j) : Int).toNat * 4) 0) (xs.getD (0 + (↑(i + 1 + j) : Int).toNat * 4 + 1) 0) (xs.getD (0 + (↑(i + 1 + j) : Int).toNat * 4 + 1 + 1) 0) (xs.getD (0 + (↑(i + 1 + j) : Int).toNat * 4 + 1 + 1 + 1) 0)) (xp2 (xs.getD (0 + (↑i : Int).toNat * 4) 0) (xs.getD (0 + (↑i : Int).toNat * 4 + 1) 0) (xs.getD (0 + (↑i : Int).toNat * 4 + 1 + 1) 0) (xs.getD (0 + (↑i : Int).toNat * 4 + 1 + 1 + 1) 0) (xs.getD (0 + (↑(i + 1 + j) : Int).toNat * 4) 0) (xs.getD (0 + (↑(i + 1 + j) : Int).toNat * 4 + 1) 0) (xs.getD (0 + (↑(i + 1 + j) : Int).toNat * 4 + 1 + 1) 0) (xs.getD (0 + (↑(i + 1 + j) : Int).toNat * 4 + 1 + 1 + 1) 0)) (xp3 (xs.getD (0 + (↑i : Int).toNat * 4) 0) (xs.getD (0 + (↑i : Int).toNat * 4 + 1) 0) (xs.getD (0 + (↑i : Int).toNat * 4 + 1 + 1) 0) (xs.getD (0 + (↑i : Int).toNat * 4 + 1 + 1 + 1) 0) (xs.getD (0 + (↑(i + 1 + j) : Int).toNat * 4) 0) (xs.getD (0 + (↑(i + 1 + j) : Int).toNat * 4 + 1) 0) (xs.getD (0 + (↑(i + 1 + j) : Int).toNat * 4 + 1 + 1) 0) (xs.getD (0 + (↑(i + 1 + j) : Int).toNat * 4 + 1 + 1 + 1) 0)) (xp4 (xs.getD (0 + (↑i : Int).toNat * 4) 0) (xs.getD (0 + (↑i : Int).toNat * 4 + 1) 0) (xs.getD (0 + (↑i : Int).toNat * 4 + 1 + 1) 0) (xs.getD (0 + (↑i : Int).toNat * 4 + 1 + 1 + 1) 0) (xs.getD (0 + (↑(i + 1 + j) : Int).toNat * 4) 0) (xs.getD (0 + (↑(i + 1 + j) : Int).toNat * 4 + 1) 0) (xs.getD (0 + (↑(i + 1 + j) : Int).toNat * 4 + 1 + 1) 0) (xs.getD (0 + (↑(i + 1 + j) : Int).toNat * 4 + 1 + 1 + 1) 0)) (cmL xs n (offR n 0 i + j)).length (fl4 (cmL xs n (offR n 0 i + j))))
abbrev zciI_1 (xs : List Int) (i : Nat) (j : Nat) := (xs.getD ((0 : Nat) + (↑(i + (1 : Nat) + j) : Int).toNat * (4 : Nat) + (1 : Nat) + (1 : Nat) + (1 : Nat)) (0 : Int))
abbrev zciI_2 (xs : List Int) (i : Nat) (j : Nat) := (xs.getD ((0 : Nat) + (↑(i + (1 : Nat) + j) : Int).toNat * (4 : Nat) + (1 : Nat) + (1 : Nat)) (0 : Int))
abbrev zciI_3 (xs : List Int) (i : Nat) (j : Nat) := (xs.getD ((0 : Nat) + (↑(i + (1 : Nat) + j) : Int).toNat * (4 : Nat) + (1 : Nat)) (0 : Int))
abbrev zciI_4 (xs : List Int) (i : Nat) := (xs.getD ((0 : Nat) + (↑i : Int).toNat * (4 : Nat) + (1 : Nat) + (1 : Nat) + (1 : Nat)) (0 : Int))
abbrev zciI_5 (xs : List Int) (i : Nat) (j : Nat) := (xs.getD ((0 : Nat) + (↑(i + (1 : Nat) + j) : Int).toNat * (4 : Nat)) (0 : Int))
abbrev zciI_6 (xs : List Int) (i : Nat) := (xs.getD ((0 : Nat) + (↑i : Int).toNat * (4 : Nat) + (1 : Nat) + (1 : Nat)) (0 : Int))
set_option maxRecDepth 100000 in
theorem tr_ciI (xs : List Int) (n i : Nat) (j : Nat) : bodyL Try.prog ECm 30 12 noL 2 c_ciI k_ciI 16 (s_ciI xs n i j) = brT (decide ((↑(i + 1 + j) : Int) < (↑n : Int))) (.need (ptB (xs.getD ((0 : Nat) + (↑i : Int).toNat * (4 : Nat)) (0 : Int)) (xs.getD ((0 : Nat) + (↑i : Int).toNat * (4 : Nat) + (1 : Nat)) (0 : Int)) = true) (.need (ptB (zciI_6 xs i) (zciI_4 xs i) = true) (.need (ptB (zciI_5 xs i j) (zciI_3 xs i j) = true) (.need (ptB (zciI_2 xs i j) (zciI_1 xs i j) = true) (.need ((0 : Int) ≤ (↑i : Int) ∧ (↑i : Int) < (↑n : Int)) (.need ((0 : Nat) + (↑i : Int).toNat * (4 : Nat) + (4 : Nat) ≤ xs.length) (.need ((0 : Int) ≤ (↑(i + (1 : Nat) + j) : Int) ∧ (↑(i + (1 : Nat) + j) : Int) < (↑n : Int)) (.need ((0 : Nat) + (↑(i + (1 : Nat) + j) : Int).toNat * (4 : Nat) + (4 : Nat) ≤ xs.length) (brT (relA (xs.getD (0 + (↑i : Int).toNat * 4) 0) (xs.getD (0 + (↑i : Int).toNat * 4 + 1) 0) (xs.getD (0 + (↑i : Int).toNat * 4 + 1 + 1) 0) (xs.getD (0 + (↑i : Int).toNat * 4 + 1 + 1 + 1) 0) (xs.getD (0 + (↑(i + 1 + j) : Int).toNat * 4) 0) (xs.getD (0 + (↑(i + 1 + j) : Int).toNat * 4 + 1) 0) (xs.getD (0 + (↑(i + 1 + j) : Int).toNat * 4 + 1 + 1) 0) (xs.getD (0 + (↑(i + 1 + j) : Int).toNat * 4 + 1 + 1 + 1) 0) == 2) (.need (ptB (xs.getD ((0 : Nat) + (↑i : Int).toNat * (4 : Nat)) (0 : Int)) (xs.getD ((0 : Nat) + (↑i : Int).toNat * (4 : Nat) + (1 : Nat)) (0 : Int)) = true) (.need (ptB (zciI_6 xs i) (zciI_4 xs i) = true) (.need (ptB (zciI_5 xs i j) (zciI_3 xs i j) = true) (.need (ptB (zciI_2 xs i j) (zciI_1 xs i j) = true) (.need (¬crossI (zciI_5 xs i j) (zciI_3 xs i j) (zciI_2 xs i j) (zciI_1 xs i j) (xs.getD ((0 : Nat) + (↑i : Int).toNat * (4 : Nat)) (0 : Int)) (xs.getD ((0 : Nat) + (↑i : Int).toNat * (4 : Nat) + (1 : Nat)) (0 : Int)) = crossI (zciI_5 xs i j) (zciI_3 xs i j) (zciI_2 xs i j) (zciI_1 xs i j) (zciI_6 xs i) (zciI_4 xs i)) (.need ((0 : Int) ≤ (↑i : Int) ∧ (↑i : Int) < (↑n : Int)) (.need ((0 : Nat) + (↑i : Int).toNat * (4 : Nat) + (4 : Nat) ≤ xs.length) (.need ((0 : Int) ≤ (↑(i + (1 : Nat) + j) : Int) ∧ (↑(i + (1 : Nat) + j) : Int) < (↑n : Int)) (.need ((0 : Nat) + (↑(i + (1 : Nat) + j) : Int).toNat * (4 : Nat) + (4 : Nat) ≤ xs.length) (.need ((fl4 (cmL xs n (offR n (0 : Nat) i + j))).length = (cmL xs n (offR n (0 : Nat) i + j)).length * (4 : Nat)) (.need ((cmL xs n (offR n (0 : Nat) i + j)).length ≤ (1000 : Nat)) (.need (allV4 (cmL xs n (offR n (0 : Nat) i + j)).length (fl4 (cmL xs n (offR n (0 : Nat) i + j)))) (.need (okB (xp1 (xs.getD ((0 : Nat) + (↑i : Int).toNat * (4 : Nat)) (0 : Int)) (xs.getD ((0 : Nat) + (↑i : Int).toNat * (4 : Nat) + (1 : Nat)) (0 : Int)) (zciI_6 xs i) (zciI_4 xs i) (zciI_5 xs i j) (zciI_3 xs i j) (zciI_2 xs i j) (zciI_1 xs i j)) (xp2 (xs.getD ((0 : Nat) + (↑i : Int).toNat * (4 : Nat)) (0 : Int)) (xs.getD ((0 : Nat) + (↑i : Int).toNat * (4 : Nat) + (1 : Nat)) (0 : Int)) (zciI_6 xs i) (zciI_4 xs i) (zciI_5 xs i j) (zciI_3 xs i j) (zciI_2 xs i j) (zciI_1 xs i j)) (xp3 (xs.getD ((0 : Nat) + (↑i : Int).toNat * (4 : Nat)) (0 : Int)) (xs.getD ((0 : Nat) + (↑i : Int).toNat * (4 : Nat) + (1 : Nat)) (0 : Int)) (zciI_6 xs i) (zciI_4 xs i) (zciI_5 xs i j) (zciI_3 xs i j) (zciI_2 xs i j) (zciI_1 xs i j)) (xp4 (xs.getD ((0 : Nat) + (↑i : Int).toNat * (4 : Nat)) (0 : Int)) (xs.getD ((0 : Nat) + (↑i : Int).toNat * (4 : Nat) + (1 : Nat)) (0 : Int)) (zciI_6 xs i) (zciI_4 xs i) (zciI_5 xs i j) (zciI_3 xs i j) (zciI_2 xs i j) (zciI_1 xs i j)) = true) (.leaf .normal ⟨(.slice (some ⟨0, 0, none⟩) (n) (n) :: topV :: topV :: .slice (some ⟨6, 0, none⟩) ((zciI_0 xs n i j).length) ((zciI_0 xs n i j).length) :: zI ((↑i : Int)) :: .int .i64 (IntKind.i64.wrap ((↑(i + 1 + j) : Int) + 1)) :: topV :: topV :: topV :: topV :: topV :: topV :: topV :: topV :: topV :: topV :: topV :: topV :: topV :: topV :: topV :: topV :: topV :: topV :: topV :: topV :: topV :: topV :: topV :: topV :: topV :: topV :: topV :: topV :: topV :: topV :: topV :: topV :: topV :: topV :: topV :: topV :: topV :: topV :: topV :: topV :: []), [some ⟨.view, .ints (xs)⟩, some deadB, some deadB, some deadB, none, none, some ⟨.row 52 4, .ints (fl4 (zciI_0 xs n i j))⟩]⟩)))))))))))))) (.leaf .normal ⟨(.slice (some ⟨0, 0, none⟩) (n) (n) :: topV :: topV :: .slice (some ⟨3, 0, none⟩) ((cmL xs n (offR n 0 i + j)).length) ((cmL xs n (offR n 0 i + j)).length) :: zI ((↑i : Int)) :: .int .i64 (IntKind.i64.wrap ((↑(i + 1 + j) : Int) + 1)) :: topV :: topV :: topV :: topV :: topV :: topV :: topV :: topV :: topV :: topV :: topV :: topV :: topV :: topV :: topV :: topV :: topV :: topV :: topV :: topV :: topV :: topV :: topV :: topV :: topV :: topV :: topV :: topV :: topV :: topV :: topV :: topV :: topV :: topV :: topV :: topV :: topV :: topV :: topV :: topV :: []), [some ⟨.view, .ints (xs)⟩, some deadB, some deadB, some ⟨.row 52 4, .ints (fl4 (cmL xs n (offR n 0 i + j)))⟩, none]⟩)))))))))) (.leaf (.exit 2) ⟨(.slice (some ⟨0, 0, none⟩) (n) (n) :: topV :: topV :: .slice (some ⟨3, 0, none⟩) ((cmL xs n (offR n 0 i + j)).length) ((cmL xs n (offR n 0 i + j)).length) :: zI ((↑i : Int)) :: topV :: topV :: topV :: topV :: topV :: topV :: topV :: topV :: topV :: topV :: topV :: topV :: topV :: topV :: topV :: topV :: topV :: topV :: topV :: topV :: topV :: topV :: topV :: topV :: topV :: topV :: topV :: topV :: topV :: topV :: topV :: topV :: topV :: topV :: topV :: topV :: topV :: topV :: topV :: topV :: topV :: []), [some ⟨.view, .ints (xs)⟩, some deadB, some deadB, some ⟨.row 52 4, .ints (fl4 (cmL xs n (offR n 0 i + j)))⟩]⟩) := by kernel_rfl
set_option maxRecDepth 100000 in
theorem nl_ciI : loopsOf c_ciI = [] := by kernel_rfl
def inv_ciI (xs : List Int) (n i : Nat) : Nat → Prop := fun j => i + 1 + j ≤ n
def me_ciI (xs : List Int) (n i : Nat) : Nat → Nat := fun j => n - (i + 1 + j)
/-- A round of this loop. -/
def Round_ciI (xs : List Int) (n i : Nat) : Prop := ∀ xx : Nat, inv_ciI xs n i xx → (bodyL Try.prog ECm 30 12 noL 2 c_ciI k_ciI 16 (s_ciI xs n i xx)).ok (RoundEnd 3 (s_ciI xs n i) (inv_ciI xs n i) (me_ciI xs n i) re_ciI (rs_ciI xs n i) xx) (fun _ _ => False)
def e_ciI (s : St) (k : Ex → St → Tree) : Option Tree := match Nat.beq s.tmps.length 46, pickL s.tmps [0, 3, 4, 5], s.mem with
  | true, [.slice (some ⟨0, 0, none⟩) n _, .slice (some ⟨2, 0, none⟩) m _, .int .i64 ii, .int .i64 kk], [some ⟨.view, .ints xs⟩, some ⟨.dead, .vals []⟩, some ⟨.row 52 4, .ints ys⟩] => some (needs [0 ≤ ii, kk = ii + 1, xs.length = n * 4, n ≤ 12, vsB n xs = true, ii < n, ys = fl4 (cmL xs n (offR n 0 ii.toNat)), m = (cmL xs n (offR n 0 ii.toNat)).length] (k (.exit 2) ⟨(.slice (some ⟨0, 0, none⟩) n n :: topV :: topV :: .slice (some ⟨3, 0, none⟩) (cmL xs n (offR n 0 (ii.toNat + 1))).length (cmL xs n (offR n 0 (ii.toNat + 1))).length :: .int .i64 ii :: topV :: topV :: topV :: topV :: topV :: topV :: topV :: topV :: topV :: topV :: topV :: topV :: topV :: topV :: topV :: topV :: topV :: topV :: topV :: topV :: topV :: topV :: topV :: topV :: topV :: topV :: topV :: topV :: topV :: topV :: topV :: topV :: topV :: topV :: topV :: topV :: topV :: topV :: topV :: topV :: topV :: []), [some ⟨.view, .ints xs⟩, some ⟨.dead, .vals []⟩, some ⟨.dead, .vals []⟩, some ⟨.row 52 4, .ints (fl4 (cmL xs n (offR n 0 (ii.toNat + 1))))⟩]⟩))
  | _, _, _ => none
theorem inZ_is (x y u v : Int) (ps : List Q4) : inZ x y u v ps.length (fl4 ps) = inQ (x, y, u, v) ps := by
  unfold inZ
  rw [q4A_fl4]
set_option maxRecDepth 100000 in
set_option maxHeartbeats 2000000 in
theorem round_ciI (xs : List Int) (n i : Nat) (hx : xs.length = n * 4) (h : n ≤ 12) (hv : vsB n xs = true) (hi : i < n) : Round_ciI xs n i := by
  intro j h1
  have h1 : i + 1 + j ≤ n := h1
  rw [tr_ciI]
  try delta zB2 zB4 zR2 zI zciI_0 zciI_1 zciI_2 zciI_3 zciI_4 zciI_5 zciI_6
  have hl := cmL_len xs n (offR n 0 i + j)
  have hb := offR_le n n 0
  have hm := offR_mono n (show i ≤ n by omega)
  have hnn : n * n ≤ 12 * 12 := Nat.mul_le_mul h h
  have fl := fl4_length (cmL xs n (offR n 0 i + j))
  simp only [Int.toNat_natCast, Nat.zero_add, fl4B, List.drop_zero, inZ_is]
  refine brT_ok.2 ⟨fun hlt => ?_, fun hge => ?_⟩
  · have hlt : i + 1 + j < n := by have := of_decide_eq_true hlt; omega
    have ep : prA n (offR n 0 i + j) = (i, i + 1 + j) := by
      have := prA_at (n := n) (a := i) (b := i + 1 + j) (by omega) hlt
      rwa [show i + 1 + j - i - 1 = j by omega] at this
    have ol : offR n 0 i + j < offR n 0 n := by
      have := off_lt (n := n) (a := i) (b := i + 1 + j) (by omega) hlt
      rwa [show i + 1 + j - i - 1 = j by omega] at this
    have eq : cpQ xs n (offR n 0 i + j) = (relA (xs.getD (i * 4) 0) (xs.getD (i * 4 + 1) 0) (xs.getD (i * 4 + 2) 0) (xs.getD (i * 4 + 3) 0) (xs.getD ((i + 1 + j) * 4) 0) (xs.getD ((i + 1 + j) * 4 + 1) 0) (xs.getD ((i + 1 + j) * 4 + 2) 0) (xs.getD ((i + 1 + j) * 4 + 3) 0) == 2) := by
      unfold cpQ
      rw [ep, rl4_A hv hi hlt]
    have ok := cmL_ok hv (offR n 0 i + j) (by omega)
    obtain ⟨p1, p2⟩ := slQ_pt (vs_seg hv hi)
    obtain ⟨p3, p4⟩ := slQ_pt (vs_seg hv hlt)
    rw [wsucc (n := n) hlt (by omega)]
    refine ⟨p1, p2, p3, p4, ⟨by omega, by omega⟩, by omega, ⟨by omega, by omega⟩, by omega, brT_ok.2 ⟨fun c => ?_, fun c => ?_⟩⟩
    · have c : cpQ xs n (offR n 0 i + j) = true := eq.trans c
      have cr := c
      unfold cpQ at cr
      rw [ep] at cr
      obtain ⟨_, _, _, _, p5⟩ := cp_yes hv hi hlt (beq_iff_eq.1 cr)
      have e : cmL xs n (offR n 0 i + (j + 1)) = inQ (xpAt xs i (i + 1 + j)) (cmL xs n (offR n 0 i + j)) := by
        show cmL xs n (offR n 0 i + j + 1) = _
        simp only [cmL, c, cond_true, ep]
      have oa : okQ (xpAt xs i (i + 1 + j)) = true := xpAt_ok hv hi hlt (beq_iff_eq.1 cr)
      refine ⟨p1, p2, p3, p4, p5, ⟨by omega, by omega⟩, by omega, ⟨by omega, by omega⟩, by omega, fl, by omega, by unfold allV4; rw [q4A_fl4]; exact ok, oa, j + 1, [some 6], ?_, ?_, rfl, rfl, ?_⟩
      · show i + 1 + (j + 1) ≤ n; omega
      · show n - (i + 1 + (j + 1)) < n - (i + 1 + j); omega
      · unfold s_ciI
        rw [e]
        repeat' (first | exact True.intro | exact rfl | exact fun _ => rfl | (simp; done) | refine And.intro ?_ ?_)
    · have e : cmL xs n (offR n 0 i + (j + 1)) = cmL xs n (offR n 0 i + j) := by
        show cmL xs n (offR n 0 i + j + 1) = _
        have c : cpQ xs n (offR n 0 i + j) = false := eq.trans c
        simp only [cmL, c, cond_false]
      refine ⟨j + 1, [some 3], ?_, ?_, rfl, rfl, ?_⟩
      · show i + 1 + (j + 1) ≤ n; omega
      · show n - (i + 1 + (j + 1)) < n - (i + 1 + j); omega
      · unfold s_ciI
        rw [e]
        repeat' (first | exact True.intro | exact rfl | exact fun _ => rfl | (simp; done) | refine And.intro ?_ ?_)
  · have hge := of_decide_eq_false hge
    have e : offR n 0 (i + 1) = offR n 0 i + j := by
      rw [offR_succ]
      omega
    refine ⟨rfl, [some 3], ?_⟩
    unfold rs_ciI
    rw [e]
    repeat' (first | exact True.intro | exact rfl | exact fun _ => rfl | (simp; done) | refine And.intro ?_ ?_)
set_option maxRecDepth 100000 in
theorem lg_ciI : LoopE Try.prog e_ciI c_ciI := by
  intro s k t F H hlt ht
  unfold e_ciI at hlt
  split at hlt
  rotate_left
  · cases hlt
  rename_i hlen hpick hmem
  obtain ⟨tmps, mem⟩ := s
  simp only at hlen hpick hmem
  subst hmem
  obtain rfl := Option.some.inj hlt
  obtain ⟨⟨h0, h1, h2, h3, h4, h5, h6, h7, _⟩, ht2⟩ := needs_ok ht
  clear ht hlt
  subst h6 h7
  obtain ⟨i, rfl⟩ := Int.eq_ofNat_of_zero_le h0
  simp only [Int.toNat_natCast] at ht2
  obtain rfl := h1
  refine ⟨_, _, ht2, loop_run2 mixed ECm_ok (s_ciI _ _ i) (inv_ciI _ _ i) (me_ciI _ _ i) re_ciI (rs_ciI _ _ i) k_ciI (fun _ => rfl) (noLoops nl_ciI) (round_ciI _ _ i h2 h3 h4 (by omega)) (x := 0) (by show i + 1 + 0 ≤ _; omega) (π := [some 2]) rfl ?_⟩
  refine ⟨rfl, rfl, ?_, wvs_spread' [0, 3, 4, 5] hlen rfl ?_⟩
  · repeat' (first | exact True.intro | exact rfl | exact wv_top _ _ | exact fun _ => rfl | assumption | exact Eq.symm (by assumption) | exact vI0 rfl | refine And.intro ?_ ?_)
  · rw [hpick]
    repeat' (first | exact True.intro | exact rfl | exact wv_top _ _ | exact fun _ => rfl | assumption | exact Eq.symm (by assumption) | exact vI0 rfl | refine And.intro ?_ ?_)
def ltCi : LT := fun j s k => match j with
  | 1 => e_ciI s k
  | _ => none
noncomputable def c_ciO : Code := ((loopsOf (codeOf Try.f31))[0]?).getD .skip
def k_ciO : Ex → List Nat := keeps [0, 3, 4] [(0, [3])] [2]
def s_ciO (xs : List Int) (n : Nat) : Nat → St := fun i => ⟨(.slice (some ⟨0, 0, none⟩) n n :: topV :: topV :: .slice (some ⟨2, 0, none⟩) (cmL xs n (offR n 0 i)).length (cmL xs n (offR n 0 i)).length :: .int .i64 i :: topV :: topV :: topV :: topV :: topV :: topV :: topV :: topV :: topV :: topV :: topV :: topV :: topV :: topV :: topV :: topV :: topV :: topV :: topV :: topV :: topV :: topV :: topV :: topV :: topV :: topV :: topV :: topV :: topV :: topV :: topV :: topV :: topV :: topV :: topV :: topV :: topV :: topV :: topV :: topV :: topV :: []), [some ⟨.view, .ints xs⟩, some ⟨.dead, .vals []⟩, some ⟨.row 52 4, .ints (fl4 (cmL xs n (offR n 0 i)))⟩]⟩
def re_ciO : Nat → Ex := fun _ => .exit 0
def rs_ciO (xs : List Int) (n : Nat) : Nat → St := fun i => ⟨(topV :: topV :: topV :: .slice (some ⟨2, 0, none⟩) (cmL xs n (offR n 0 n)).length (cmL xs n (offR n 0 n)).length :: topV :: topV :: topV :: topV :: topV :: topV :: topV :: topV :: topV :: topV :: topV :: topV :: topV :: topV :: topV :: topV :: topV :: topV :: topV :: topV :: topV :: topV :: topV :: topV :: topV :: topV :: topV :: topV :: topV :: topV :: topV :: topV :: topV :: topV :: topV :: topV :: topV :: topV :: topV :: topV :: topV :: topV :: []), [some ⟨.view, .ints xs⟩, some ⟨.dead, .vals []⟩, some ⟨.row 52 4, .ints (fl4 (cmL xs n (offR n 0 n)))⟩]⟩
set_option maxRecDepth 100000 in
theorem tr_ciO (xs : List Int) (n : Nat) (i : Nat) : bodyL Try.prog ECm 30 12 ltCi 1 c_ciO k_ciO 16 (s_ciO xs n i) = brT (decide ((↑i : Int) < (↑n : Int))) (.need ((0 : Int) ≤ (↑i : Int)) (.need (IntKind.i64.wrap ((↑i : Int) + (1 : Int)) = (↑i : Int) + (1 : Int)) (.need (xs.length = n * (4 : Nat)) (.need (n ≤ (12 : Nat)) (.need (vsB n xs = true) (.need ((↑i : Int) < (↑n : Int)) (.need (fl4 (cmL xs n (offR n (0 : Nat) i)) = fl4 (cmL xs n (offR n (0 : Nat) (↑i : Int).toNat))) (.need ((cmL xs n (offR n (0 : Nat) i)).length = (cmL xs n (offR n (0 : Nat) (↑i : Int).toNat)).length) (.leaf .normal ⟨(.slice (some ⟨0, 0, none⟩) (n) (n) :: topV :: topV :: .slice (some ⟨3, 0, none⟩) ((cmL xs n (offR n 0 ((↑i : Int).toNat + 1))).length) ((cmL xs n (offR n 0 ((↑i : Int).toNat + 1))).length) :: .int .i64 (IntKind.i64.wrap ((↑i : Int) + 1)) :: topV :: topV :: topV :: topV :: topV :: topV :: topV :: topV :: topV :: topV :: topV :: topV :: topV :: topV :: topV :: topV :: topV :: topV :: topV :: topV :: topV :: topV :: topV :: topV :: topV :: topV :: topV :: topV :: topV :: topV :: topV :: topV :: topV :: topV :: topV :: topV :: topV :: topV :: topV :: topV :: topV :: []), [some ⟨.view, .ints (xs)⟩, some deadB, some deadB, some ⟨.row 52 4, .ints (fl4 (cmL xs n (offR n 0 ((↑i : Int).toNat + 1))))⟩]⟩))))))))) (.leaf (.exit 0) ⟨(topV :: topV :: topV :: .slice (some ⟨2, 0, none⟩) ((cmL xs n (offR n 0 i)).length) ((cmL xs n (offR n 0 i)).length) :: topV :: topV :: topV :: topV :: topV :: topV :: topV :: topV :: topV :: topV :: topV :: topV :: topV :: topV :: topV :: topV :: topV :: topV :: topV :: topV :: topV :: topV :: topV :: topV :: topV :: topV :: topV :: topV :: topV :: topV :: topV :: topV :: topV :: topV :: topV :: topV :: topV :: topV :: topV :: topV :: topV :: topV :: []), [some ⟨.view, .ints (xs)⟩, some deadB, some ⟨.row 52 4, .ints (fl4 (cmL xs n (offR n 0 i)))⟩]⟩) := by kernel_rfl
def inv_ciO (xs : List Int) (n : Nat) : Nat → Prop := fun i => i ≤ n
def me_ciO (xs : List Int) (n : Nat) : Nat → Nat := fun i => n - i
/-- A round of this loop. -/
def Round_ciO (xs : List Int) (n : Nat) : Prop := ∀ xx : Nat, inv_ciO xs n xx → (bodyL Try.prog ECm 30 12 ltCi 1 c_ciO k_ciO 16 (s_ciO xs n xx)).ok (RoundEnd 2 (s_ciO xs n) (inv_ciO xs n) (me_ciO xs n) re_ciO (rs_ciO xs n) xx) (fun _ _ => False)
def e_ciO (s : St) (k : Ex → St → Tree) : Option Tree := match Nat.beq s.tmps.length 46, pickL s.tmps [0, 3, 4], s.mem with
  | true, [.slice (some ⟨0, 0, none⟩) n _, .slice (some ⟨1, 0, none⟩) z _, .int .i64 ii], [some ⟨.view, .ints xs⟩, some ⟨.row 52 4, .vals []⟩] => some (needs [ii = 0, z = 0, xs.length = n * 4, n ≤ 12, vsB n xs = true] (k (.exit 0) ⟨(topV :: topV :: topV :: .slice (some ⟨2, 0, none⟩) (cmL xs n (offR n 0 n)).length (cmL xs n (offR n 0 n)).length :: topV :: topV :: topV :: topV :: topV :: topV :: topV :: topV :: topV :: topV :: topV :: topV :: topV :: topV :: topV :: topV :: topV :: topV :: topV :: topV :: topV :: topV :: topV :: topV :: topV :: topV :: topV :: topV :: topV :: topV :: topV :: topV :: topV :: topV :: topV :: topV :: topV :: topV :: topV :: topV :: topV :: topV :: []), [some ⟨.view, .ints xs⟩, some ⟨.dead, .vals []⟩, some ⟨.row 52 4, .ints (fl4 (cmL xs n (offR n 0 n)))⟩]⟩))
  | _, _, _ => none
set_option maxRecDepth 100000 in
theorem in_ciO : loopsOf c_ciO = [c_ciI] := by kernel_rfl
theorem ltCi_good : LoopsGood Try.prog ltCi 1 c_ciO := by
  intro i d hd s k t F H hlt ht
  rw [in_ciO] at hd
  cases i with
  | zero =>
    obtain rfl : c_ciI = d := by simpa using hd
    exact lg_ciI s k t F H hlt ht
  | succ i => simp at hd
set_option maxRecDepth 100000 in
theorem round_ciO (xs : List Int) (n : Nat) (hx : xs.length = n * 4) (h : n ≤ 12) (hv : vsB n xs = true) : Round_ciO xs n := by
  intro i h1
  have h1 : i ≤ n := h1
  rw [tr_ciO]
  refine brT_ok.2 ⟨fun hlt => ?_, fun hge => ?_⟩
  · have hlt : i < n := by have := of_decide_eq_true hlt; omega
    have w : IntKind.i64.wrap ((i : Int) + 1) = ((i + 1 : Nat) : Int) := wsucc (n := n) hlt (by omega)
    rw [w]
    refine ⟨by omega, by omega, hx, h, hv, by omega, rfl, rfl, i + 1, [some 3], ?_, ?_, rfl, rfl, ?_⟩
    · show i + 1 ≤ n; omega
    · show n - (i + 1) < n - i; omega
    · unfold s_ciO
      repeat' (first | exact True.intro | exact rfl | exact fun _ => rfl | (simp; done) | refine And.intro ?_ ?_)
  · have hge := of_decide_eq_false hge
    obtain rfl : i = n := by omega
    refine ⟨rfl, [some 2], ?_⟩
    unfold rs_ciO
    repeat' (first | exact True.intro | exact rfl | exact fun _ => rfl | (simp; done) | refine And.intro ?_ ?_)
set_option maxRecDepth 100000 in
theorem lg_ciO : LoopE Try.prog e_ciO c_ciO := by
  intro s k t F H hlt ht
  unfold e_ciO at hlt
  split at hlt
  rotate_left
  · cases hlt
  rename_i hlen hpick hmem
  obtain ⟨tmps, mem⟩ := s
  simp only at hlen hpick hmem
  subst hmem
  obtain rfl := Option.some.inj hlt
  obtain ⟨⟨rfl, rfl, h2, h3, h4, _⟩, ht2⟩ := needs_ok ht
  clear ht hlt
  refine ⟨_, _, ht2, loop_run2 mixed ECm_ok (s_ciO _ _) (inv_ciO _ _) (me_ciO _ _) re_ciO (rs_ciO _ _) k_ciO (fun _ => rfl) ltCi_good (round_ciO _ _ h2 h3 h4) (x := 0) (Nat.zero_le _) (π := [some 1]) rfl ?_⟩
  refine ⟨rfl, rfl, ?_, wvs_spread' [0, 3, 4] hlen rfl ?_⟩
  · repeat' (first | exact True.intro | exact rfl | exact wv_top _ _ | exact fun _ => rfl | assumption | exact Eq.symm (by assumption) | exact vI0 rfl | refine And.intro ?_ ?_)
  · rw [hpick]
    repeat' (first | exact True.intro | exact rfl | exact wv_top _ _ | exact fun _ => rfl | assumption | exact Eq.symm (by assumption) | exact vI0 rfl | refine And.intro ?_ ?_)
end Go.Proofs.Ytolodncpegajkaa
namespace Go.Proofs.Ytolodncpegajkaa
set_option linter.all false
open Go.RowKit
theorem inQ_up {p : Q4} (hp : okQ p = true) : ∀ {ps : List Q4}, (∀ q ∈ ps, okQ q = true) → ps.Pairwise (fun x y => qLt x y = true) → (inQ p ps).Pairwise fun x y => qLt x y = true
  | [], _, _ => List.pairwise_singleton _ _
  | q :: r, ho, hu => by
    obtain ⟨u1, u2⟩ := List.pairwise_cons.1 hu
    have oq := ho q (List.mem_cons_self ..)
    have or_ : ∀ z ∈ r, okQ z = true := fun z hz => ho z (List.mem_cons_of_mem _ hz)
    simp only [inQ]
    split
    · rename_i hlt
      refine List.pairwise_cons.2 ⟨fun z hz => ?_, inQ_up hp or_ u2⟩
      rcases (inQ_mem p r z).1 hz with hz | rfl
      · exact u1 z hz
      · exact hlt
    · rename_i hlt
      split
      · exact hu
      · rename_i hne
        have hpq : qLt p q = true := by
          rcases qLt_tri hp oq with h | h | h
          · exact h
          · exact absurd h.symm hne
          · exact absurd h hlt
        refine List.pairwise_cons.2 ⟨fun z hz => ?_, hu⟩
        rcases List.mem_cons.1 hz with rfl | hz
        · exact hpq
        · exact qLt_trans hp oq (or_ z hz) hpq (u1 z hz)
/-- Lists in strict order with the same points are the same. -/
theorem asc_eq : ∀ {xs ys : List Q4}, (∀ q ∈ xs, okQ q = true) → xs.Pairwise (fun x y => qLt x y = true) → ys.Pairwise (fun x y => qLt x y = true) → (∀ z, z ∈ xs ↔ z ∈ ys) → xs = ys
  | [], [], _, _, _, _ => rfl
  | [], y :: ys, _, _, _, h => by
    have := (h y).2 List.mem_cons_self
    simp at this
  | x :: xs, [], _, _, _, h => by
    have := (h x).1 List.mem_cons_self
    simp at this
  | x :: xs, y :: ys, ho, hx, hy, h => by
    obtain ⟨x1, x2⟩ := List.pairwise_cons.1 hx
    obtain ⟨y1, y2⟩ := List.pairwise_cons.1 hy
    have e : x = y := by
      rcases List.mem_cons.1 ((h x).1 List.mem_cons_self) with e | g1
      · exact e
      rcases List.mem_cons.1 ((h y).2 List.mem_cons_self) with e | g2
      · exact e.symm
      have k1 := y1 x g1
      have k2 := x1 y g2
      have := qLt_asymm (ho x List.mem_cons_self) (ho y (List.mem_cons_of_mem _ g2)) k2
      rw [this] at k1
      cases k1
    subst e
    refine congrArg (x :: ·) (asc_eq (fun q hq => ho q (List.mem_cons_of_mem _ hq)) x2 y2 fun z => ?_)
    have hz := h z
    simp only [List.mem_cons] at hz
    constructor
    · intro g
      rcases hz.1 (.inr g) with rfl | g2
      · have := x1 z g
        rw [qLt_irr] at this
        cases this
      · exact g2
    · intro g
      rcases hz.2 (.inr g) with rfl | g2
      · have := y1 z g
        rw [qLt_irr] at this
        cases this
      · exact g2
theorem stQ_up {qs : List Q4} (h : ∀ q ∈ qs, okQ q = true) : (stQ qs).Pairwise fun x y => qLt x y = true := by
  have hu := srtQ_up h
  have ho : ∀ q ∈ srtQ qs, okQ q = true := fun q hq => h q ((srtQ_mem qs q).1 hq)
  exact dmN_up ho (fun i j h1 h2 => by
    have := List.pairwise_iff_getElem.1 hu i j (by omega) h2 h1
    simpa [List.getD, h2, show i < (srtQ qs).length by omega] using this) (srtQ qs).length (Nat.le_refl _)
theorem cp_cm (xs : List Int) (n : Nat) (z : Q4) : ∀ t, z ∈ cpL xs n t ↔ z ∈ cmL xs n t
  | 0 => by simp [cpL, cmL]
  | t + 1 => by
    have ih := cp_cm xs n z t
    simp only [cpL, cmL]
    cases cpQ xs n t
    · exact ih
    · simp only [cond_true, List.mem_append, List.mem_singleton, inQ_mem, ih]
theorem cpL_ok {xs : List Int} {n : Nat} (hv : vsB n xs = true) (t : Nat) (ht : t ≤ offR n 0 n) : ∀ q ∈ cpL xs n t, okQ q = true := fun q hq => cmL_ok hv t ht q ((cp_cm xs n q t).1 hq)
theorem cmL_up {xs : List Int} {n : Nat} (hv : vsB n xs = true) : ∀ t, t ≤ offR n 0 n → (cmL xs n t).Pairwise fun x y => qLt x y = true
  | 0, _ => List.Pairwise.nil
  | t + 1, ht => by
    have ih := cmL_up hv t (by omega)
    have ho := cmL_ok hv t (by omega)
    simp only [cmL]
    rcases hc : cpQ xs n t with _ | _
    · exact ih
    · obtain ⟨l1, l2⟩ := prA_lt2 (n := n) (t := t) (by omega)
      exact inQ_up (xpAt_ok hv l1 l2 (beq_iff_eq.1 hc)) ho ih
/-- Both ways find the same list. -/
theorem st_cm {xs : List Int} {n : Nat} (hv : vsB n xs = true) : stQ (cpL xs n (offR n 0 n)) = cmL xs n (offR n 0 n) := by
  have ho := cpL_ok hv (offR n 0 n) (Nat.le_refl _)
  refine asc_eq (fun q hq => ho q ((stQ_mem _ q).1 hq)) (stQ_up ho) (cmL_up hv _ (Nat.le_refl _)) fun z => ?_
  rw [stQ_mem, cp_cm]
theorem Lr_ciO {fn : Func} (hf : Try.prog.funcs[31]? = some fn) : LoopsGood Try.prog (lt1 e_ciO) 0 (codeOf fn) := by
  obtain rfl := fn_is Try.func31 hf
  exact lt1_good lg_ciO
def LCi : FuncId → LT := fun f => match f with
  | 31 => lt1 e_ciO
  | _ => noL
theorem Gr_cpg {fn : Func} (hf : Try.prog.funcs[30]? = some fn) : RangesGood Try.prog (rt1 10 e_cpg) (codeOf fn) := by
  obtain rfl := fn_is Try.func30 hf
  exact rt1_good (by kernel_rfl) lg_cpg
def GCp : FuncId → RT := fun f => match f with
  | 30 => rt1 10 e_cpg
  | _ => noR
def ECx : Env := withG (withT (mkE TCq RSl1 LCi) JSs) GCp
theorem ECx_ok : EnvOk Try.prog ECx := withG_ok (withT_ok (mkEOk TCq_ok RSl1_ok (by
  intro f fn hf
  unfold LCi
  split
  all_goals first | with_reducible exact Lr_ciO hf | exact noL_good)) JSs_ok) (by
  intro f fn hf
  unfold GCp
  split
  all_goals first | with_reducible exact Gr_cpg hf | exact noR_good)
set_option maxRecDepth 100000 in
theorem tr_sCqF (n : Nat) (xs : List Int) : bodyX Try.prog ECx 30 12 31 [.row n (.ints xs)] = .need ((List.drop (0 : Nat) xs).length = n * (4 : Nat)) (.need (Lim n) (brT (!vsB n (List.drop 0 xs)) (.fin (.slice none (0) (0)) [some ⟨.view, .ints (xs)⟩, some ⟨.row 52 4, .vals []⟩]) (.need ((0 : Int) = (0 : Int)) (.need ((0 : Nat) = (0 : Nat)) (.need (xs.length = n * (4 : Nat)) (.need (n ≤ (12 : Nat)) (.need (vsB n xs = true) (.fin (.slice (some ⟨2, 0, none⟩) ((cmL xs n (offR n 0 n)).length) ((cmL xs n (offR n 0 n)).length)) [some ⟨.view, .ints (xs)⟩, some deadB, some ⟨.row 52 4, .ints (fl4 (cmL xs n (offR n 0 n)))⟩])))))))) := by kernel_rfl
set_option maxRecDepth 100000 in
theorem tr_iCqF (n : Nat) (xs : List Int) : bodyX Try.prog ECx 30 12 30 [.row n (.ints xs)] = .need ((List.drop (0 : Nat) xs).length = n * (4 : Nat)) (.need (Lim n) (brT (!vsB n (List.drop 0 xs)) (.fin (.slice none (0) (0)) [some ⟨.view, .ints (xs)⟩, some ⟨.box, .vals [.slice (some ⟨0, 0, none⟩) (n) (n)]⟩]) (.need (n = n) (.need (xs.length = n * (4 : Nat)) (.need (n ≤ (12 : Nat)) (.need (vsB n xs = true) (.need ((fl4 (cpL xs n (offR n (0 : Nat) n))).length = (cpL xs n (offR n (0 : Nat) n)).length * (4 : Nat)) (.need ((cpL xs n (offR n (0 : Nat) n)).length ≤ (1000000000 : Nat)) (.need (allV4 (cpL xs n (offR n (0 : Nat) n)).length (fl4 (cpL xs n (offR n (0 : Nat) n)))) (.need ((fl4 (srtQ (q4A (cpL xs n (offR n (0 : Nat) n)).length (fl4 (cpL xs n (offR n (0 : Nat) n)))))).length = (cpL xs n (offR n (0 : Nat) n)).length * (4 : Nat)) (.need ((cpL xs n (offR n (0 : Nat) n)).length ≤ (1000000000 : Nat)) (.fin (.slice (some ⟨5, 0, none⟩) ((dmP (q4A (cpL xs n (offR n 0 n)).length (fl4 (srtQ (q4A (cpL xs n (offR n 0 n)).length (fl4 (cpL xs n (offR n 0 n)))))))).length) ((dmP (q4A (cpL xs n (offR n 0 n)).length (fl4 (srtQ (q4A (cpL xs n (offR n 0 n)).length (fl4 (cpL xs n (offR n 0 n)))))))).length)) [some ⟨.view, .ints (xs)⟩, some ⟨.box, .vals [.slice (some ⟨0, 0, none⟩) (n) (n)]⟩, some ⟨.box, .vals [.slice (some ⟨4, 0, none⟩) ((cpL xs n (offR n 0 n)).length) ((cpL xs n (offR n 0 n)).length)]⟩, some ⟨.view, .vals [.slice (some ⟨0, 0, none⟩) (n) (n)]⟩, some deadB, some ⟨.row 52 4, .ints (fl4 (dmP (q4A (cpL xs n (offR n 0 n)).length (fl4 (srtQ (q4A (cpL xs n (offR n 0 n)).length (fl4 (cpL xs n (offR n 0 n)))))))))⟩])))))))))))) := by kernel_rfl
/-- The points where segments cross. -/
def cqV (n : Nat) (xs : List Int) : List Q4 := bif vsB n xs then cmL xs n (offR n 0 n) else []
abbrev rowZq (ps : List Q4) : Value := .slice (some ⟨0, 0, none⟩) ps.length ps.length
theorem vs_12q {n : Nat} {xs : List Int} (h : vsB n xs = true) : n ≤ 12 := by
  unfold vsB at h
  exact of_decide_eq_true (Bool.and_eq_true_iff.1 h).2
theorem resR_sCq (n : Nat) (xs : List Int) (hx : xs.length = n * 4) (h : Lim n) : ResR Try.prog 31 [.row n (.ints xs)] (rowZq (cqV n xs)) ⟨.row 52 4, .ints (fl4 (cqV n xs))⟩ := by
  refine bodyX_resR mixed ECx_ok (m := 30) (n := 12) rfl ?_
  rw [tr_sCqF]
  simp only [List.drop_zero]
  unfold cqV
  rcases hv : vsB n xs with _ | _
  · exact ⟨hx, h, none, ⟨rfl, rfl⟩, trivial⟩
  · exact ⟨hx, h, trivial, trivial, hx, vs_12q hv, rfl, some 2, ⟨rfl, rfl, rfl⟩, rfl, rfl, rfl⟩
theorem resR_iCq (n : Nat) (xs : List Int) (hx : xs.length = n * 4) (h : Lim n) : ResR Try.prog 30 [.row n (.ints xs)] (rowZq (cqV n xs)) ⟨.row 52 4, .ints (fl4 (cqV n xs))⟩ := by
  refine bodyX_resR mixed ECx_ok (m := 30) (n := 12) rfl ?_
  rw [tr_iCqF]
  simp only [List.drop_zero, q4A_fl4]
  unfold cqV
  rcases hv : vsB n xs with _ | _
  · exact ⟨hx, h, none, ⟨rfl, rfl⟩, trivial⟩
  · have ho := cpL_ok hv (offR n 0 n) (Nat.le_refl _)
    have hs := st_cm hv
    have l0 := cpL_len xs n (offR n 0 n)
    have hb := offR_le n n 0
    have h12 := vs_12q hv
    have hnn : n * n ≤ 12 * 12 := Nat.mul_le_mul h12 h12
    generalize cpL xs n (offR n 0 n) = L at *
    have l1 := fl4_length L
    have l2 := fl4_length (srtQ L)
    rw [srtQ_len] at l2
    have e2 : q4A L.length (fl4 (srtQ L)) = srtQ L := by
      have := q4A_fl4 (srtQ L)
      rwa [srtQ_len] at this
    have ev : dmP (srtQ L) = cmL xs n (offR n 0 n) := hs
    rw [e2, ev]
    exact ⟨hx, h, trivial, hx, h12, rfl, l1, by omega, by unfold allV4; rw [q4A_fl4]; exact ho, l2, by omega, some 5, ⟨rfl, rfl, rfl⟩, rfl, rfl, rfl⟩
def RCq : TabR := fun f ds => match f, ds with
  | 31, [.row n (.ints xs)] => some (rowZq (cqV n xs), ⟨.row 52 4, .ints (fl4 (cqV n xs))⟩, [xs.length = n * 4, Lim n])
  | 30, [.row n (.ints xs)] => some (rowZq (cqV n xs), ⟨.row 52 4, .ints (fl4 (cqV n xs))⟩, [xs.length = n * 4, Lim n])
  | f, ds => RSl1 f ds
theorem RCq_ok : TabROk Try.prog RCq := by
  intro f ds v b C h hC
  unfold RCq at h
  split at h
  · obtain ⟨rfl, rfl, rfl⟩ : _ ∧ _ ∧ _ := by simpa using h
    exact resR_sCq _ _ hC.1 hC.2.1
  · obtain ⟨rfl, rfl, rfl⟩ : _ ∧ _ ∧ _ := by simpa using h
    exact resR_iCq _ _ hC.1 hC.2.1
  · exact RSl1_ok _ _ _ _ _ h hC
end Go.Proofs.Ytolodncpegajkaa
namespace Go.Proofs.Ytolodncpegajkaa
set_option linter.all false
open Go.RowKit
def JDr : TabJ := consR 77 (rdGR shpS) JAs
theorem JDr_ok : GSound Try.prog JDr.g := consR_ok mixed JAs_ok (entersB_res (by kernel_rfl)).1 shpS_ok
def EDi0 : Env := ⟨B0, fun _ _ => none, fun _ => noL, JDr, fun _ => noR⟩
theorem EDi0_ok : EnvOk Try.prog EDi0 := ⟨B0_ok, fun _ _ _ _ _ h => (by cases h), fun _ _ _ => noL_good, JDr_ok, fun _ _ _ => noR_good⟩
noncomputable def c_did : Code := ((loopsOf (codeOf Try.f29))[0]?).getD .skip
def k_did : Ex → List Nat := keeps [4, 5, 6] [(0, [5])] [2]
def s_did (ps : List Pt) (bs : List Int) (l : Nat) (p : Int) : Nat → St := fun i => ⟨[topV, topV, topV, topV, .slice (some ⟨2, 0, none⟩) ps.length ps.length, .slice (some ⟨4, 0, none⟩) i i, .int .i64 i, topV, topV, topV, topV, topV, topV, topV, topV, topV, topV, topV, topV, topV, topV, topV, topV, topV, topV, topV, topV, topV, topV, topV], [some ⟨.view, .bytes bs⟩, some ⟨.box, .vals [.slice (some ⟨0, 0, none⟩) l l, .int .i64 p]⟩, some ⟨.row 37 2, .ints (flat ps)⟩, some ⟨.dead, .vals []⟩, some ⟨.row 39 4, .ints (edL ps i)⟩]⟩
def re_did : Nat → Ex := fun _ => .exit 0
def rs_did (ps : List Pt) (bs : List Int) (l : Nat) (p : Int) : Nat → St := fun i => ⟨[topV, topV, topV, topV, topV, .slice (some ⟨4, 0, none⟩) ps.length ps.length, topV, topV, topV, topV, topV, topV, topV, topV, topV, topV, topV, topV, topV, topV, topV, topV, topV, topV, topV, topV, topV, topV, topV, topV], [some ⟨.view, .bytes bs⟩, some ⟨.box, .vals [.slice (some ⟨0, 0, none⟩) l l, .int .i64 p]⟩, some ⟨.row 37 2, .ints (flat ps)⟩, some ⟨.dead, .vals []⟩, some ⟨.row 39 4, .ints (edL ps ps.length)⟩]⟩
set_option maxRecDepth 100000 in
theorem tr_did (ps : List Pt) (bs : List Int) (l : Nat) (p : Int) (i : Nat) : bodyL Try.prog EDi0 30 12 noL 1 c_did k_did 16 (s_did ps bs l p i) = brT (decide ((↑i : Int) < (↑ps.length : Int))) (.need ((0 : Int) ≤ (↑i : Int) ∧ (↑i : Int) < (↑ps.length : Int)) (.need ((0 : Nat) + (↑i : Int).toNat * (2 : Nat) + (2 : Nat) ≤ (flat ps).length) (.need (¬(↑ps.length : Int) = (0 : Int)) (.need ((0 : Int) ≤ (IntKind.i64.wrap ((↑i : Int) + (1 : Int))).tmod (↑ps.length : Int) ∧ (IntKind.i64.wrap ((↑i : Int) + (1 : Int))).tmod (↑ps.length : Int) < (↑ps.length : Int)) (.need ((0 : Nat) + ((IntKind.i64.wrap ((↑i : Int) + (1 : Int))).tmod (↑ps.length : Int)).toNat * (2 : Nat) + (2 : Nat) ≤ (flat ps).length) (.need ((i + (1 : Nat)) * (32 : Nat) ≤ (140737488355328 : Nat) ∧ i + (1 : Nat) ≤ (1000000 : Nat)) (.need ((0 : Nat) + i * (4 : Nat) ≤ (edL ps i).length) (.leaf .normal ⟨[topV, topV, topV, topV, .slice (some ⟨2, 0, none⟩) (ps.length) (ps.length), .slice (some ⟨6, 0, none⟩) (i + 1) (i + 1), .int .i64 (IntKind.i64.wrap ((↑i : Int) + 1)), topV, topV, topV, topV, topV, topV, topV, topV, topV, topV, topV, topV, topV, topV, topV, topV, topV, topV, topV, topV, topV, topV, topV], [some ⟨.view, .bytes (bs)⟩, some ⟨.box, .vals [.slice (some ⟨0, 0, none⟩) (l) (l), .int .i64 (p)]⟩, some ⟨.row 37 2, .ints (flat ps)⟩, some deadB, some deadB, some ⟨.row 39 4, .vals [.int .i64 ((flat ps).getD (0 + (↑i : Int).toNat * 2) 0), .int .i64 ((flat ps).getD (0 + (↑i : Int).toNat * 2 + 1) 0), .int .i64 ((flat ps).getD (0 + ((IntKind.i64.wrap ((↑i : Int) + 1)).tmod (↑ps.length : Int)).toNat * 2) 0), .int .i64 ((flat ps).getD (0 + ((IntKind.i64.wrap ((↑i : Int) + 1)).tmod (↑ps.length : Int)).toNat * 2 + 1) 0)]⟩, some ⟨.row 39 4, .ints (List.take (i * 4) (List.drop 0 (edL ps i)) ++ [(flat ps).getD (0 + (↑i : Int).toNat * 2) 0, (flat ps).getD (0 + (↑i : Int).toNat * 2 + 1) 0, (flat ps).getD (0 + ((IntKind.i64.wrap ((↑i : Int) + 1)).tmod (↑ps.length : Int)).toNat * 2) 0, (flat ps).getD (0 + ((IntKind.i64.wrap ((↑i : Int) + 1)).tmod (↑ps.length : Int)).toNat * 2 + 1) 0])⟩, some ⟨.box, .vals [.int .i64 ((flat ps).getD (0 + (↑i : Int).toNat * 2) 0), .int .i64 ((flat ps).getD (0 + (↑i : Int).toNat * 2 + 1) 0), .int .i64 ((flat ps).getD (0 + ((IntKind.i64.wrap ((↑i : Int) + 1)).tmod (↑ps.length : Int)).toNat * 2) 0), .int .i64 ((flat ps).getD (0 + ((IntKind.i64.wrap ((↑i : Int) + 1)).tmod (↑ps.length : Int)).toNat * 2 + 1) 0)]⟩]⟩)))))))) (.leaf (.exit 0) ⟨[topV, topV, topV, topV, topV, .slice (some ⟨4, 0, none⟩) (i) (i), topV, topV, topV, topV, topV, topV, topV, topV, topV, topV, topV, topV, topV, topV, topV, topV, topV, topV, topV, topV, topV, topV, topV, topV], [some ⟨.view, .bytes (bs)⟩, some ⟨.box, .vals [.slice (some ⟨0, 0, none⟩) (l) (l), .int .i64 (p)]⟩, some ⟨.row 37 2, .ints (flat ps)⟩, some deadB, some ⟨.row 39 4, .ints (edL ps i)⟩]⟩) := by kernel_rfl
set_option maxRecDepth 100000 in
theorem nl_did : loopsOf c_did = [] := by kernel_rfl
def inv_did (ps : List Pt) (bs : List Int) (l : Nat) (p : Int) : Nat → Prop := fun i => i ≤ ps.length
def me_did (ps : List Pt) (bs : List Int) (l : Nat) (p : Int) : Nat → Nat := fun i => ps.length - i
/-- A round of this loop. -/
def Round_did (ps : List Pt) (bs : List Int) (l : Nat) (p : Int) : Prop := ∀ xx : Nat, inv_did ps bs l p xx → (bodyL Try.prog EDi0 30 12 noL 1 c_did k_did 16 (s_did ps bs l p xx)).ok (RoundEnd 4 (s_did ps bs l p) (inv_did ps bs l p) (me_did ps bs l p) re_did (rs_did ps bs l p) xx) (fun _ _ => False)
def e_did (s : St) (k : Ex → St → Tree) : Option Tree := match Nat.beq s.tmps.length 30, pickL s.tmps [4, 5, 6], s.mem with
  | true, [.slice (some ⟨2, 0, none⟩) n _, .slice (some ⟨3, 0, none⟩) z _, .int .i64 ii], [some ⟨.view, .bytes bs⟩, some ⟨.box, .vals [.slice (some ⟨0, 0, none⟩) l _, .int .i64 p]⟩, some ⟨.row 37 2, .ints xs⟩, some ⟨.row 39 4, .vals []⟩] => some (needs [ii = 0, z = 0, xs.length = n * 2, n ≤ 8] (k (.exit 0) ⟨[topV, topV, topV, topV, topV, .slice (some ⟨4, 0, none⟩) n n, topV, topV, topV, topV, topV, topV, topV, topV, topV, topV, topV, topV, topV, topV, topV, topV, topV, topV, topV, topV, topV, topV, topV, topV], [some ⟨.view, .bytes bs⟩, some ⟨.box, .vals [.slice (some ⟨0, 0, none⟩) l l, .int .i64 p]⟩, some ⟨.row 37 2, .ints xs⟩, some ⟨.dead, .vals []⟩, some ⟨.row 39 4, .ints (edL (ptsA n xs) n)⟩]⟩))
  | _, _, _ => none
theorem ed_step2 (ps : List Pt) (i : Nat) : List.take (i * 4) (List.drop 0 (edL ps i)) ++ [(ps.getD i (0, 0)).1, (ps.getD i (0, 0)).2, (ps.getD ((i + 1) % ps.length) (0, 0)).1, (ps.getD ((i + 1) % ps.length) (0, 0)).2] = edL ps (i + 1) := by
  rw [List.drop_zero, List.take_of_length_le (by rw [edL_len]; exact Nat.le_refl _)]
  rfl
set_option maxRecDepth 100000 in
theorem round_did (ps : List Pt) (bs : List Int) (l : Nat) (p : Int) (h : ps.length ≤ 8) : Round_did ps bs l p := by
  intro i h1
  have h1 : i ≤ ps.length := h1
  rw [tr_did]
  have fl := flat_length ps
  have el := edL_len ps i
  refine brT_ok.2 ⟨fun hlt => ?_, fun hge => ?_⟩
  · have hi : i < ps.length := by have := of_decide_eq_true hlt; omega
    have hm : (i + 1) % ps.length < ps.length := Nat.mod_lt _ (by omega)
    have e1 : (IntKind.i64.wrap ((i : Int) + 1)).tmod (ps.length : Int) = ((i + 1) % ps.length : Nat) := by
      rw [wsucc (n := ps.length) hi (by omega), Int.tmod_eq_emod_of_nonneg (by omega)]
      omega
    have e2 : IntKind.i64.wrap ((i : Int) + 1) = ((i + 1 : Nat) : Int) := by
      rw [wsucc (n := ps.length) hi (by omega)]
    rw [e1, e2]
    simp only [Int.toNat_natCast, Nat.zero_add, flat_get0, flat_get1]
    rw [ed_step2]
    refine ⟨by omega, by omega, by omega, by omega, by omega, by omega, by omega, i + 1, [some 6], by show i + 1 ≤ ps.length; omega, ?_, rfl, by simp only [rs_did], ?_⟩
    · show ps.length - (i + 1) < ps.length - i; omega
    · repeat' (first | exact True.intro | exact rfl | exact fun _ => rfl | (simp; done) | refine And.intro ?_ ?_)
  · have hge := of_decide_eq_false hge
    obtain rfl : i = ps.length := by have h1 : i ≤ ps.length := h1; omega
    refine ⟨rfl, [some 4], ?_⟩
    repeat' (first | exact True.intro | exact rfl | exact fun _ => rfl | (simp; done) | refine And.intro ?_ ?_)
set_option maxRecDepth 100000 in
theorem lg_did : LoopE Try.prog e_did c_did := by
  intro s k t F H hlt ht
  unfold e_did at hlt
  split at hlt
  rotate_left
  · cases hlt
  rename_i hlen hpick hmem
  obtain ⟨tmps, mem⟩ := s
  simp only at hlen hpick hmem
  subst hmem
  obtain rfl := Option.some.inj hlt
  obtain ⟨⟨rfl, rfl, h1, h2, _⟩, ht2⟩ := needs_ok ht
  clear ht hlt
  obtain ⟨ps, rfl, rfl⟩ := even_flat h1
  rw [ptsA_flat] at ht2
  refine ⟨_, _, ht2, loop_run2 mixed EDi0_ok (s_did ps _ _ _) (inv_did ps _ _ _) (me_did ps _ _ _) re_did (rs_did ps _ _ _) k_did (fun _ => rfl) (noLoops nl_did) (round_did ps _ _ _ h2) (x := 0) (Nat.zero_le _) (π := [some 3]) rfl ?_⟩
  refine ⟨rfl, rfl, ?_, wvs_spread' [4, 5, 6] hlen rfl ?_⟩
  · repeat' (first | exact True.intro | exact rfl | exact wv_top _ _ | exact fun _ => rfl | assumption | exact Eq.symm (by assumption) | exact vI0 rfl | refine And.intro ?_ ?_)
  · rw [hpick]
    repeat' (first | exact True.intro | exact rfl | exact wv_top _ _ | exact fun _ => rfl | assumption | exact Eq.symm (by assumption) | exact vI0 rfl | refine And.intro ?_ ?_)
theorem Lr_did {fn : Func} (hf : Try.prog.funcs[29]? = some fn) : LoopsGood Try.prog (lt1 e_did) 0 (codeOf fn) := by
  obtain rfl := fn_is Try.func29 hf
  exact lt1_good lg_did
def LDi : FuncId → LT := fun f => match f with
  | 29 => lt1 e_did
  | _ => noL
def EDi : Env := ⟨B0, fun _ _ => none, LDi, JDr, fun _ => noR⟩
theorem EDi_ok : EnvOk Try.prog EDi := ⟨B0_ok, fun _ _ _ _ _ h => (by cases h), (by
  intro f fn hf
  show LoopsGood Try.prog (LDi f) 0 (codeOf fn)
  unfold LDi
  split
  all_goals first | with_reducible exact Lr_did hf | exact noL_good), JDr_ok, fun _ _ _ => noR_good⟩
set_option maxRecDepth 100000 in
theorem tr_dDi (bs : List Int) (n : Nat) : bodyX Try.prog EDi 30 12 29 [.row n (.bytes bs)] = brT (decide (2000 < (↑n : Int))) (.need ((0 : Int) ≤ bndI none (0 : Int) ∧ bndI none (0 : Int) ≤ bndI (some (IntKind.i64, (2000 : Int))) (↑n : Int) ∧ bndI (some (IntKind.i64, (2000 : Int))) (↑n : Int) ≤ (↑n : Int)) (.need (rdC bs (2000 : Nat) (0 : Int)) (brT (pickI bs 2000 0 2 == 0) (.need (rdC bs (2000 : Nat) ((0 : Int) + (1 : Int))) (.need ((0 : Int) + (1 : Int) ≤ (900000 : Int)) (.need ((0 : Int) = (0 : Int)) (.need ((0 : Nat) = (0 : Nat)) (.need ((flat (shX bs (2000 : Nat) ((0 : Int) + (1 : Int)))).length = (shX bs (2000 : Nat) ((0 : Int) + (1 : Int))).length * (2 : Nat)) (.need ((shX bs (2000 : Nat) ((0 : Int) + (1 : Int))).length ≤ (8 : Nat)) (.fin (.slice (some ⟨4, 0, none⟩) ((shX bs 2000 (0 + 1)).length) ((shX bs 2000 (0 + 1)).length)) [some ⟨.view, .bytes (bs)⟩, some ⟨.box, .vals [.slice (some ⟨0, 0, none⟩) (2000) (2000), .int .i64 (0 + 1 + 5)]⟩, some ⟨.row 37 2, .ints (flat (shX bs 2000 (0 + 1)))⟩, some deadB, some ⟨.row 39 4, .ints (edL (ptsA (shX bs 2000 (0 + 1)).length (flat (shX bs 2000 (0 + 1)))) (shX bs 2000 (0 + 1)).length)⟩]))))))) (.need (rdC bs (2000 : Nat) ((0 : Int) + (1 : Int))) (.need ((0 : Int) + (1 : Int) ≤ (700000 : Int)) (.fin (.slice (some ⟨2, 0, none⟩) (asN bs 2000 (0 + 1)) (asN bs 2000 (0 + 1))) [some ⟨.view, .bytes (bs)⟩, some ⟨.box, .vals [.slice (some ⟨0, 0, none⟩) (2000) (2000), .int .i64 (anE bs 2000 (0 + 1))]⟩, some ⟨.row 39 4, .ints (anL bs 2000 (0 + 1))⟩])))))) (.need (rdC bs n (0 : Int)) (brT (pickI bs n 0 2 == 0) (.need (rdC bs n ((0 : Int) + (1 : Int))) (.need ((0 : Int) + (1 : Int) ≤ (900000 : Int)) (.need ((0 : Int) = (0 : Int)) (.need ((0 : Nat) = (0 : Nat)) (.need ((flat (shX bs n ((0 : Int) + (1 : Int)))).length = (shX bs n ((0 : Int) + (1 : Int))).length * (2 : Nat)) (.need ((shX bs n ((0 : Int) + (1 : Int))).length ≤ (8 : Nat)) (.fin (.slice (some ⟨4, 0, none⟩) ((shX bs n (0 + 1)).length) ((shX bs n (0 + 1)).length)) [some ⟨.view, .bytes (bs)⟩, some ⟨.box, .vals [.slice (some ⟨0, 0, none⟩) (n) (n), .int .i64 (0 + 1 + 5)]⟩, some ⟨.row 37 2, .ints (flat (shX bs n (0 + 1)))⟩, some deadB, some ⟨.row 39 4, .ints (edL (ptsA (shX bs n (0 + 1)).length (flat (shX bs n (0 + 1)))) (shX bs n (0 + 1)).length)⟩]))))))) (.need (rdC bs n ((0 : Int) + (1 : Int))) (.need ((0 : Int) + (1 : Int) ≤ (700000 : Int)) (.fin (.slice (some ⟨2, 0, none⟩) (asN bs n (0 + 1)) (asN bs n (0 + 1))) [some ⟨.view, .bytes (bs)⟩, some ⟨.box, .vals [.slice (some ⟨0, 0, none⟩) (n) (n), .int .i64 (anE bs n (0 + 1))]⟩, some ⟨.row 39 4, .ints (anL bs n (0 + 1))⟩]))))) := by kernel_rfl
/-- How many segments are drawn, and their numbers. -/
def diN (bs : List Int) (l : Nat) : Nat := bif pickI bs l 0 2 == 0 then (shX bs l 1).length else asN bs l 1
def diL (bs : List Int) (l : Nat) : List Int := bif pickI bs l 0 2 == 0 then edL (shX bs l 1) (shX bs l 1).length else anL bs l 1
theorem di_len {bs : List Int} {l : Nat} (h : rdC bs l 1) : (diL bs l).length = diN bs l * 4 ∧ diN bs l ≤ 13 := by
  unfold diL diN
  cases pickI bs l 0 2 == 0
  · exact ⟨anL_len bs l 1, asN_bd bs l 1⟩
  · have := shX_len h (by omega)
    exact ⟨edL_len _ _, by simp only [cond_true]; omega⟩
theorem diKey {bs : List Int} {n : Nat} (hb : Bytes bs) (hn : n ≤ bs.length) {l : Nat} (h1 : l ≤ n) (h2 : l ≤ 2000) : rdC bs l 0 ∧ rdC bs l 1 := by
  have r0 : rdK bs l 0 := rdK0 hb hn h1 h2 (by omega) (by omega)
  exact ⟨r0.1, r0.at (by omega) (by omega)⟩
theorem resR_dDi (bs : List Int) (n : Nat) (hb : Bytes bs) (hn : n ≤ bs.length) : ResR Try.prog 29 [.row n (.bytes bs)] (.slice (some ⟨0, 0, none⟩) (diN bs (rdL n)) (diN bs (rdL n))) ⟨.row 39 4, .ints (diL bs (rdL n))⟩ := by
  refine bodyX_resR mixed EDi_ok (m := 30) (n := 12) rfl ?_
  rw [tr_dDi]
  refine brT_ok.2 ⟨fun h => ?_, fun h => ?_⟩
  · have h := of_decide_eq_true h
    obtain ⟨k1, k2⟩ := diKey hb hn (l := 2000) (by omega) (by omega)
    rw [rdL_of h]
    unfold diN diL
    rw [show (0 : Int) + 1 = 1 from rfl]
    refine ⟨bnd2000 h, k1, brT_ok.2 ⟨fun g => ?_, fun g => ?_⟩⟩
    · rw [g]
      simp only [cond_true, ptsA_flat]
      have := shX_len k2 (by omega)
      exact ⟨k2, by omega, by first | trivial | rfl, by first | trivial | rfl, flat_length _, by omega, some 4, ⟨rfl, rfl, rfl⟩, rfl, rfl, rfl⟩
    · rw [g]
      exact ⟨k2, by omega, some 2, ⟨rfl, rfl, rfl⟩, rfl, rfl, rfl⟩
  · have h := of_decide_eq_false h
    obtain ⟨k1, k2⟩ := diKey hb hn (l := n) (by omega) (by omega)
    rw [rdL_no h]
    unfold diN diL
    rw [show (0 : Int) + 1 = 1 from rfl]
    refine ⟨k1, brT_ok.2 ⟨fun g => ?_, fun g => ?_⟩⟩
    · rw [g]
      simp only [cond_true, ptsA_flat]
      have := shX_len k2 (by omega)
      exact ⟨k2, by omega, by first | trivial | rfl, by first | trivial | rfl, flat_length _, by omega, some 4, ⟨rfl, rfl, rfl⟩, rfl, rfl, rfl⟩
    · rw [g]
      exact ⟨k2, by omega, some 2, ⟨rfl, rfl, rfl⟩, rfl, rfl, rfl⟩
end Go.Proofs.Ytolodncpegajkaa
namespace Go.Proofs.Ytolodncpegajkaa
set_option linter.all false
open Go.RowKit
theorem four_tk {n k : Nat} {xs : List Int} (hx : xs.length = n * 4) (hk : k ≤ n) {i : Nat} (hi : i < k) : (xs.take (k * 4)).getD (i * 4) 0 = xs.getD (i * 4) 0 ∧ (xs.take (k * 4)).getD (i * 4 + 1) 0 = xs.getD (i * 4 + 1) 0 ∧ (xs.take (k * 4)).getD (i * 4 + 2) 0 = xs.getD (i * 4 + 2) 0 ∧ (xs.take (k * 4)).getD (i * 4 + 3) 0 = xs.getD (i * 4 + 3) 0 := by
  have g : ∀ m, m < 4 → (xs.take (k * 4)).getD (i * 4 + m) 0 = xs.getD (i * 4 + m) 0 := fun m hm => by
    simp only [List.getD_eq_getElem?_getD]
    rw [List.getElem?_take_of_lt (by omega)]
  exact ⟨g 0 (by omega), g 1 (by omega), g 2 (by omega), g 3 (by omega)⟩
theorem dw_all {n : Nat} {xs : List Int} (h : dwB n xs = true) {i k : Nat} (hik : i < k) (hk : k < n) : (rl4V xs i k == 0 || (rl4V xs i k == 1 && sh4 xs i k)) = true := by
  unfold dwB at h
  have h2 := allQ_get _ _ (Bool.and_eq_true_iff.1 h).2 (offR n 0 i + (k - i - 1)) (Nat.zero_le _) (by have := off_lt hik hk; omega)
  unfold dwQ at h2
  rw [prA_at hik hk] at h2
  exact h2
/-- A part of a drawing is a drawing. -/
theorem dw_take {n k : Nat} {xs : List Int} (hx : xs.length = n * 4) (hk : k ≤ n) (h : dwB n xs = true) : dwB k (xs.take (k * 4)) = true := by
  have hv : vsB n xs = true := (Bool.and_eq_true_iff.1 h).1
  unfold dwB
  refine Bool.and_eq_true_iff.2 ⟨?_, allQ_mkD _ _ fun t _ ht => ?_⟩
  · have hv2 := hv
    unfold vsB at hv2 ⊢
    obtain ⟨v1, v2⟩ := Bool.and_eq_true_iff.1 hv2
    refine Bool.and_eq_true_iff.2 ⟨allQ_mkD _ _ fun j _ hj => ?_, decide_eq_true (by have := of_decide_eq_true v2; omega)⟩
    obtain ⟨e1, e2, e3, e4⟩ := four_tk hx hk (i := j) (by omega)
    have := allQ_get _ _ v1 j (Nat.zero_le _) (by omega)
    unfold slQ at this ⊢
    rw [e1, e2, e3, e4]
    exact this
  · have ht : t < offR k 0 k := by omega
    have l1 := prA_lt ht
    have l2 := prA_ord ht
    obtain ⟨e1, e2, e3, e4⟩ := four_tk hx hk (i := (prA k t).1) l1.1
    obtain ⟨f1, f2, f3, f4⟩ := four_tk hx hk (i := (prA k t).2) l1.2
    have := dw_all h l2 (by omega)
    unfold dwQ
    unfold rl4V sh4 at this ⊢
    rw [e1, e2, e3, e4, f1, f2, f3, f4]
    exact this
/-- A drawing has no crossings. -/
theorem dw_cq {n : Nat} {xs : List Int} (h : dwB n xs = true) : cqV n xs = [] := by
  have key : ∀ t, t ≤ offR n 0 n → cmL xs n t = [] := by
    intro t
    induction t with
    | zero => intro _; rfl
    | succ t ih =>
      intro ht
      have hq : cpQ xs n t = false := by
        unfold dwB at h
        have h2 := allQ_get _ _ (Bool.and_eq_true_iff.1 h).2 t (Nat.zero_le _) (by omega)
        unfold dwQ at h2
        unfold cpQ
        generalize rl4V xs (prA n t).1 (prA n t).2 = r at *
        refine beq_eq_false_iff_ne.2 fun e => ?_
        subst e
        simp at h2
      simp only [cmL, hq, cond_false]
      exact ih (by omega)
  unfold cqV
  cases vsB n xs
  · rfl
  · exact key _ (Nat.le_refl _)
/-- The program's IsDrawing, of the first segments of a row. -/
def pDw2 : List DArg → Option (Value × List Prop)
  | [.row n (.ints xs)] => some (.bool (dwB n (xs.take (n * 4))), [n * 4 ≤ xs.length, Lim n])
  | _ => none
theorem take_ok4 {f : FuncId} (h0 : ∀ (n : Nat) (xs : List Int), xs.length = n * 4 → Lim n → Res Try.prog f [.row n (.ints xs)] (.bool (dwB n xs))) {ds : List DArg} {v : Value} {C : List Prop} (h : pDw2 ds = some (v, C)) (hC : AllP C) : Res Try.prog f ds v := by
  unfold pDw2 at h
  split at h
  · rename_i n xs
    obtain ⟨rfl, rfl⟩ : _ ∧ _ := by simpa using h
    have k := h0 n (xs.take (n * 4)) (by rw [List.length_take]; have := hC.1; omega) hC.2.1
    exact k.more (good_pts (pre := []) (post := []) k.2.2.2.1) fun w args ha => by
      refine ha.imp (by simp) fun i d d' y hd hd' hy => ?_
      cases i with
      | zero =>
        obtain rfl : DArg.row n (.ints xs) = d := by simpa using hd
        obtain rfl : DArg.row n (.ints (xs.take (n * 4))) = d' := by simpa using hd'
        exact hy.take _
      | succ i => simp at hd
  · cases h
theorem pDw2s_ok {ds : List DArg} {v : Value} {C : List Prop} (h : pDw2 ds = some (v, C)) (hC : AllP C) : Res Try.prog 27 ds v := take_ok4 res_sDw h hC
theorem pDw2i_ok {ds : List DArg} {v : Value} {C : List Prop} (h : pDw2 ds = some (v, C)) (hC : AllP C) : Res Try.prog 28 ds v := take_ok4 res_iDw h hC
def TLi : Tab := fun f ds => match f with
  | 27 => pDw2 ds
  | 28 => pDw2 ds
  | f => TSl2 f ds
theorem TLi_ok : TabOk Try.prog TLi := by
  intro f ds v C h hC
  unfold TLi at h
  (try split at h)
  all_goals first | with_reducible exact pDw2s_ok h hC | with_reducible exact pDw2i_ok h hC | exact TSl2_ok _ _ _ _ h hC
def RLi : TabR := fun f ds => match f, ds with
  | 29, [.row n (.bytes bs)] => some (.slice (some ⟨0, 0, none⟩) (diN bs (rdL n)) (diN bs (rdL n)), ⟨.row 39 4, .ints (diL bs (rdL n))⟩, [Bytes bs, n ≤ bs.length])
  | f, ds => RCq f ds
theorem RLi_ok : TabROk Try.prog RLi := by
  intro f ds v b C h hC
  unfold RLi at h
  split at h
  · obtain ⟨rfl, rfl, rfl⟩ : _ ∧ _ ∧ _ := by simpa using h
    exact resR_dDi _ _ hC.1 hC.2.1
  · exact RCq_ok _ _ _ _ _ h hC
def ELi : Env := mkE TLi RLi (fun _ => noL)
theorem ELi_ok : EnvOk Try.prog ELi := mkEOk TLi_ok RLi_ok (fun _ _ _ => noL_good)
set_option maxRecDepth 100000 in
theorem tr_lid (bs ms : List Int) : bodyV Try.prog ELi 30 12 6 [.row bs.length (.bytes bs), .row ms.length (.bytes ms)] = brT (decide (1048576 < (↑bs.length : Int))) (.fin (.bool (true)) []) (brT (decide (1048576 < (↑ms.length : Int))) (.fin (.bool (true)) []) (.need (Bytes (List.drop (0 : Nat) bs)) (.need (bs.length ≤ (List.drop (0 : Nat) bs).length) (.need (diN (List.drop (0 : Nat) bs) (rdL bs.length) * (4 : Nat) ≤ (List.drop (0 : Nat) (diL (List.drop (0 : Nat) bs) (rdL bs.length))).length) (.need (Lim (diN (List.drop (0 : Nat) bs) (rdL bs.length))) (.need (diN (List.drop (0 : Nat) bs) (rdL bs.length) * (4 : Nat) ≤ (List.drop (0 : Nat) (diL (List.drop (0 : Nat) bs) (rdL bs.length))).length) (.need (Lim (diN (List.drop (0 : Nat) bs) (rdL bs.length))) (brT (!dwB (diN (List.drop 0 bs) (rdL bs.length)) (List.take (diN (List.drop 0 bs) (rdL bs.length) * 4) (List.drop 0 (diL (List.drop 0 bs) (rdL bs.length)))) == dwB (diN (List.drop 0 bs) (rdL bs.length)) (List.take (diN (List.drop 0 bs) (rdL bs.length) * 4) (List.drop 0 (diL (List.drop 0 bs) (rdL bs.length))))) (.need (diN (List.drop (0 : Nat) bs) (rdL bs.length) * (4 : Nat) ≤ (List.drop (0 : Nat) (diL (List.drop (0 : Nat) bs) (rdL bs.length))).length) (.need (Lim (diN (List.drop (0 : Nat) bs) (rdL bs.length))) (.fin (.bool (dwB (diN (List.drop 0 bs) (rdL bs.length)) (List.take (diN (List.drop 0 bs) (rdL bs.length) * 4) (List.drop 0 (diL (List.drop 0 bs) (rdL bs.length)))) == dwB (diN (List.drop 0 bs) (rdL bs.length)) (List.take (diN (List.drop 0 bs) (rdL bs.length) * 4) (List.drop 0 (diL (List.drop 0 bs) (rdL bs.length)))))) []))) (brT (!dwB (diN (List.drop 0 bs) (rdL bs.length)) (List.take (diN (List.drop 0 bs) (rdL bs.length) * 4) (List.drop 0 (diL (List.drop 0 bs) (rdL bs.length))))) (.need (diN (List.drop (0 : Nat) bs) (rdL bs.length) * (4 : Nat) ≤ (List.drop (0 : Nat) (diL (List.drop (0 : Nat) bs) (rdL bs.length))).length) (.need (Lim (diN (List.drop (0 : Nat) bs) (rdL bs.length))) (.fin (.bool (dwB (diN (List.drop 0 bs) (rdL bs.length)) (List.take (diN (List.drop 0 bs) (rdL bs.length) * 4) (List.drop 0 (diL (List.drop 0 bs) (rdL bs.length)))) == dwB (diN (List.drop 0 bs) (rdL bs.length)) (List.take (diN (List.drop 0 bs) (rdL bs.length) * 4) (List.drop 0 (diL (List.drop 0 bs) (rdL bs.length)))))) []))) (.need (¬IntKind.i64.wrap ((↑(diN (List.drop (0 : Nat) bs) (rdL bs.length)) : Int) + (1 : Int)) = (0 : Int)) (.need ((List.drop (0 : Nat) (diL (List.drop (0 : Nat) bs) (rdL bs.length))).length = diN (List.drop (0 : Nat) bs) (rdL bs.length) * (4 : Nat)) (.need (Lim (diN (List.drop (0 : Nat) bs) (rdL bs.length))) (brT ((↑(cqV (diN (List.drop 0 bs) (rdL bs.length)) (List.drop 0 (diL (List.drop 0 bs) (rdL bs.length)))).length : Int) == 0) (.need ((0 : Int) ≤ bndI none (0 : Int) ∧ bndI none (0 : Int) ≤ bndI (some (IntKind.i64, (↑ms.length : Int).tmod (IntKind.i64.wrap ((↑(diN (List.drop (0 : Nat) bs) (rdL bs.length)) : Int) + (1 : Int))))) (↑(diN (List.drop (0 : Nat) bs) (rdL bs.length)) : Int) ∧ bndI (some (IntKind.i64, (↑ms.length : Int).tmod (IntKind.i64.wrap ((↑(diN (List.drop (0 : Nat) bs) (rdL bs.length)) : Int) + (1 : Int))))) (↑(diN (List.drop (0 : Nat) bs) (rdL bs.length)) : Int) ≤ (↑(diN (List.drop (0 : Nat) bs) (rdL bs.length)) : Int)) (.need (((bndI (some (IntKind.i64, (↑ms.length : Int).tmod (IntKind.i64.wrap ((↑(diN (List.drop (0 : Nat) bs) (rdL bs.length)) : Int) + (1 : Int))))) (↑(diN (List.drop (0 : Nat) bs) (rdL bs.length)) : Int)).toNat - (0 : Nat)) * (4 : Nat) ≤ (List.drop (0 : Nat) (diL (List.drop (0 : Nat) bs) (rdL bs.length))).length) (.need (Lim ((bndI (some (IntKind.i64, (↑ms.length : Int).tmod (IntKind.i64.wrap ((↑(diN (List.drop (0 : Nat) bs) (rdL bs.length)) : Int) + (1 : Int))))) (↑(diN (List.drop (0 : Nat) bs) (rdL bs.length)) : Int)).toNat - (0 : Nat))) (.fin (.bool (dwB ((bndI (some (IntKind.i64, (↑ms.length : Int).tmod (IntKind.i64.wrap ((↑(diN (List.drop 0 bs) (rdL bs.length)) : Int) + 1)))) (↑(diN (List.drop 0 bs) (rdL bs.length)) : Int)).toNat - 0) (List.take (((bndI (some (IntKind.i64, (↑ms.length : Int).tmod (IntKind.i64.wrap ((↑(diN (List.drop 0 bs) (rdL bs.length)) : Int) + 1)))) (↑(diN (List.drop 0 bs) (rdL bs.length)) : Int)).toNat - 0) * 4) (List.drop 0 (diL (List.drop 0 bs) (rdL bs.length)))))) [])))) (.fin (.bool (false)) [])))))))))))))) := by kernel_rfl
theorem IsDrawing_res (bs ms : List Int) (hb : Bytes bs) (_ : bs.length ≤ maxLen) (_ : Bytes ms) (hm : ms.length ≤ maxLen) : Res Try.prog 6 [.row bs.length (.bytes bs), .row ms.length (.bytes ms)] (.bool true) := by
  refine bodyV_res mixed ELi_ok (m := 30) (n := 12) rfl ?_
  rw [tr_lid]
  simp only [List.drop_zero]
  have rb : rdL bs.length ≤ bs.length ∧ rdL bs.length ≤ 2000 := by unfold rdL; omega
  have k2 := (diKey (n := bs.length) hb (Nat.le_refl _) rb.1 rb.2).2
  obtain ⟨hx, hn⟩ := di_len k2
  generalize diN bs (rdL bs.length) = n at *
  generalize diL bs (rdL bs.length) = xs at *
  have hP : Lim n := Nat.le_trans hn (by decide)
  have tk : List.take (n * 4) xs = xs := List.take_of_length_le (by omega)
  have w : IntKind.i64.wrap ((n : Int) + 1) = (n : Int) + 1 := wr (by omega)
  have hm0 : ms.length % (n + 1) < n + 1 := Nat.mod_lt _ (by omega)
  have e : (ms.length : Int).tmod ((n : Int) + 1) = ((ms.length % (n + 1) : Nat) : Int) := by
    rw [Int.tmod_eq_emod_of_nonneg (by omega), show (n : Int) + 1 = ((n + 1 : Nat) : Int) by omega, ← Int.natCast_emod]
  simp only [tk, w, e, bnd_someD, bnd_noneD, Int.toNat_natCast, Nat.sub_zero]
  generalize ms.length % (n + 1) = k at *
  refine brT_ok.2 ⟨fun _ => rfl, fun _ => brT_ok.2 ⟨fun _ => rfl, fun _ => ⟨hb, Nat.le_refl _, by omega, hP, by omega, hP, ?_⟩⟩⟩
  rcases hd : dwB n xs with _ | _
  · simp only [beq_self_eq_true, Bool.not_true, Bool.not_false, brT_t, brT_f]
    exact ⟨by omega, hP, rfl⟩
  · have hc := dw_cq hd
    have hk : dwB k (xs.take (k * 4)) = true := dw_take hx (by omega) hd
    have hK : Lim k := by unfold Lim at *; omega
    simp only [beq_self_eq_true, Bool.not_true, brT_f, hc, hk, List.length_nil]
    exact ⟨by omega, hx, hP, ⟨by omega, by omega, by omega⟩, by omega, hK, rfl⟩
end Go.Proofs.Ytolodncpegajkaa
