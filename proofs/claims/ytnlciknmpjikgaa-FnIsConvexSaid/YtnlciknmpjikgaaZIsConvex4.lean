/-
  Texts that the proof needs, merged. Written by an AI agent.
-/
import Derived.Orders
import Derived.Below
import Derived.OrdersIn
import Derived.Deep.LoopGhost
import Derived.WalkKit
import Derived.Laws.CopyRow
import Derived.Laws.AppendOwn
import Derived.Laws.Slices
import Derived.Laws.MakeOwn
import Derived.Test.YtnlciknmpjikgaaRows
import Derived.ProofKit
import Derived.OpenShut
import Derived.Carry
import Derived.IntWalk
import Derived.Test.YtnlciknmpjikgaaProg
import Derived.WalkSpells
import Derived.WalkLawsBesides
import Derived.Lib.Hide
import Derived.Deep.QuietTactic
import Derived.BigQuiet
import Derived.KernelRfl
import Derived.Deep.RegionHeld3
import Derived.LoopTactic
import Derived.Laws.StructEq
import Derived.Laws.Tables
import Derived.RangeFuncNested
import Derived.RangeFuncLeaves
import Derived.Deep.Slices
import Derived.Deep.Fields
import Derived.ChangeSame
import Derived.Shelf.SlSortCmp.WholeK
import Derived.Sort.Grow
import Derived.Deep.DeepCutAuto
import Derived.Shelf.SlSortCmp.NoneTotal
import Derived.Test.YtnlciknmpjikgaaZIsConvex3
set_option linter.all false
namespace Go.Proofs.Ytnlciknmpjikgaa
open Go.RowKit Go.Sort Go.Lib
def encP (p : Pt) : List Value := [.int .i64 p.1, .int .i64 p.2]
def cfP (p q : Pt) : Int := cmpQ p.1 p.2 q.1 q.2
theorem cfP_lt (p q : Pt) : ltOf cfP p q = pltB p q := by
  unfold ltOf
  rw [Bool.eq_iff_iff, pltB_iff, decide_eq_true_eq]
  unfold cfP cmpQ orI sgn
  split <;> (try split) <;> (try split) <;> (try split) <;> omega
theorem swoP : SWO (ltOf cfP) where
  irrefl x := by rw [cfP_lt]; exact plt_irr
  trans x y z h1 h2 := by rw [cfP_lt] at *; exact plt_trans h1 h2
  ntrans x y z h1 h2 := by
    rw [cfP_lt] at *
    rw [← Bool.not_eq_true, pltB_iff] at *
    omega
def sortP (ps : List Pt) : List Pt := ps.mergeSort fun x y => !(pltB y x)
theorem sortP_len (ps : List Pt) : (sortP ps).length = ps.length := List.length_mergeSort _
theorem sortP_mem (ps : List Pt) (z : Pt) : z ∈ sortP ps ↔ z ∈ ps := List.mem_mergeSort
theorem sortP_up (ps : List Pt) : (sortP ps).Pairwise fun x y => pltB y x = false := by
  have := List.pairwise_mergeSort (le := fun x y => !(pltB y x)) (fun a b c h1 h2 => by
    simp only [Bool.not_eq_true', ← Bool.not_eq_true, pltB_iff] at *
    omega) (fun a b => by
    simp only [Bool.or_eq_true, Bool.not_eq_true', ← Bool.not_eq_true, pltB_iff]
    omega) ps
  exact this.imp fun h => by simpa using h
theorem sort_any (ps : List Pt) (blk cap : Nat) (w : World) (hH : HoldsK encP 2 w blk 0 ps.toArray) (hblk : blk < w.heap.size) (hsz : ps.length < 4611686018427387904) :
    Calls Try.prog 87 #[.slice (some ⟨blk, 0, none⟩) ps.length cap, .func (.func 45) #[] #[]] w fun e w' => e = .returned (.tuple #[]) ∧ ∃ n os, w' = sortWorldK encP 2 w blk 0 n (sortP ps).toArray os := by
  have eg : ∀ args w, (callFunc 45 args).run Try.prog w = .ok (.enter 45 args) w := Go.Proofs.enters_of Try.func45 (by kernel_rfl) rfl
  have h := AnyQ.slices_SortFunc_total sortPt 2 Try.isAgg31 Try.sizeOf31 encP (fun _ => rfl) (fun x v hv => by simp [encP] at hv; rcases hv with rfl | rfl <;> rfl) cfP swoP 45 #[] blk 0 cap ps.toArray w eg (fun _ _ _ _ x y => cmpPt_any _ _ _ _ _) hH hblk (by simpa using hsz) (fun x y h1 h2 => by
    rw [cfP_lt] at h1 h2
    refine Classical.byContradiction fun hne => ?_
    have := plt_tri h1 hne
    rw [h2] at this
    cases this)
  have e : (fun x y => !(ltOf cfP) y x) = fun x y => !(pltB y x) := by
    funext x y
    rw [cfP_lt]
  simp only [e] at h
  change Calls Try.prog 87 _ _ _ at h
  simpa [sortP] using h
theorem sort_none (p : Option Addr) (cap : Nat) (fv : Value) (w : World) :
    Calls Try.prog 87 #[.slice p 0 cap, fv] w fun e w' => e = .returned (.tuple #[]) ∧ w' = w := AnyF.slices_SortFunc_none sortPt p cap fv w
theorem flatK_flat (ps : List Pt) : flatK encP 2 ps.toArray = ((flat ps).map (Value.int .i64)).toArray := by
  apply Array.ext
  · simp [flat_length]
  · intro i h1 h2
    have h1' : i < ps.length * 2 := by simpa using h1
    have hq : i / 2 < ps.length := by omega
    have e := get_flatK encP 2 ps.toArray i (by simpa using h1')
    rw [getElem!_pos _ i h1] at e
    rw [e]
    have hg := flat_get ps (i / 2)
    have hd : ps.getD (i / 2) (0, 0) = ps[i / 2] := by simp [List.getD, hq]
    rw [hd] at hg
    have hp : ps.toArray[i / 2]! = ps[i / 2] := by simp [hq]
    rw [hp]
    have hl : i < (flat ps).length := by rw [flat_length]; exact h1'
    have hr : ((flat ps).map (Value.int .i64)).toArray[i] = .int .i64 ((flat ps).getD i 0) := by simp [List.getD, hl]
    rw [hr]
    rcases Nat.mod_two_eq_zero_or_one i with h | h
    · have hi : i = i / 2 * 2 := by omega
      rw [h, show (flat ps).getD i 0 = (flat ps).getD (i / 2 * 2) 0 by rw [← hi], hg.1]
      rfl
    · have hi : i = i / 2 * 2 + 1 := by omega
      rw [h, show (flat ps).getD i 0 = (flat ps).getD (i / 2 * 2 + 1) 0 by rw [← hi], hg.2]
      rfl
def soG (cf : FuncId) (args : List Value) : Rd Eff := match args with
  | [.slice (some ⟨nr, 0, none⟩) l _, .func (.func g) ⟨[]⟩ ⟨[]⟩] => .blk nr fun b => match b with
    | some ⟨.row e 2, .ints xs⟩ => (match Nat.beq g cf with
      | true => .ret ⟨.tuple #[], [(nr, ⟨.row e 2, .ints (flat (sortP (ptsA l xs)))⟩)], [xs.length = l * 2, l ≤ 1000000000]⟩
      | false => .fail)
    | _ => .fail
  | _ => .fail
theorem sw_heap (w : World) (blk n : Nat) (d : Array Pt) (os : Array Obj) : (sortWorldK encP 2 w blk 0 n d os).os = w.os ∧ (sortWorldK encP 2 w blk 0 n d os).tape = w.tape ∧ (sortWorldK encP 2 w blk 0 n d os).output = w.output ∧ w.heap.size ≤ (sortWorldK encP 2 w blk 0 n d os).heap.size ∧
    (∀ k, k < w.heap.size → k ≠ blk → (sortWorldK encP 2 w blk 0 n d os).heap[k]? = w.heap[k]?) ∧ ∀ cs e, w.heap[blk]? = some (.cells cs e (0, 0)) → (sortWorldK encP 2 w blk 0 n d os).heap[blk]? = some (.cells (putCells id 0 (flatK encP 2 d) cs) e (0, 0)) := by
  refine ⟨rfl, rfl, rfl, ?_, ?_, ?_⟩
  · simp [sortWorldK, grow, putRowK, putRow, mapBlock, ahead]
  · intro k hk hne
    simp [sortWorldK, grow, putRowK, putRow, mapBlock, ahead, Array.getElem?_append, hk]
    rw [Array.getElem_modify, if_neg (Ne.symm hne)]
  · intro cs e h
    have hk : blk < w.heap.size := (Array.getElem?_eq_some_iff.1 h).1
    have ha : (Sort.ahead w n).heap = w.heap := rfl
    simp only [sortWorldK, grow, putRowK, putRow, mapBlock, Array.getElem?_append, Array.size_modify, Array.getElem?_modify, ha, hk, if_true, h]
    rfl
theorem soG_sound {J : TabJ} (hJ : GSound Try.prog J.g) : GSound Try.prog (consJ 87 (fun _ => soG 45) J).g := by
  intro h name args s eff hr hn
  simp only [consJ] at hr
  split at hr
  rotate_left
  · exact hJ h name args s eff hr hn
  rename_i heq
  obtain rfl := Nat.eq_of_beq_eq_true heq
  refine ⟨(entersB_res (by kernel_rfl)).1, fun B ρ0 ρ w args' ha hm hB hcond => ?_⟩
  unfold soG at hr
  split at hr
  rotate_left
  · simp [Rd.run] at hr
  rename_i nr l c g
  simp only [Rd.run] at hr
  split at hr
  rotate_left
  · simp [Rd.run] at hr
  rename_i e xs hb
  split at hr
  rotate_left
  · simp [Rd.run] at hr
  rename_i hg
  obtain rfl := Nat.eq_of_beq_eq_true hg
  obtain rfl : (⟨.tuple #[], [(nr, ⟨.row e 2, .ints (flat (sortP (ptsA l xs)))⟩)], [xs.length = l * 2, l ≤ 1000000000]⟩ : Eff) = eff := by simpa [Rd.run] using hr
  obtain ⟨hxl, hl, _⟩ := hcond
  obtain ⟨ps, rfl, rfl⟩ := even_flat hxl
  rw [ptsA_flat]
  obtain ⟨hsz, hval⟩ := ha
  obtain ⟨x0, x1, rfl⟩ : ∃ x0 x1, args' = #[x0, x1] := by
    have h2 : args'.size = 2 := by simpa using hsz.symm
    match args', h2 with
    | ⟨[x0, x1]⟩, _ => exact ⟨x0, x1, rfl⟩
  have v0 := hval 0 _ x0 rfl rfl
  have v1 := hval 1 _ x1 rfl rfl
  obtain rfl := v1.plain rfl
  rw [upd_one]
  have hok := hm.ok nr _ hb
  have none_ : ∀ ad c', ps = [] → x0 = .slice ad 0 c' → Calls Try.prog 87 #[x0, .func (.func 45) #[] #[]] w fun e' w' => ∃ v' ρ', e' = .returned v' ∧ Ext ρ ρ' ∧ VR ρ' (.tuple #[]) v' ∧ BelowK B w w' ∧ MemOk ρ0 ρ' B (setB s.blk nr ⟨.row e 2, .ints (flat (sortP ps))⟩) w' := by
    rintro ad c' rfl rfl
    refine (sort_none _ _ _ _).mono ?_
    rintro e' w' ⟨rfl, rfl⟩
    refine ⟨_, ρ, rfl, Ext.refl ρ, .lit rfl, BelowK.refl _ _, ?_⟩
    have e0 : sortP [] = [] := by simp [sortP]
    rw [e0]
    rcases hok with ⟨p, k1, k2, k3⟩ | ⟨g, cap, k1, k2, cs', k3, k4, k5⟩
    · exact hm.setNil hb k1 ⟨k2, 0, k3⟩ (.inl ⟨p, k1, k2, k3⟩)
    · exact hm.set hb rfl k1 (okPl.not (.inl rfl)) (Nat.le_refl _) (fun k _ _ => rfl) (.inr ⟨g, cap, k1, k2, cs', k3, k4, k5⟩)
  rcases v0.slice_inv with ⟨g, f, cp, c', j1, jok, j2, j3, j4⟩ | ⟨hl0, _, ad, c', j2⟩ | ⟨hl0, ad, c', p, j2, _, _, _⟩
  rotate_left
  · exact none_ _ _ (List.eq_nil_of_length_eq_zero hl0) j2
  · exact none_ _ _ (List.eq_nil_of_length_eq_zero hl0) j2
  rcases hok with ⟨p, k1, k2, k3⟩ | ⟨g2, cap, k1, k2, cs', k3, k4, k5⟩
  · rw [k1] at j1
    obtain rfl : p = (g, f, cp) := by simpa using j1
    exact absurd ⟨k2, 0, k3⟩ jok.not
  rw [k1] at j1
  obtain ⟨rfl, rfl, rfl⟩ : g2 = g ∧ 0 = f ∧ some cap = cp := by simpa using j1
  subst j2
  have hcell : ∀ j, j < ps.length * 2 → cs'[j]? = some (.int .i64 ((flat ps).getD j 0)) := fun j hj => by
    have hjl : j < (flat ps).length := by rw [flat_length]; exact hj
    obtain ⟨v', h6, h7⟩ := k5 j (.int .i64 ((flat ps).getD j 0)) (by show ((flat ps).map (Value.int .i64))[j]? = _; simp [List.getD, hjl])
    rw [h7.plain rfl] at h6
    exact h6
  have hH : HoldsK encP 2 w g2 0 ps.toArray := by
    intro j hj
    have hj' : j < ps.length * 2 := by simpa using hj
    have hjl : j < (flat ps).length := by rw [flat_length]; exact hj'
    refine ⟨?_, ?_⟩
    · simp only [World.cell?, Nat.zero_add, k3, Option.isSome_none, Bool.false_eq_true, if_false, hcell j hj', flatK_flat]
      simp [List.getD, hjl]
    · simp [World.frozen?, k3]
  have hg : g2 < w.heap.size := (Array.getElem?_eq_some_iff.1 k3).1
  refine (sort_any ps g2 c' w hH hg (by omega)).mono ?_
  rintro e' w' ⟨rfl, n, os, rfl⟩
  obtain ⟨s1, s2, s3, s4, s5, s6⟩ := sw_heap w g2 n (sortP ps).toArray os
  refine ⟨_, ρ, rfl, Ext.refl ρ, .lit rfl, ⟨s1, s2, s3, s4, fun k hk => s5 k (hB k hk) fun e => k2 (e ▸ hk)⟩, ?_⟩
  refine hm.set hb rfl k1 (okPl.not (.inl rfl)) s4 (fun k hk hne => s5 k hk hne) (.inr ⟨g2, cap, k1, k2, _, s6 cs' e k3, ?_, ?_⟩)
  · simpa [putCells] using k4
  · intro k v hk
    have hk' : ((flat (sortP ps)).map (Value.int .i64))[k]? = some v := hk
    have hkl : k < ps.length * 2 := by
      have := (List.getElem?_eq_some_iff.1 hk').1
      rw [List.length_map, flat_length, sortP_len] at this
      exact this
    have hkc : k < cs'.size := (Array.getElem?_eq_some_iff.1 (hcell k hkl)).1
    refine ⟨v, ?_, ?_⟩
    · rw [flatK_flat]
      simp only [putCells, Array.getElem?_mapIdx, Array.getElem?_eq_getElem hkc, Option.map_some, Nat.zero_le, true_and, Nat.zero_add, List.size_toArray, List.length_map, flat_length, sortP_len, hkl, if_true, Nat.sub_zero, id]
      rw [← hk']
      have hkl2 : k < (flat (sortP ps)).length := by rw [flat_length, sortP_len]; exact hkl
      simp [hkl2]
    · obtain ⟨y, _, rfl⟩ := List.mem_map.1 (List.mem_of_getElem? hk')
      exact .lit rfl
def E1 : Env := mkE (T1) (fun _ _ => none) (fun _ => noL)
theorem E1_ok : EnvOk Try.prog E1 := mkEOk (T1_ok) (fun _ _ _ _ _ h => (by cases h)) (fun _ _ _ _ _ _ _ _ _ _ _ h => (by cases h))
def vB (p : Pt) : Bool := ptB p.1 p.2
def allV (ps : List Pt) : Bool := ps.all vB
noncomputable def c43 : Code := ((loopsOf (codeOf Try.f58))[0]?).getD .skip
noncomputable def c80 : Code := ((loopsOf (codeOf Try.f80))[0]?).getD .skip
set_option maxRecDepth 100000 in
theorem nl43 : loopsOf c43 = [] := by kernel_rfl
set_option maxRecDepth 100000 in
theorem nl80 : loopsOf c80 = [] := by kernel_rfl
def k43 : Ex → List Nat := keeps [0, 3] [(0, [0])] [2]
def k80 : Ex → List Nat := keeps [5, 6, 7] [] [2]
def s43 (ps : List Pt) (i : Nat) : St := ⟨(ß 0 ps.length ps.length :: topV :: topV :: .int .i64 i :: ω15 []), [some ⟨.view, .ints (flat ps)⟩]⟩
def s80 (ps : List Pt) (i : Nat) : St := ⟨(ω5 ß 0 ps.length ps.length :: .int .i64 ps.length :: .int .i64 i :: ω7 []), [some ⟨.view, .ints (flat ps)⟩]⟩
set_option maxRecDepth 100000 in
theorem tr43 (ps : List Pt) (i : Nat) : bodyL Try.prog E1 30 12 noL 1 c43 k43 1 (s43 ps i) = brT (decide ((↑i : Int) < (↑ps.length : Int))) (.need ((0 : Int) ≤ (↑i : Int) ∧ (↑i : Int) < (↑ps.length : Int)) (.need ((0 : Nat) + (↑i : Int).toNat * (2 : Nat) + (2 : Nat) ≤ (flat ps).length) (brT (!ptB ((flat ps).getD (0 + (↑i : Int).toNat * 2) 0) ((flat ps).getD (0 + (↑i : Int).toNat * 2 + 1) 0)) (.leaf .ret ⟨(topV :: topV :: .bool (false) :: ω16 []), [some ⟨.view, .ints (flat ps)⟩]⟩) (.leaf .normal ⟨(ß 0 (ps.length) (ps.length) :: topV :: topV :: .int .i64 (ŵ ((↑i : Int) + 1)) :: ω15 []), [some ⟨.view, .ints (flat ps)⟩]⟩)))) (.leaf (.exit 0) ⟨(ß 0 (ps.length) (ps.length) :: ω18 []), [some ⟨.view, .ints (flat ps)⟩]⟩) := by kernel_rfl
set_option maxRecDepth 100000 in
theorem tr80 (ps : List Pt) (i : Nat) : bodyL Try.prog E1 30 12 noL 1 c80 k80 1 (s80 ps i) = brT (decide ((↑i : Int) < (↑ps.length : Int))) (.need ((0 : Int) ≤ (↑i : Int) ∧ (↑i : Int) < (↑ps.length : Int)) (.need ((0 : Nat) + (↑i : Int).toNat * (2 : Nat) + (2 : Nat) ≤ (flat ps).length) (brT (!ptB ((flat ps).getD (0 + (↑i : Int).toNat * 2) 0) ((flat ps).getD (0 + (↑i : Int).toNat * 2 + 1) 0)) (.leaf .ret ⟨(topV :: topV :: .bool (false) :: ω12 []), [some ⟨.view, .ints (flat ps)⟩]⟩) (.leaf .normal ⟨(ω5 ß 0 (ps.length) (ps.length) :: .int .i64 ((↑ps.length : Int)) :: .int .i64 (ŵ ((↑i : Int) + 1)) :: ω7 []), [some ⟨.view, .ints (flat ps)⟩]⟩)))) (.leaf (.exit 0) ⟨(ω15 []), [some ⟨.view, .ints (flat ps)⟩]⟩) := by kernel_rfl
def re43 (ps : List Pt) (i : Nat) : Ex := bif (ps.drop i).all vB then .exit 0 else .ret
def rs43 (ps : List Pt) (i : Nat) : St := bif (ps.drop i).all vB then ⟨(ß 0 ps.length ps.length :: ω18 []), [some ⟨.view, .ints (flat ps)⟩]⟩ else ⟨(topV :: topV :: .bool false :: ω16 []), [some ⟨.view, .ints (flat ps)⟩]⟩
def re80 (ps : List Pt) (i : Nat) : Ex := bif (ps.drop i).all vB then .exit 0 else .ret
def rs80 (ps : List Pt) (i : Nat) : St := bif (ps.drop i).all vB then ⟨(ω15 []), [some ⟨.view, .ints (flat ps)⟩]⟩ else ⟨(topV :: topV :: .bool false :: ω12 []), [some ⟨.view, .ints (flat ps)⟩]⟩
theorem round43 (ps : List Pt) (hn : ps.length ≤ 1000000000) (i : Nat) (hi : i ≤ ps.length) :
    (bodyL Try.prog E1 30 12 noL 1 c43 k43 1 (s43 ps i)).ok (RoundEnd 1 (s43 ps) (fun i => i ≤ ps.length) (fun i => ps.length - i) (re43 ps) (rs43 ps) i) (fun _ _ => False) := by
  rw [tr43]
  simp only [brT_ok, Tree.ok, decide_eq_true_eq, decide_eq_false_iff_not, Int.toNat_natCast, Nat.zero_add, flat_length, flat_get0, flat_get1, Bool.not_eq_true', Bool.not_eq_false']
  refine ⟨fun hlt => ⟨by omega, by omega, fun hv => ?_, fun hv => ?_⟩, fun hge => ?_⟩
  · have e : (ps.drop i).all vB = false := by rw [all_drop (by omega) (0, 0)]; simp only [vB, hv, Bool.false_and]
    refine ⟨by simp only [re43, e, cond_false], [], ?_⟩
    simp only [rs43, e, cond_false]
    repeat' (first | exact True.intro | exact rfl | refine And.intro ?_ ?_)
  · have e : (ps.drop i).all vB = (ps.drop (i + 1)).all vB := by rw [all_drop (by omega) (0, 0)]; simp only [vB, hv, Bool.true_and]
    rw [wsucc (n := ps.length) (by omega) hn]
    refine ⟨i + 1, [], by omega, by dsimp only; omega, by simp only [re43, e], by simp only [rs43, e], ?_⟩
    repeat' (first | exact True.intro | exact rfl | refine And.intro ?_ ?_)
  · have e : (ps.drop i).all vB = true := all_end (by omega) _
    refine ⟨by simp only [re43, e, cond_true], [], ?_⟩
    simp only [rs43, e, cond_true]
    repeat' (first | exact True.intro | exact rfl | refine And.intro ?_ ?_)
theorem round80 (ps : List Pt) (hn : ps.length ≤ 1000000000) (i : Nat) (hi : i ≤ ps.length) :
    (bodyL Try.prog E1 30 12 noL 1 c80 k80 1 (s80 ps i)).ok (RoundEnd 1 (s80 ps) (fun i => i ≤ ps.length) (fun i => ps.length - i) (re80 ps) (rs80 ps) i) (fun _ _ => False) := by
  rw [tr80]
  simp only [brT_ok, Tree.ok, decide_eq_true_eq, decide_eq_false_iff_not, Int.toNat_natCast, Nat.zero_add, flat_length, flat_get0, flat_get1, Bool.not_eq_true', Bool.not_eq_false']
  refine ⟨fun hlt => ⟨by omega, by omega, fun hv => ?_, fun hv => ?_⟩, fun hge => ?_⟩
  · have e : (ps.drop i).all vB = false := by rw [all_drop (by omega) (0, 0)]; simp only [vB, hv, Bool.false_and]
    refine ⟨by simp only [re80, e, cond_false], [], ?_⟩
    simp only [rs80, e, cond_false]
    repeat' (first | exact True.intro | exact rfl | refine And.intro ?_ ?_)
  · have e : (ps.drop i).all vB = (ps.drop (i + 1)).all vB := by rw [all_drop (by omega) (0, 0)]; simp only [vB, hv, Bool.true_and]
    rw [wsucc (n := ps.length) (by omega) hn]
    refine ⟨i + 1, [], by omega, by dsimp only; omega, by simp only [re80, e], by simp only [rs80, e], ?_⟩
    repeat' (first | exact True.intro | exact rfl | refine And.intro ?_ ?_)
  · have e : (ps.drop i).all vB = true := all_end (by omega) _
    refine ⟨by simp only [re80, e, cond_true], [], ?_⟩
    simp only [rs80, e, cond_true]
    repeat' (first | exact True.intro | exact rfl | refine And.intro ?_ ?_)
def lt43 : LT := fun j s k => match j, s with
  | 0, ⟨[ß 0 n _, _, _, .int .i64 i, _, _, _, _, _, _, _, _, _, _, _, _, _, _, _], [some ⟨.view, .ints xs⟩]⟩ =>
    some (needs [i = 0, xs.length = n * 2, n ≤ 1000000000] (brT (allV (ptsA n xs)) (k (.exit 0) ⟨(ß 0 n n :: ω18 []), [some ⟨.view, .ints xs⟩]⟩) (k .ret ⟨(topV :: topV :: .bool false :: ω16 []), [some ⟨.view, .ints xs⟩]⟩)))
  | _, _ => none
def lt80 : LT := fun j s k => match j, s with
  | 0, ⟨[_, _, _, _, _, ß 0 n _, .int .i64 l, .int .i64 i, _, _, _, _, _, _, _], [some ⟨.view, .ints xs⟩]⟩ =>
    some (needs [i = 0, l = n, xs.length = n * 2, n ≤ 1000000000] (brT (allV (ptsA n xs)) (k (.exit 0) ⟨(ω15 []), [some ⟨.view, .ints xs⟩]⟩) (k .ret ⟨(topV :: topV :: .bool false :: ω12 []), [some ⟨.view, .ints xs⟩]⟩)))
  | _, _ => none
set_option maxRecDepth 100000 in
theorem lg43 : LoopsGood Try.prog lt43 0 (codeOf Try.f58) := by
  intro i d hd s k t F H hlt ht
  rw [Nat.zero_add] at hlt
  unfold lt43 at hlt
  split at hlt
  rotate_left
  · cases hlt
  obtain rfl : c43 = d := by unfold c43; rw [hd]; rfl
  obtain rfl := Option.some.inj hlt
  obtain ⟨⟨rfl, h1, h2, _⟩, ht2⟩ := needs_ok ht
  clear ht hlt
  obtain ⟨ps, rfl, rfl⟩ := even_flat h1
  rw [ptsA_flat] at ht2
  refine ⟨_, _, pick2k ht2, loop_run mixed E1_ok (s43 ps) (fun i => i ≤ ps.length) (fun i => ps.length - i) (re43 ps) (rs43 ps) k43 (fun _ => rfl) (noLoops nl43) (round43 ps h2) (x := 0) (Nat.zero_le _) (π := []) rfl ?_⟩
  repeat' (first | exact True.intro | exact rfl | exact wv_top _ _ | refine And.intro ?_ ?_)
set_option maxRecDepth 100000 in
theorem lg80 : LoopsGood Try.prog lt80 0 (codeOf Try.f80) := by
  intro i d hd s k t F H hlt ht
  rw [Nat.zero_add] at hlt
  unfold lt80 at hlt
  split at hlt
  rotate_left
  · cases hlt
  obtain rfl : c80 = d := by unfold c80; rw [hd]; rfl
  obtain rfl := Option.some.inj hlt
  obtain ⟨⟨rfl, rfl, h1, h2, _⟩, ht2⟩ := needs_ok ht
  clear ht hlt
  obtain ⟨ps, rfl, rfl⟩ := even_flat h1
  rw [ptsA_flat] at ht2
  refine ⟨_, _, pick2k ht2, loop_run mixed E1_ok (s80 ps) (fun i => i ≤ ps.length) (fun i => ps.length - i) (re80 ps) (rs80 ps) k80 (fun _ => rfl) (noLoops nl80) (round80 ps h2) (x := 0) (Nat.zero_le _) (π := []) rfl ?_⟩
  repeat' (first | exact True.intro | exact rfl | exact wv_top _ _ | refine And.intro ?_ ?_)
def L2 : FuncId → LT := fun f => match f with
  | 58 => lt43
  | 80 => lt80
  | _ => noL
def E2 : Env := mkE (T1) (fun _ _ => none) (L2)
theorem E2_ok : EnvOk Try.prog E2 := by
  refine mkEOk T1_ok (fun _ _ _ _ _ h => (by cases h)) fun f fn hf => ?_
  show LoopsGood Try.prog (L2 f) 0 (codeOf fn)
  unfold L2
  split
  · obtain rfl : Try.f58 = fn := by rw [Try.func58] at hf; simpa using hf
    exact lg43
  · obtain rfl : Try.f80 = fn := by rw [Try.func80] at hf; simpa using hf
    exact lg80
  · exact noL_good
set_option maxRecDepth 100000 in
theorem tr_f43 (ps : List Pt) : bodyX Try.prog E2 30 12 58 [.row ps.length (.ints (flat ps))] = .need ((0 : Int) = (0 : Int)) (.need ((flat ps).length = ps.length * (2 : Nat)) (.need (ps.length ≤ (1000000000 : Nat)) (brT (allV (ptsA ps.length (flat ps))) (.fin (.bool (decide ((↑ps.length : Int) ≤ 20))) [some ⟨.view, .ints (flat ps)⟩]) (.fin (.bool (false)) [some ⟨.view, .ints (flat ps)⟩])))) := by kernel_rfl
set_option maxRecDepth 100000 in
theorem tr_f80 (ps : List Pt) : bodyX Try.prog E2 30 12 80 [.row ps.length (.ints (flat ps))] = .need ((0 : Int) = (0 : Int)) (.need ((↑ps.length : Int) = (↑ps.length : Int)) (.need ((flat ps).length = ps.length * (2 : Nat)) (.need (ps.length ≤ (1000000000 : Nat)) (brT (allV (ptsA ps.length (flat ps))) (.fin (.bool (true)) [some ⟨.view, .ints (flat ps)⟩]) (.fin (.bool (false)) [some ⟨.view, .ints (flat ps)⟩]))))) := by kernel_rfl
def Big (ps : List Pt) : Prop := ps.length ≤ 1000000000
def okL (ps : List Pt) : Bool := allV ps && decide (ps.length ≤ 20)
theorem res_f43 (ps : List Pt) (h : Big ps) : Res Try.prog 58 [.row ps.length (.ints (flat ps))] (.bool (okL ps)) := by
  refine bodyX_res mixed E2_ok (m := 30) (n := 12) rfl ?_
  rw [tr_f43, ptsA_flat]
  unfold Big at h
  unfold okL
  cases hv : allV ps <;> simp [Tree.ok, brT, flat_length, h]
  omega
theorem res_f80 (ps : List Pt) (h : Big ps) : Res Try.prog 80 [.row ps.length (.ints (flat ps))] (.bool (allV ps)) := by
  refine bodyX_res mixed E2_ok (m := 30) (n := 12) rfl ?_
  rw [tr_f80, ptsA_flat]
  unfold Big at h
  cases hv : allV ps <;> simp [Tree.ok, brT, flat_length, h]
def pL (g : List Pt → Value) : List DArg → Option (Value × List Prop)
  | [.row n (.ints xs)] => some (g (ptsA n xs), [n * 2 ≤ xs.length, n ≤ 1000000000])
  | _ => none
theorem pL_ok {f : FuncId} {g : List Pt → Value} (h : ∀ ps, Big ps → Res Try.prog f [.row ps.length (.ints (flat ps))] (g ps)) {ds : List DArg} {v : Value} {C : List Prop} (hd : pL g ds = some (v, C)) (hC : AllP C) : Res Try.prog f ds v := by
  unfold pL at hd
  split at hd
  · rename_i n xs
    obtain ⟨rfl, rfl⟩ : _ ∧ _ := by simpa using hd
    obtain ⟨h1, h2⟩ := ptsA_spec hC.1
    have h0 := h (ptsA n xs) (by unfold Big; rw [h2]; exact hC.2.1)
    exact res_pts1 (pre := []) (post := []) hC.1 h0
  · cases hd
def T2 : Tab := fun f ds => match f with
  | 58 => pL (fun ps => .bool (okL ps)) ds
  | 80 => (match pL (fun ps => .bool (allV ps)) ds with
    | some r => some r
    | none => T1 f ds)
  | f => T1 f ds
theorem T2_ok : TabOk Try.prog T2 := by
  intro f ds v C h hC
  unfold T2 at h
  split at h
  · exact pL_ok res_f43 h hC
  · split at h
    · rename_i hr
      rw [h] at hr
      exact pL_ok res_f80 hr hC
    · exact T1_ok _ _ _ _ h hC
  · exact T1_ok _ _ _ _ h hC
def E3 : Env := mkE (T2) (fun _ _ => none) (fun _ => noL)
theorem E3_ok : EnvOk Try.prog E3 := mkEOk (T2_ok) (fun _ _ _ _ _ h => (by cases h)) (fun _ _ _ => noL_good)
theorem allV_get {ps : List Pt} (h : allV ps = true) (i : Nat) : -1000 ≤ (ps.getD i (0, 0)).1 ∧ (ps.getD i (0, 0)).1 ≤ 1000 ∧ -1000 ≤ (ps.getD i (0, 0)).2 ∧ (ps.getD i (0, 0)).2 ≤ 1000 := by
  rcases Nat.lt_or_ge i ps.length with hlt | hge
  · have := List.all_eq_true.1 h (ps.getD i (0, 0)) (by simp [hlt])
    simpa [vB, ptB] using this
  · simp [hge]
theorem brT_t (x y : Tree) : brT true x y = x := rfl
theorem brT_f (x y : Tree) : brT false x y = y := rfl
def eqL (ps qs : List Pt) : Bool := decide (ps = qs)
def sq (p q : Pt) : Int := (p.1 - q.1) * (p.1 - q.1) + (p.2 - q.2) * (p.2 - q.2)
def cnt (n : Int) (q : Pt) (ps : List Pt) : Int := (ps.countP fun p => decide (sq p q ≤ n) : Nat)
theorem cnt_yes {ps : List Pt} {i : Nat} (h : i < ps.length) (n : Int) (q : Pt) (hh : sq (ps.getD i (0, 0)) q ≤ n) : cnt n q (ps.drop i) = cnt n q (ps.drop (i + 1)) + 1 := by
  unfold cnt
  rw [drop_cons h (0, 0), List.countP_cons]
  simp only [hh, decide_true, if_true]
  omega
theorem cnt_no {ps : List Pt} {i : Nat} (h : i < ps.length) (n : Int) (q : Pt) (hh : ¬ sq (ps.getD i (0, 0)) q ≤ n) : cnt n q (ps.drop i) = cnt n q (ps.drop (i + 1)) := by
  unfold cnt
  rw [drop_cons h (0, 0), List.countP_cons]
  simp only [hh, decide_false, if_false, Bool.false_eq_true]
  omega
theorem cnt_end {ps : List Pt} {i : Nat} (h : ps.length ≤ i) (n : Int) (q : Pt) : cnt n q (ps.drop i) = 0 := by
  unfold cnt
  rw [List.drop_of_length_le h]
  rfl
noncomputable def c_toPts : Code := ((loopsOf (codeOf Try.f25))[0]?).getD .skip
def k_toPts : Ex → List Nat := keeps [0, 3, 4] [(0, [3])] [2]
def s_toPts (ps : List Pt) (n : Nat) : Nat × (List Pt) → St := fun (i, qs) => ⟨(ß 0 ps.length ps.length :: topV :: topV :: ß 1 n n :: .int .i64 i :: ω18 []), [some ⟨.view, .ints (flat ps)⟩, some ⟨.row 31 2, .ints (flat qs)⟩]⟩
def re_toPts : Nat × (List Pt) → Ex := fun _ => .exit 0
def rs_toPts (ps : List Pt) (n : Nat) : Nat × (List Pt) → St := fun (i, qs) => ⟨(ω3 ß 1 n n :: ω19 []), [some ⟨.view, .ints (flat ps)⟩, some ⟨.row 31 2, .ints (flat ps)⟩]⟩
set_option maxRecDepth 100000 in
theorem tr_toPts (ps : List Pt) (n : Nat) (i : Nat) (qs : List Pt) : bodyL Try.prog E3 30 12 noL 1 c_toPts k_toPts 2 (s_toPts ps n (i, qs)) = brT (decide ((↑i : Int) < (↑ps.length : Int))) (.need ((0 : Int) ≤ (↑i : Int) ∧ (↑i : Int) < (↑ps.length : Int)) (.need ((0 : Nat) + (↑i : Int).toNat * (2 : Nat) + (2 : Nat) ≤ (flat ps).length) (.need ((0 : Int) ≤ (↑i : Int) ∧ (↑i : Int) < (↑n : Int)) (.need ((0 : Nat) + (↑i : Int).toNat * (2 : Nat) + (2 : Nat) ≤ (flat qs).length) (.leaf .normal ⟨(ß 0 (ps.length) (ps.length) :: topV :: topV :: ß 1 (n) (n) :: .int .i64 (ŵ ((↑i : Int) + 1)) :: ω18 []), [some ⟨.view, .ints (flat ps)⟩, some ⟨.row 31 2, .ints (setInts (flat qs) (0 + (↑i : Int).toNat * 2) [(flat ps).getD (0 + (↑i : Int).toNat * 2) 0, (flat ps).getD (0 + (↑i : Int).toNat * 2 + 1) 0])⟩]⟩))))) (.leaf (.exit 0) ⟨(ω3 ß 1 (n) (n) :: ω19 []), [some ⟨.view, .ints (flat ps)⟩, some ⟨.row 31 2, .ints (flat qs)⟩]⟩) := by kernel_rfl
set_option maxRecDepth 100000 in
theorem nl_toPts : loopsOf c_toPts = [] := by kernel_rfl
def inv_toPts (ps : List Pt) (n : Nat) : Nat × (List Pt) → Prop := fun (i, qs) => i ≤ ps.length ∧ ps.length = n ∧ qs.length = n ∧ qs.take i = ps.take i
def me_toPts (ps : List Pt) (n : Nat) : Nat × (List Pt) → Nat := fun (i, qs) => ps.length - i
def Round_toPts (ps : List Pt) (n : Nat) : Prop := ∀ xx : Nat × (List Pt), inv_toPts ps n xx → (bodyL Try.prog E3 30 12 noL 1 c_toPts k_toPts 2 (s_toPts ps n xx)).ok (RoundEnd 2 (s_toPts ps n) (inv_toPts ps n) (me_toPts ps n) re_toPts (rs_toPts ps n) xx) (fun _ _ => False)
def e_toPts (s : St) (k : Ex → St → Tree) : Option Tree := match Nat.beq s.tmps.length 23, pickL s.tmps [0, 3, 4], s.mem with
  | true, [ß 0 n _, ß 1 m _, .int .i64 i], [some ⟨.view, .ints xs⟩, some ⟨.row 31 2, .ints ys⟩] => some (needs [i = 0, m = n, xs.length = n * 2, ys.length = n * 2, n ≤ 1000000000] (k (.exit 0) ⟨(ω3 ß 1 m m :: ω19 []), [some ⟨.view, .ints xs⟩, some ⟨.row 31 2, .ints xs⟩]⟩))
  | _, _, _ => none
set_option maxRecDepth 100000 in
theorem round_toPts (ps : List Pt) (n : Nat) (h : ps.length ≤ 1000000000) : Round_toPts ps n := by
  rintro ⟨i, qs⟩ ⟨h1, h2, h3, h4⟩
  rw [tr_toPts]
  simp only [brT_ok, Tree.ok, decide_eq_true_eq, decide_eq_false_iff_not, Int.toNat_natCast, Nat.zero_add, flat_length, flat_get0, flat_get1, Cs.size]
  refine ⟨fun hlt => ⟨by omega, by omega, by omega, by omega, ?_⟩, fun hge => ?_⟩
  · rw [wsucc (n := ps.length) (by omega) h, flat_set qs i (by omega)]
    refine ⟨(i + 1, qs.set i (ps.getD i (0, 0))), [], ⟨by omega, h2, by simp [h3], ?_⟩, ?_, rfl, rfl, ?_⟩
    · exact take_set_succ (by omega) (by omega) h4 _
    · show ps.length - (i + 1) < ps.length - i; omega
    · repeat' (first | exact True.intro | exact rfl | exact fun _ => rfl | refine And.intro ?_ ?_)
  · have e : qs = ps := by
      rw [List.take_of_length_le (by omega), List.take_of_length_le (by omega)] at h4
      exact h4
    subst e
    refine ⟨rfl, [], ?_⟩
    repeat' (first | exact True.intro | exact rfl | exact fun _ => rfl | refine And.intro ?_ ?_)
set_option maxRecDepth 100000 in
theorem lg_toPts : LoopE Try.prog e_toPts c_toPts := by
  intro s k t F H hlt ht
  unfold e_toPts at hlt
  split at hlt
  rotate_left
  · cases hlt
  rename_i hlen hpick hmem
  obtain ⟨tmps, mem⟩ := s
  simp only at hlen hpick hmem
  subst hmem
  obtain rfl := Option.some.inj hlt
  obtain ⟨⟨rfl, rfl, h1, h2, h3, _⟩, ht2⟩ := needs_ok ht
  clear ht hlt
  obtain ⟨ps, rfl, rfl⟩ := even_flat h1
  obtain ⟨qs, rfl, hq⟩ := even_flat h2
  refine ⟨_, _, ht2, loop_run mixed E3_ok (s_toPts ps ps.length) (inv_toPts ps ps.length) (me_toPts ps ps.length) re_toPts (rs_toPts ps ps.length) k_toPts (fun _ => rfl) (noLoops nl_toPts) (round_toPts ps ps.length h3) (x := (0, qs)) ⟨Nat.zero_le _, rfl, hq, rfl⟩ (π := []) rfl ?_⟩
  refine ⟨rfl, rfl, ?_, wvs_spread' [0, 3, 4] hlen rfl ?_⟩
  · repeat' (first | exact True.intro | exact rfl | exact wv_top _ _ | exact fun _ => rfl | assumption | exact Eq.symm (by assumption) | exact vI0 rfl | refine And.intro ?_ ?_)
  · rw [hpick]
    repeat' (first | exact True.intro | exact rfl | exact wv_top _ _ | exact fun _ => rfl | assumption | exact Eq.symm (by assumption) | exact vI0 rfl | refine And.intro ?_ ?_)
noncomputable def c_eqPts : Code := ((loopsOf (codeOf Try.f28))[0]?).getD .skip
def k_eqPts : Ex → List Nat := keeps [0, 1, 5] [(0, [])] [4]
def s_eqPts (ps : List Pt) (qs : List Pt) : Nat → St := fun i => ⟨(ß 0 ps.length ps.length :: ß 1 qs.length qs.length :: ω3 .int .i64 i :: ω21 []), [some ⟨.view, .ints (flat ps)⟩, some ⟨.view, .ints (flat qs)⟩]⟩
def re_eqPts (ps : List Pt) (qs : List Pt) : Nat → Ex := fun i => bif decide (ps.drop i = qs.drop i) then .exit 0 else .ret
def rs_eqPts (ps : List Pt) (qs : List Pt) : Nat → St := fun i => bif decide (ps.drop i = qs.drop i) then ⟨(ω27 []), [some ⟨.view, .ints (flat ps)⟩, some ⟨.view, .ints (flat qs)⟩]⟩ else ⟨(ω4 .bool false :: ω22 []), [some ⟨.view, .ints (flat ps)⟩, some ⟨.view, .ints (flat qs)⟩]⟩
set_option maxRecDepth 100000 in
theorem tr_eqPts (ps : List Pt) (qs : List Pt) (i : Nat) : bodyL Try.prog E3 30 12 noL 1 c_eqPts k_eqPts 2 (s_eqPts ps qs i) = brT (decide ((↑i : Int) < (↑ps.length : Int))) (brT (!(flat ps).getD (0 + (↑i : Int).toNat * 2) 0 == (flat qs).getD (0 + (↑i : Int).toNat * 2) 0) (.need ((0 : Int) ≤ (↑i : Int) ∧ (↑i : Int) < (↑ps.length : Int)) (.need ((0 : Nat) + (↑i : Int).toNat * (2 : Nat) + (2 : Nat) ≤ (flat ps).length) (.need ((0 : Int) ≤ (↑i : Int) ∧ (↑i : Int) < (↑qs.length : Int)) (.need ((0 : Nat) + (↑i : Int).toNat * (2 : Nat) + (2 : Nat) ≤ (flat qs).length) (.leaf .ret ⟨(ω4 .bool (false) :: ω22 []), [some ⟨.view, .ints (flat ps)⟩, some ⟨.view, .ints (flat qs)⟩]⟩))))) (brT (!(flat ps).getD (0 + (↑i : Int).toNat * 2 + 1) 0 == (flat qs).getD (0 + (↑i : Int).toNat * 2 + 1) 0) (.need ((0 : Int) ≤ (↑i : Int) ∧ (↑i : Int) < (↑ps.length : Int)) (.need ((0 : Nat) + (↑i : Int).toNat * (2 : Nat) + (2 : Nat) ≤ (flat ps).length) (.need ((0 : Int) ≤ (↑i : Int) ∧ (↑i : Int) < (↑qs.length : Int)) (.need ((0 : Nat) + (↑i : Int).toNat * (2 : Nat) + (2 : Nat) ≤ (flat qs).length) (.leaf .ret ⟨(ω4 .bool (false) :: ω22 []), [some ⟨.view, .ints (flat ps)⟩, some ⟨.view, .ints (flat qs)⟩]⟩))))) (.need ((0 : Int) ≤ (↑i : Int) ∧ (↑i : Int) < (↑ps.length : Int)) (.need ((0 : Nat) + (↑i : Int).toNat * (2 : Nat) + (2 : Nat) ≤ (flat ps).length) (.need ((0 : Int) ≤ (↑i : Int) ∧ (↑i : Int) < (↑qs.length : Int)) (.need ((0 : Nat) + (↑i : Int).toNat * (2 : Nat) + (2 : Nat) ≤ (flat qs).length) (.leaf .normal ⟨(ß 0 (ps.length) (ps.length) :: ß 1 (qs.length) (qs.length) :: ω3 .int .i64 (ŵ ((↑i : Int) + 1)) :: ω21 []), [some ⟨.view, .ints (flat ps)⟩, some ⟨.view, .ints (flat qs)⟩]⟩))))))) (.leaf (.exit 0) ⟨(ω27 []), [some ⟨.view, .ints (flat ps)⟩, some ⟨.view, .ints (flat qs)⟩]⟩) := by kernel_rfl
set_option maxRecDepth 100000 in
theorem nl_eqPts : loopsOf c_eqPts = [] := by kernel_rfl
def inv_eqPts (ps : List Pt) (qs : List Pt) : Nat → Prop := fun i => i ≤ ps.length ∧ ps.length = qs.length
def me_eqPts (ps : List Pt) (qs : List Pt) : Nat → Nat := fun i => ps.length - i
def Round_eqPts (ps : List Pt) (qs : List Pt) : Prop := ∀ xx : Nat, inv_eqPts ps qs xx → (bodyL Try.prog E3 30 12 noL 1 c_eqPts k_eqPts 2 (s_eqPts ps qs xx)).ok (RoundEnd 2 (s_eqPts ps qs) (inv_eqPts ps qs) (me_eqPts ps qs) (re_eqPts ps qs) (rs_eqPts ps qs) xx) (fun _ _ => False)
def e_eqPts (s : St) (k : Ex → St → Tree) : Option Tree := match Nat.beq s.tmps.length 27, pickL s.tmps [0, 1, 5], s.mem with
  | true, [ß 0 n _, ß 1 m _, .int .i64 i], [some ⟨.view, .ints xs⟩, some ⟨.view, .ints ys⟩] => some (needs [i = 0, m = n, xs.length = n * 2, ys.length = n * 2, n ≤ 1000000000] (brT (eqL (ptsA n xs) (ptsA n ys)) (k (.exit 0) ⟨(ω27 []), [some ⟨.view, .ints xs⟩, some ⟨.view, .ints ys⟩]⟩) (k .ret ⟨(ω4 .bool false :: ω22 []), [some ⟨.view, .ints xs⟩, some ⟨.view, .ints ys⟩]⟩)))
  | _, _, _ => none
set_option maxRecDepth 100000 in
theorem round_eqPts (ps qs : List Pt) (h : ps.length ≤ 1000000000) : Round_eqPts ps qs := by
  rintro i ⟨h1, h2⟩
  rw [tr_eqPts]
  simp only [brT_ok, Tree.ok, decide_eq_true_eq, decide_eq_false_iff_not, Int.toNat_natCast, Nat.zero_add, flat_length, flat_get0, flat_get1, Bool.not_eq_true', Bool.not_eq_false', beq_iff_eq, beq_eq_false_iff_ne]
  refine ⟨fun hlt => ?_, fun hge => ?_⟩
  · have hd1 := drop_cons (l := ps) (k := i) (by omega) (0, 0)
    have hd2 := drop_cons (l := qs) (k := i) (by omega) (0, 0)
    have ne : ps.getD i (0, 0) ≠ qs.getD i (0, 0) → decide (ps.drop i = qs.drop i) = false := fun hne => by
      rw [hd1, hd2]
      simp only [List.cons.injEq, decide_eq_false_iff_not]
      exact fun h => hne h.1
    refine ⟨fun hv => ⟨by omega, by omega, by omega, by omega, ?_⟩, fun hv => ⟨fun hv2 => ⟨by omega, by omega, by omega, by omega, ?_⟩, fun hv2 => ⟨by omega, by omega, by omega, by omega, ?_⟩⟩⟩
    · have e := ne fun h => hv (by rw [h])
      refine ⟨by simp only [re_eqPts, e, cond_false], [], ?_⟩
      simp only [rs_eqPts, e, cond_false]
      repeat' (first | exact True.intro | exact rfl | exact fun _ => rfl | refine And.intro ?_ ?_)
    · have e := ne fun h => hv2 (by rw [h])
      refine ⟨by simp only [re_eqPts, e, cond_false], [], ?_⟩
      simp only [rs_eqPts, e, cond_false]
      repeat' (first | exact True.intro | exact rfl | exact fun _ => rfl | refine And.intro ?_ ?_)
    · have hp : ps.getD i (0, 0) = qs.getD i (0, 0) := Prod.ext hv hv2
      have e : decide (ps.drop i = qs.drop i) = decide (ps.drop (i + 1) = qs.drop (i + 1)) := by
        rw [hd1, hd2, hp]
        simp
      rw [wsucc (n := ps.length) (by omega) h]
      refine ⟨i + 1, [], ⟨by omega, h2⟩, ?_, by simp only [re_eqPts, e], by simp only [rs_eqPts, e], ?_⟩
      · show ps.length - (i + 1) < ps.length - i; omega
      · repeat' (first | exact True.intro | exact rfl | exact fun _ => rfl | refine And.intro ?_ ?_)
  · have e : decide (ps.drop i = qs.drop i) = true := by rw [List.drop_of_length_le (by omega), List.drop_of_length_le (by omega)]; rfl
    refine ⟨by simp only [re_eqPts, e, cond_true], [], ?_⟩
    simp only [rs_eqPts, e, cond_true]
    repeat' (first | exact True.intro | exact rfl | exact fun _ => rfl | refine And.intro ?_ ?_)
set_option maxRecDepth 100000 in
theorem lg_eqPts : LoopE Try.prog e_eqPts c_eqPts := by
  intro s k t F H hlt ht
  unfold e_eqPts at hlt
  split at hlt
  rotate_left
  · cases hlt
  rename_i hlen hpick hmem
  obtain ⟨tmps, mem⟩ := s
  simp only at hlen hpick hmem
  subst hmem
  obtain rfl := Option.some.inj hlt
  obtain ⟨⟨rfl, rfl, h1, h2, h3, _⟩, ht2⟩ := needs_ok ht
  clear ht hlt
  obtain ⟨ps, rfl, rfl⟩ := even_flat h1
  obtain ⟨qs, rfl, hq⟩ := even_flat h2
  rw [ptsA_flat, ← hq, ptsA_flat] at ht2
  refine ⟨_, _, pick2k ht2, loop_run mixed E3_ok (s_eqPts ps qs) (inv_eqPts ps qs) (me_eqPts ps qs) (re_eqPts ps qs) (rs_eqPts ps qs) k_eqPts (fun _ => rfl) (noLoops nl_eqPts) (round_eqPts ps qs h3) (x := 0) ⟨Nat.zero_le _, hq.symm⟩ (π := []) rfl ?_⟩
  refine ⟨rfl, rfl, ?_, wvs_spread' [0, 1, 5] hlen rfl ?_⟩
  · repeat' (first | exact True.intro | exact rfl | exact wv_top _ _ | exact fun _ => rfl | assumption | exact Eq.symm (by assumption) | exact vI0 rfl | refine And.intro ?_ ?_)
  · rw [hpick]
    repeat' (first | exact True.intro | exact rfl | exact wv_top _ _ | exact fun _ => rfl | assumption | exact Eq.symm (by assumption) | exact vI0 rfl | refine And.intro ?_ ?_)
noncomputable def c_specCW : Code := ((loopsOf (codeOf Try.f21))[0]?).getD .skip
def k_specCW : Ex → List Nat := keeps [0, 2, 4, 7, 8] [(0, [7])] [6]
def s_specCW (ps : List Pt) (x y n : Int) : Nat × Int → St := fun (i, o) => ⟨(ß 0 ps.length ps.length :: topV :: .int .i64 n :: topV :: .pointer (some ⟨3, 0, none⟩) :: topV :: topV :: .int .i64 o :: .int .i64 i :: ω25 []), [some ⟨.view, .ints (flat ps)⟩, none, none, some ⟨.box, .vals [.int .i64 x, .int .i64 y]⟩]⟩
def re_specCW : Nat × Int → Ex := fun _ => .exit 0
def rs_specCW (ps : List Pt) (x y n : Int) : Nat × Int → St := fun (i, o) => ⟨(ω7 .int .i64 (o + cnt n (x, y) (ps.drop i)) :: ω26 []), [some ⟨.view, .ints (flat ps)⟩, none, none, some ⟨.box, .vals [.int .i64 x, .int .i64 y]⟩]⟩
set_option maxRecDepth 100000 in
theorem tr_specCW (ps : List Pt) (x y n : Int) (i : Nat) (o : Int) : bodyL Try.prog E3 30 12 noL 1 c_specCW k_specCW 4 (s_specCW ps x y n (i, o)) = brT (decide ((↑i : Int) < (↑ps.length : Int))) (.need ((0 : Int) ≤ (↑i : Int) ∧ (↑i : Int) < (↑ps.length : Int)) (.need ((0 : Nat) + (↑i : Int).toNat * (2 : Nat) + (2 : Nat) ≤ (flat ps).length) (brT (decide (ŵ (ŵ (ŵ ((flat ps).getD (0 + (↑i : Int).toNat * 2) 0 - x) * ŵ ((flat ps).getD (0 + (↑i : Int).toNat * 2) 0 - x)) + ŵ (ŵ ((flat ps).getD (0 + (↑i : Int).toNat * 2 + 1) 0 - y) * ŵ ((flat ps).getD (0 + (↑i : Int).toNat * 2 + 1) 0 - y))) ≤ n)) (.leaf .normal ⟨(ß 0 (ps.length) (ps.length) :: topV :: .int .i64 (n) :: topV :: .pointer (some ⟨3, 0, none⟩) :: topV :: topV :: .int .i64 (ŵ (o + 1)) :: .int .i64 (ŵ ((↑i : Int) + 1)) :: ω25 []), [some ⟨.view, .ints (flat ps)⟩, none, none, some ⟨.box, .vals [.int .i64 (x), .int .i64 (y)]⟩]⟩) (.leaf .normal ⟨(ß 0 (ps.length) (ps.length) :: topV :: .int .i64 (n) :: topV :: .pointer (some ⟨3, 0, none⟩) :: topV :: topV :: .int .i64 (o) :: .int .i64 (ŵ ((↑i : Int) + 1)) :: ω25 []), [some ⟨.view, .ints (flat ps)⟩, none, none, some ⟨.box, .vals [.int .i64 (x), .int .i64 (y)]⟩]⟩)))) (.leaf (.exit 0) ⟨(ω7 .int .i64 (o) :: ω26 []), [some ⟨.view, .ints (flat ps)⟩, none, none, some ⟨.box, .vals [.int .i64 (x), .int .i64 (y)]⟩]⟩) := by kernel_rfl
set_option maxRecDepth 100000 in
theorem nl_specCW : loopsOf c_specCW = [] := by kernel_rfl
def inv_specCW (ps : List Pt) (x y n : Int) : Nat × Int → Prop := fun (i, o) => i ≤ ps.length ∧ 0 ≤ o ∧ o ≤ i
def me_specCW (ps : List Pt) (x y n : Int) : Nat × Int → Nat := fun (i, o) => ps.length - i
def Round_specCW (ps : List Pt) (x y n : Int) : Prop := ∀ xx : Nat × Int, inv_specCW ps x y n xx → (bodyL Try.prog E3 30 12 noL 1 c_specCW k_specCW 4 (s_specCW ps x y n xx)).ok (RoundEnd 4 (s_specCW ps x y n) (inv_specCW ps x y n) (me_specCW ps x y n) re_specCW (rs_specCW ps x y n) xx) (fun _ _ => False)
def e_specCW (s : St) (k : Ex → St → Tree) : Option Tree := match Nat.beq s.tmps.length 34, pickL s.tmps [0, 2, 4, 7, 8], s.mem with
  | true, [ß 0 m _, .int .i64 n, .pointer (some ⟨3, 0, none⟩), .int .i64 o, .int .i64 i], [some ⟨.view, .ints xs⟩, none, none, some ⟨.box, .vals [.int .i64 x, .int .i64 y]⟩] => some (needs [i = 0, o = 0, xs.length = m * 2, m ≤ 20, allV (ptsA m xs) = true, ptB x y = true] (k (.exit 0) ⟨(ω7 .int .i64 (0 + cnt n (x, y) (ptsA m xs)) :: ω26 []), [some ⟨.view, .ints xs⟩, none, none, some ⟨.box, .vals [.int .i64 x, .int .i64 y]⟩]⟩))
  | _, _, _ => none
set_option maxRecDepth 100000 in
theorem round_specCW (ps : List Pt) (x y n : Int) (h : ps.length ≤ 20) (hv : allV ps = true) (hq : ptB x y = true) : Round_specCW ps x y n := by
  rintro ⟨i, o⟩ ⟨h1, h2, h3⟩
  rw [tr_specCW]
  have b := allV_get hv i
  have hq : -1000 ≤ x ∧ x ≤ 1000 ∧ -1000 ≤ y ∧ y ≤ 1000 := by simpa [ptB] using hq
  have m1 := mul_bd (x := (ps.getD i (0, 0)).1 - x) (y := (ps.getD i (0, 0)).1 - x) 2000 2000 (by omega) (by omega)
  have m2 := mul_bd (x := (ps.getD i (0, 0)).2 - y) (y := (ps.getD i (0, 0)).2 - y) 2000 2000 (by omega) (by omega)
  simp only [brT_ok, Tree.ok, decide_eq_true_eq, decide_eq_false_iff_not, Int.toNat_natCast, Nat.zero_add, flat_length, flat_get0, flat_get1]
  refine ⟨fun hlt => ⟨by omega, by omega, ?_⟩, fun hge => ?_⟩
  · rw [wsucc (n := ps.length) (by omega) (by omega)]
    simp (disch := omega) only [wr]
    refine ⟨fun hle => ?_, fun hle => ?_⟩
    · have hc := cnt_yes (ps := ps) (i := i) (by omega) n (x, y) hle
      refine ⟨(i + 1, o + 1), [], ⟨by omega, by omega, by omega⟩, ?_, rfl, by simp only [rs_specCW, hc]; rw [show o + 1 + cnt n (x, y) (ps.drop (i + 1)) = o + (cnt n (x, y) (ps.drop (i + 1)) + 1) by omega], ?_⟩
      · show ps.length - (i + 1) < ps.length - i; omega
      · repeat' (first | exact True.intro | exact rfl | exact fun _ => rfl | refine And.intro ?_ ?_)
    · have hc := cnt_no (ps := ps) (i := i) (by omega) n (x, y) hle
      refine ⟨(i + 1, o), [], ⟨by omega, by omega, by omega⟩, ?_, rfl, by simp only [rs_specCW, hc], ?_⟩
      · show ps.length - (i + 1) < ps.length - i; omega
      · repeat' (first | exact True.intro | exact rfl | exact fun _ => rfl | refine And.intro ?_ ?_)
  · refine ⟨rfl, [], ?_⟩
    simp only [rs_specCW, cnt_end (ps := ps) (i := i) (by omega) n (x, y), Int.add_zero]
    repeat' (first | exact True.intro | exact rfl | exact fun _ => rfl | refine And.intro ?_ ?_)
set_option maxRecDepth 100000 in
theorem lg_specCW : LoopE Try.prog e_specCW c_specCW := by
  intro s k t F H hlt ht
  unfold e_specCW at hlt
  split at hlt
  rotate_left
  · cases hlt
  rename_i hlen hpick hmem
  obtain ⟨tmps, mem⟩ := s
  simp only at hlen hpick hmem
  subst hmem
  obtain rfl := Option.some.inj hlt
  obtain ⟨⟨rfl, rfl, h1, h3, h4, h5, _⟩, ht2⟩ := needs_ok ht
  clear ht hlt
  obtain ⟨ps, rfl, rfl⟩ := even_flat h1
  rw [ptsA_flat] at ht2 h4
  refine ⟨_, _, ht2, loop_run mixed E3_ok (s_specCW ps _ _ _) (inv_specCW ps _ _ _) (me_specCW ps _ _ _) re_specCW (rs_specCW ps _ _ _) k_specCW (fun _ => rfl) (noLoops nl_specCW) (round_specCW ps _ _ _ h3 h4 h5) (x := (0, 0)) ⟨Nat.zero_le _, Int.le_refl _, Int.le_refl _⟩ (π := []) rfl ?_⟩
  refine ⟨rfl, rfl, ?_, wvs_spread' [0, 2, 4, 7, 8] hlen rfl ?_⟩
  · repeat' (first | exact True.intro | exact rfl | exact wv_top _ _ | exact fun _ => rfl | assumption | exact Eq.symm (by assumption) | exact vI0 rfl | refine And.intro ?_ ?_)
  · rw [hpick]
    repeat' (first | exact True.intro | exact rfl | exact wv_top _ _ | exact fun _ => rfl | assumption | exact Eq.symm (by assumption) | exact vI0 rfl | refine And.intro ?_ ?_)
noncomputable def c_implCW : Code := ((loopsOf (codeOf Try.f20))[0]?).getD .skip
def k_implCW : Ex → List Nat := keeps [2, 4, 7, 18, 19, 20] [(0, [7])] [6]
def s_implCW (ps : List Pt) (x y n : Int) : Nat × Int → St := fun (i, o) => ⟨(topV :: topV :: .int .i64 n :: topV :: .pointer (some ⟨3, 0, none⟩) :: topV :: topV :: .int .i64 o :: ω10 ß 0 ps.length ps.length :: .int .i64 ps.length :: .int .i64 i :: ω12 []), [some ⟨.view, .ints (flat ps)⟩, none, none, some ⟨.box, .vals [.int .i64 x, .int .i64 y]⟩]⟩
def re_implCW : Nat × Int → Ex := fun _ => .exit 0
def rs_implCW (ps : List Pt) (x y n : Int) : Nat × Int → St := fun (i, o) => ⟨(ω7 .int .i64 (o + cnt n (x, y) (ps.drop i)) :: ω25 []), [some ⟨.view, .ints (flat ps)⟩, none, none, some ⟨.box, .vals [.int .i64 x, .int .i64 y]⟩]⟩
set_option maxRecDepth 100000 in
theorem tr_implCW (ps : List Pt) (x y n : Int) (i : Nat) (o : Int) : bodyL Try.prog E3 30 12 noL 1 c_implCW k_implCW 4 (s_implCW ps x y n (i, o)) = brT (decide ((↑i : Int) < (↑ps.length : Int))) (.need ((0 : Int) ≤ (↑i : Int) ∧ (↑i : Int) < (↑ps.length : Int)) (.need ((0 : Nat) + (↑i : Int).toNat * (2 : Nat) + (2 : Nat) ≤ (flat ps).length) (brT (!(ptB ((flat ps).getD (0 + (↑i : Int).toNat * 2) 0) ((flat ps).getD (0 + (↑i : Int).toNat * 2 + 1) 0) && ptB x y)) (brT (decide (-1 ≤ n)) (.leaf .normal ⟨(topV :: topV :: .int .i64 (n) :: topV :: .pointer (some ⟨3, 0, none⟩) :: topV :: topV :: .int .i64 (ŵ (o + 1)) :: ω10 ß 0 (ps.length) (ps.length) :: .int .i64 ((↑ps.length : Int)) :: .int .i64 (ŵ ((↑i : Int) + 1)) :: ω12 []), [some ⟨.view, .ints (flat ps)⟩, none, none, some ⟨.box, .vals [.int .i64 (x), .int .i64 (y)]⟩]⟩) (.leaf .normal ⟨(topV :: topV :: .int .i64 (n) :: topV :: .pointer (some ⟨3, 0, none⟩) :: topV :: topV :: .int .i64 (o) :: ω10 ß 0 (ps.length) (ps.length) :: .int .i64 ((↑ps.length : Int)) :: .int .i64 (ŵ ((↑i : Int) + 1)) :: ω12 []), [some ⟨.view, .ints (flat ps)⟩, none, none, some ⟨.box, .vals [.int .i64 (x), .int .i64 (y)]⟩]⟩)) (brT (decide (ŵ (ŵ (ŵ ((flat ps).getD (0 + (↑i : Int).toNat * 2) 0 - x) * ŵ ((flat ps).getD (0 + (↑i : Int).toNat * 2) 0 - x)) + ŵ (ŵ ((flat ps).getD (0 + (↑i : Int).toNat * 2 + 1) 0 - y) * ŵ ((flat ps).getD (0 + (↑i : Int).toNat * 2 + 1) 0 - y))) ≤ n)) (.leaf .normal ⟨(topV :: topV :: .int .i64 (n) :: topV :: .pointer (some ⟨3, 0, none⟩) :: topV :: topV :: .int .i64 (ŵ (o + 1)) :: ω10 ß 0 (ps.length) (ps.length) :: .int .i64 ((↑ps.length : Int)) :: .int .i64 (ŵ ((↑i : Int) + 1)) :: ω12 []), [some ⟨.view, .ints (flat ps)⟩, none, none, some ⟨.box, .vals [.int .i64 (x), .int .i64 (y)]⟩]⟩) (.leaf .normal ⟨(topV :: topV :: .int .i64 (n) :: topV :: .pointer (some ⟨3, 0, none⟩) :: topV :: topV :: .int .i64 (o) :: ω10 ß 0 (ps.length) (ps.length) :: .int .i64 ((↑ps.length : Int)) :: .int .i64 (ŵ ((↑i : Int) + 1)) :: ω12 []), [some ⟨.view, .ints (flat ps)⟩, none, none, some ⟨.box, .vals [.int .i64 (x), .int .i64 (y)]⟩]⟩))))) (.leaf (.exit 0) ⟨(ω7 .int .i64 (o) :: ω25 []), [some ⟨.view, .ints (flat ps)⟩, none, none, some ⟨.box, .vals [.int .i64 (x), .int .i64 (y)]⟩]⟩) := by kernel_rfl
set_option maxRecDepth 100000 in
theorem nl_implCW : loopsOf c_implCW = [] := by kernel_rfl
def inv_implCW (ps : List Pt) (x y n : Int) : Nat × Int → Prop := fun (i, o) => i ≤ ps.length ∧ 0 ≤ o ∧ o ≤ i
def me_implCW (ps : List Pt) (x y n : Int) : Nat × Int → Nat := fun (i, o) => ps.length - i
def Round_implCW (ps : List Pt) (x y n : Int) : Prop := ∀ xx : Nat × Int, inv_implCW ps x y n xx → (bodyL Try.prog E3 30 12 noL 1 c_implCW k_implCW 4 (s_implCW ps x y n xx)).ok (RoundEnd 4 (s_implCW ps x y n) (inv_implCW ps x y n) (me_implCW ps x y n) re_implCW (rs_implCW ps x y n) xx) (fun _ _ => False)
def e_implCW (s : St) (k : Ex → St → Tree) : Option Tree := match Nat.beq s.tmps.length 33, pickL s.tmps [2, 4, 7, 18, 19, 20], s.mem with
  | true, [.int .i64 n, .pointer (some ⟨3, 0, none⟩), .int .i64 o, ß 0 m _, .int .i64 l, .int .i64 i], [some ⟨.view, .ints xs⟩, none, none, some ⟨.box, .vals [.int .i64 x, .int .i64 y]⟩] => some (needs [i = 0, o = 0, l = m, xs.length = m * 2, m ≤ 20, allV (ptsA m xs) = true, ptB x y = true] (k (.exit 0) ⟨(ω7 .int .i64 (0 + cnt n (x, y) (ptsA m xs)) :: ω25 []), [some ⟨.view, .ints xs⟩, none, none, some ⟨.box, .vals [.int .i64 x, .int .i64 y]⟩]⟩))
  | _, _, _ => none
set_option maxRecDepth 100000 in
theorem round_implCW (ps : List Pt) (x y n : Int) (h : ps.length ≤ 20) (hv : allV ps = true) (hq : ptB x y = true) : Round_implCW ps x y n := by
  rintro ⟨i, o⟩ ⟨h1, h2, h3⟩
  rw [tr_implCW]
  have b := allV_get hv i
  have hpt : ptB (ps.getD i (0, 0)).1 (ps.getD i (0, 0)).2 = true := by simpa [ptB] using b
  have hq2 : -1000 ≤ x ∧ x ≤ 1000 ∧ -1000 ≤ y ∧ y ≤ 1000 := by simpa [ptB] using hq
  have m1 := mul_bd (x := (ps.getD i (0, 0)).1 - x) (y := (ps.getD i (0, 0)).1 - x) 2000 2000 (by omega) (by omega)
  have m2 := mul_bd (x := (ps.getD i (0, 0)).2 - y) (y := (ps.getD i (0, 0)).2 - y) 2000 2000 (by omega) (by omega)
  simp only [Int.toNat_natCast, Nat.zero_add, flat_length, flat_get0, flat_get1, hpt, hq, Bool.and_self, Bool.not_true, brT_f]
  simp only [brT_ok, Tree.ok, decide_eq_true_eq, decide_eq_false_iff_not]
  refine ⟨fun hlt => ⟨by omega, by omega, ?_⟩, fun hge => ?_⟩
  · rw [wsucc (n := ps.length) (by omega) (by omega)]
    simp (disch := omega) only [wr]
    refine ⟨fun hle => ?_, fun hle => ?_⟩
    · have hc := cnt_yes (ps := ps) (i := i) (by omega) n (x, y) hle
      refine ⟨(i + 1, o + 1), [], ⟨by omega, by omega, by omega⟩, ?_, rfl, by simp only [rs_implCW, hc]; rw [show o + 1 + cnt n (x, y) (ps.drop (i + 1)) = o + (cnt n (x, y) (ps.drop (i + 1)) + 1) by omega], ?_⟩
      · show ps.length - (i + 1) < ps.length - i; omega
      · repeat' (first | exact True.intro | exact rfl | exact fun _ => rfl | refine And.intro ?_ ?_)
    · have hc := cnt_no (ps := ps) (i := i) (by omega) n (x, y) hle
      refine ⟨(i + 1, o), [], ⟨by omega, by omega, by omega⟩, ?_, rfl, by simp only [rs_implCW, hc], ?_⟩
      · show ps.length - (i + 1) < ps.length - i; omega
      · repeat' (first | exact True.intro | exact rfl | exact fun _ => rfl | refine And.intro ?_ ?_)
  · refine ⟨rfl, [], ?_⟩
    simp only [rs_implCW, cnt_end (ps := ps) (i := i) (by omega) n (x, y), Int.add_zero]
    repeat' (first | exact True.intro | exact rfl | exact fun _ => rfl | refine And.intro ?_ ?_)
set_option maxRecDepth 100000 in
theorem lg_implCW : LoopE Try.prog e_implCW c_implCW := by
  intro s k t F H hlt ht
  unfold e_implCW at hlt
  split at hlt
  rotate_left
  · cases hlt
  rename_i hlen hpick hmem
  obtain ⟨tmps, mem⟩ := s
  simp only at hlen hpick hmem
  subst hmem
  obtain rfl := Option.some.inj hlt
  obtain ⟨⟨rfl, rfl, rfl, h1, h3, h4, h5, _⟩, ht2⟩ := needs_ok ht
  clear ht hlt
  obtain ⟨ps, rfl, rfl⟩ := even_flat h1
  rw [ptsA_flat] at ht2 h4
  refine ⟨_, _, ht2, loop_run mixed E3_ok (s_implCW ps _ _ _) (inv_implCW ps _ _ _) (me_implCW ps _ _ _) re_implCW (rs_implCW ps _ _ _) k_implCW (fun _ => rfl) (noLoops nl_implCW) (round_implCW ps _ _ _ h3 h4 h5) (x := (0, 0)) ⟨Nat.zero_le _, Int.le_refl _, Int.le_refl _⟩ (π := []) rfl ?_⟩
  refine ⟨rfl, rfl, ?_, wvs_spread' [2, 4, 7, 18, 19, 20] hlen rfl ?_⟩
  · repeat' (first | exact True.intro | exact rfl | exact wv_top _ _ | exact fun _ => rfl | assumption | exact Eq.symm (by assumption) | exact vI0 rfl | refine And.intro ?_ ?_)
  · rw [hpick]
    repeat' (first | exact True.intro | exact rfl | exact wv_top _ _ | exact fun _ => rfl | assumption | exact Eq.symm (by assumption) | exact vI0 rfl | refine And.intro ?_ ?_)
def L4 : FuncId → LT := fun f => match f with
  | 25 => lt1 e_toPts
  | 28 => lt1 e_eqPts
  | 21 => lt1 e_specCW
  | 20 => lt1 e_implCW
  | _ => noL
def E4 : Env := mkE (T2) (fun _ _ => none) (L4)
theorem code_of {f : FuncId} {fn g : Func} (h : Try.prog.funcs[f]? = some g) (hf : Try.prog.funcs[f]? = some fn) : g = fn := by rw [h] at hf; simpa using hf
theorem Lr_toPts {fn : Func} (hf : Try.prog.funcs[25]? = some fn) : LoopsGood Try.prog (lt1 e_toPts) 0 (codeOf fn) := by
  obtain rfl := code_of Try.func25 hf
  exact lt1_good lg_toPts
theorem Lr_eqPts {fn : Func} (hf : Try.prog.funcs[28]? = some fn) : LoopsGood Try.prog (lt1 e_eqPts) 0 (codeOf fn) := by
  obtain rfl := code_of Try.func28 hf
  exact lt1_good lg_eqPts
theorem Lr_specCW {fn : Func} (hf : Try.prog.funcs[21]? = some fn) : LoopsGood Try.prog (lt1 e_specCW) 0 (codeOf fn) := by
  obtain rfl := code_of Try.func21 hf
  exact lt1_good lg_specCW
theorem Lr_implCW {fn : Func} (hf : Try.prog.funcs[20]? = some fn) : LoopsGood Try.prog (lt1 e_implCW) 0 (codeOf fn) := by
  obtain rfl := code_of Try.func20 hf
  exact lt1_good lg_implCW
theorem L4_ok : ∀ f fn, Try.prog.funcs[f]? = some fn → LoopsGood Try.prog (L4 f) 0 (codeOf fn) := by
  intro f fn hf
  unfold L4
  split
  all_goals first | with_reducible exact Lr_toPts hf | with_reducible exact Lr_eqPts hf | with_reducible exact Lr_specCW hf | with_reducible exact Lr_implCW hf | exact noL_good
theorem E4_ok : EnvOk Try.prog E4 := mkEOk (T2_ok) (fun _ _ _ _ _ h => (by cases h)) (L4_ok)
set_option maxRecDepth 100000 in
theorem tr_toPointS (ps : List Pt) : bodyX Try.prog E4 30 12 25 [.row ps.length (.ints (flat ps))] = .need ((0 : Int) ≤ (↑ps.length : Int) ∧ (↑ps.length : Int) ≤ (↑ps.length : Int) ∧ (16 : Nat) * (↑ps.length : Int).toNat ≤ (281474976710656 : Nat) ∧ (↑ps.length : Int) ≤ (9223372036854775807 : Int)) (.need ((0 : Int) = (0 : Int)) (.need ((↑ps.length : Int).toNat = ps.length) (.need ((flat ps).length = ps.length * (2 : Nat)) (.need ((List.replicate ((↑ps.length : Int).toNat * (2 : Nat)) (0 : Int)).length = ps.length * (2 : Nat)) (.need (ps.length ≤ (1000000000 : Nat)) (.fin (ß 1 ((↑ps.length : Int).toNat) ((↑ps.length : Int).toNat)) [some ⟨.view, .ints (flat ps)⟩, some ⟨.row 31 2, .ints (flat ps)⟩])))))) := by kernel_rfl
set_option maxRecDepth 100000 in
theorem tr_eqPointS (ps qs : List Pt) : bodyX Try.prog E4 30 12 28 [.row ps.length (.ints (flat ps)), .row qs.length (.ints (flat qs))] = brT (!(↑ps.length : Int) == (↑qs.length : Int)) (.fin (.bool (false)) [some ⟨.view, .ints (flat ps)⟩, some ⟨.view, .ints (flat qs)⟩]) (.need ((0 : Int) = (0 : Int)) (.need (qs.length = ps.length) (.need ((flat ps).length = ps.length * (2 : Nat)) (.need ((flat qs).length = ps.length * (2 : Nat)) (.need (ps.length ≤ (1000000000 : Nat)) (brT (eqL (ptsA ps.length (flat ps)) (ptsA ps.length (flat qs))) (.fin (.bool (true)) [some ⟨.view, .ints (flat ps)⟩, some ⟨.view, .ints (flat qs)⟩]) (.fin (.bool (false)) [some ⟨.view, .ints (flat ps)⟩, some ⟨.view, .ints (flat qs)⟩]))))))) := by kernel_rfl
set_option maxRecDepth 100000 in
theorem tr_specCount (ps : List Pt) (x y n : Int) : bodyX Try.prog E4 30 12 21 [.row ps.length (.ints (flat ps)), .v (.agg #[iv x, iv y]), .v (iv n)] = .need (ps.length * (2 : Nat) ≤ (List.drop 0 (flat ps)).length) (.need (ps.length ≤ (1000000000 : Nat)) (brT (!okL (ptsA ps.length (List.drop 0 (flat ps)))) (.fin (.int .i64 (-1)) [some ⟨.view, .ints (flat ps)⟩, none, none, some ⟨.box, .vals [.int .i64 (x), .int .i64 (y)]⟩]) (brT (!ptB x y) (.fin (.int .i64 (-1)) [some ⟨.view, .ints (flat ps)⟩, none, none, some ⟨.box, .vals [.int .i64 (x), .int .i64 (y)]⟩]) (.need ((0 : Int) = (0 : Int)) (.need ((0 : Int) = (0 : Int)) (.need ((flat ps).length = ps.length * (2 : Nat)) (.need (ps.length ≤ (20 : Nat)) (.need (allV (ptsA ps.length (flat ps)) = true) (.need (ptB x y = true) (.fin (.int .i64 (0 + cnt n (x, y) (ptsA ps.length (flat ps)))) [some ⟨.view, .ints (flat ps)⟩, none, none, some ⟨.box, .vals [.int .i64 (x), .int .i64 (y)]⟩])))))))))) := by kernel_rfl
set_option maxRecDepth 100000 in
theorem tr_implCount (ps : List Pt) (x y n : Int) : bodyX Try.prog E4 30 12 20 [.row ps.length (.ints (flat ps)), .v (.agg #[iv x, iv y]), .v (iv n)] = brT (decide ((↑ps.length : Int) ≤ 20)) (.need (ps.length * (2 : Nat) ≤ (List.drop 0 (flat ps)).length) (.need (ps.length ≤ (1000000000 : Nat)) (brT (!allV (ptsA ps.length (List.drop 0 (flat ps)))) (.fin (.int .i64 (-1)) [some ⟨.view, .ints (flat ps)⟩, none, none, some ⟨.box, .vals [.int .i64 (x), .int .i64 (y)]⟩]) (brT (!ptB x y) (.fin (.int .i64 (-1)) [some ⟨.view, .ints (flat ps)⟩, none, none, some ⟨.box, .vals [.int .i64 (x), .int .i64 (y)]⟩]) (.need ((0 : Int) = (0 : Int)) (.need ((0 : Int) = (0 : Int)) (.need ((↑ps.length : Int) = (↑ps.length : Int)) (.need ((flat ps).length = ps.length * (2 : Nat)) (.need (ps.length ≤ (20 : Nat)) (.need (allV (ptsA ps.length (flat ps)) = true) (.need (ptB x y = true) (.fin (.int .i64 (0 + cnt n (x, y) (ptsA ps.length (flat ps)))) [some ⟨.view, .ints (flat ps)⟩, none, none, some ⟨.box, .vals [.int .i64 (x), .int .i64 (y)]⟩])))))))))))) (.fin (.int .i64 (-1)) [some ⟨.view, .ints (flat ps)⟩, none, none, some ⟨.box, .vals [.int .i64 (x), .int .i64 (y)]⟩]) := by kernel_rfl
theorem resR_toPointS (ps : List Pt) (h : Big ps) : ResR Try.prog 25 [.row ps.length (.ints (flat ps))] (ß 0 ps.length ps.length) ⟨.row 31 2, .ints (flat ps)⟩ := by
  refine bodyX_resR mixed E4_ok (m := 30) (n := 12) rfl ?_
  rw [tr_toPointS]
  unfold Big at h
  simp only [Tree.ok, flat_length, Int.toNat_natCast, List.length_replicate]
  exact ⟨by omega, trivial, trivial, trivial, trivial, h, some 1, ⟨rfl, rfl, rfl⟩, rfl, rfl, rfl⟩
theorem res_eqPointS (ps qs : List Pt) (h : Big ps) : Res Try.prog 28 [.row ps.length (.ints (flat ps)), .row qs.length (.ints (flat qs))] (.bool (eqL ps qs)) := by
  refine bodyX_res mixed E4_ok (m := 30) (n := 12) rfl ?_
  rw [tr_eqPointS]
  unfold Big at h
  by_cases hl : ps.length = qs.length
  · have e : ptsA ps.length (flat qs) = qs := by rw [hl, ptsA_flat]
    rw [e, ptsA_flat, show (!((ps.length : Int) == (qs.length : Int))) = false by simp [hl]]
    simp only [brT_f, Tree.ok, flat_length]
    refine ⟨trivial, hl.symm, trivial, by omega, h, ?_⟩
    cases eqL ps qs <;> rfl
  · have e : eqL ps qs = false := by
      unfold eqL
      rw [decide_eq_false_iff_not]
      rintro rfl
      exact hl rfl
    rw [show (!((ps.length : Int) == (qs.length : Int))) = true by simp; omega]
    simp only [brT_t, Tree.ok, e]
def cwV (ps : List Pt) (x y n : Int) : Int := bif okL ps && ptB x y then cnt n (x, y) ps else -1
theorem res_specCount (ps : List Pt) (x y n : Int) (h : Big ps) : Res Try.prog 21 [.row ps.length (.ints (flat ps)), .v (.agg #[iv x, iv y]), .v (iv n)] (iv (cwV ps x y n)) := by
  refine bodyX_res mixed E4_ok (m := 30) (n := 12) rfl ?_
  rw [tr_specCount]
  unfold Big at h
  simp only [List.drop_zero, ptsA_flat, flat_length, Int.zero_add]
  unfold cwV
  cases hk : okL ps
  · simp [Tree.ok, brT, h]
  · simp only [okL, Bool.and_eq_true, decide_eq_true_eq] at hk
    cases hq : ptB x y <;> simp [Tree.ok, brT, h, hk]
theorem res_implCount (ps : List Pt) (x y n : Int) (h : Big ps) : Res Try.prog 20 [.row ps.length (.ints (flat ps)), .v (.agg #[iv x, iv y]), .v (iv n)] (iv (cwV ps x y n)) := by
  refine bodyX_res mixed E4_ok (m := 30) (n := 12) rfl ?_
  rw [tr_implCount]
  unfold Big at h
  simp only [List.drop_zero, ptsA_flat, flat_length, Int.zero_add]
  unfold cwV okL
  by_cases hl : ps.length ≤ 20
  · have hl2 : (ps.length : Int) ≤ 20 := by omega
    cases hk : allV ps <;> cases hq : ptB x y <;> simp [Tree.ok, brT, h, hl, hl2]
  · have hl2 : ¬ (ps.length : Int) ≤ 20 := by omega
    simp [Tree.ok, brT, hl, hl2]
def pCW : List DArg → Option (Value × List Prop)
  | [.row m (.ints xs), .v (.agg ⟨[.int .i64 x, .int .i64 y]⟩), .v (.int .i64 n)] => some (iv (cwV (ptsA m xs) x y n), [m * 2 ≤ xs.length, m ≤ 1000000000])
  | _ => none
def pEq2 : List DArg → Option (Value × List Prop)
  | [.row m (.ints xs), .row n (.ints ys)] => some (.bool (eqL (ptsA m xs) (ptsA n ys)), [m * 2 ≤ xs.length, n * 2 ≤ ys.length, m ≤ 1000000000])
  | _ => none
def T3 : Tab := fun f ds => match f with
  | 28 => pEq2 ds
  | 21 => pCW ds
  | 20 => pCW ds
  | f => T2 f ds
theorem pCW_ok {f : FuncId} (h : ∀ (ps : List Pt) (x y n : Int), Big ps → Res Try.prog f [.row ps.length (.ints (flat ps)), .v (.agg #[iv x, iv y]), .v (iv n)] (iv (cwV ps x y n))) {ds : List DArg} {v : Value} {C : List Prop} (hd : pCW ds = some (v, C)) (hC : AllP C) : Res Try.prog f ds v := by
  unfold pCW at hd
  split at hd
  · rename_i m xs x y n
    obtain ⟨rfl, rfl⟩ : _ ∧ _ := by simpa using hd
    obtain ⟨_, h2⟩ := ptsA_spec hC.1
    exact res_pts1 (pre := []) (post := [_, _]) hC.1 (h (ptsA m xs) x y n (by unfold Big; rw [h2]; exact hC.2.1))
  · cases hd
theorem pEq2_ok {ds : List DArg} {v : Value} {C : List Prop} (h : pEq2 ds = some (v, C)) (hC : AllP C) : Res Try.prog 28 ds v := by
  unfold pEq2 at h
  split at h
  · rename_i m xs n ys
    obtain ⟨rfl, rfl⟩ : _ ∧ _ := by simpa using h
    obtain ⟨_, h2⟩ := ptsA_spec hC.1
    have h0 := res_eqPointS (ptsA m xs) (ptsA n ys) (by unfold Big; rw [h2]; exact hC.2.2.1)
    exact res_pts1 (pre := []) (post := [_]) hC.1 (res_pts1 (pre := [_]) (post := []) hC.2.1 h0)
  · cases h
theorem pCWs_ok {ds : List DArg} {v : Value} {C : List Prop} (h : pCW ds = some (v, C)) (hC : AllP C) : Res Try.prog 21 ds v := pCW_ok res_specCount h hC
theorem pCWi_ok {ds : List DArg} {v : Value} {C : List Prop} (h : pCW ds = some (v, C)) (hC : AllP C) : Res Try.prog 20 ds v := pCW_ok res_implCount h hC
theorem T3_ok : TabOk Try.prog T3 := by
  intro f ds v C h hC
  unfold T3 at h
  (try split at h)
  all_goals first | with_reducible exact pEq2_ok h hC | with_reducible exact pCWs_ok h hC | with_reducible exact pCWi_ok h hC | exact T2_ok _ _ _ _ h hC
def R4 : TabR := fun f ds => match f, ds with
  | 25, [.row n (.ints xs)] => some (ß 0 n n, ⟨.row 31 2, .ints (xs.take (n * 2))⟩, [n * 2 ≤ xs.length, n ≤ 1000000000])
  | _, _ => none
theorem R4_ok : TabROk Try.prog R4 := by
  intro f ds v b C h hC
  unfold R4 at h
  (try split at h)
  all_goals first
    | (rename_i n xs
       obtain ⟨rfl, rfl, rfl⟩ : _ ∧ _ ∧ _ := by simpa using h
       obtain ⟨h1, h2⟩ := ptsA_spec hC.1
       have h0 := resR_toPointS (ptsA n xs) (by unfold Big; rw [h2]; exact hC.2.1)
       have h3 := resR_pts1 (pre := []) (post := []) hC.1 h0
       rw [h2, ← h1] at h3
       exact h3)
    | cases h
def allQ (P : Nat → Bool) : Nat → Nat → Bool
  | _, 0 => true
  | i, m + 1 => P i && allQ P (i + 1) m
theorem allQ_step {P : Nat → Bool} {i n : Nat} (h : i < n) : allQ P i (n - i) = (P i && allQ P (i + 1) (n - (i + 1))) := by
  rw [show n - i = (n - (i + 1)) + 1 by omega]
  rfl
theorem allQ_end {P : Nat → Bool} {i n : Nat} (h : n ≤ i) : allQ P i (n - i) = true := by
  rw [show n - i = 0 by omega]
  rfl
theorem allQ_get {P : Nat → Bool} : ∀ (m i : Nat), allQ P i m = true → ∀ j, i ≤ j → j < i + m → P j = true
  | 0, i, _, j, h1, h2 => by omega
  | m + 1, i, h, j, h1, h2 => by
    simp only [allQ, Bool.and_eq_true] at h
    rcases Nat.lt_or_ge i j with h3 | h3
    · exact allQ_get m (i + 1) h.2 j (by omega) (by omega)
    · obtain rfl : j = i := by omega
      exact h.1
def cmN (ps : List Pt) : Nat → List Pt
  | 0 => []
  | m + 1 => if m = 0 ∨ ps.getD m (0, 0) ≠ ps.getD (m - 1) (0, 0) then cmN ps m ++ [ps.getD m (0, 0)] else cmN ps m
def cmP (ps : List Pt) : List Pt := cmN ps ps.length
def dupA (ps : List Pt) (i : Nat) : Bool := ps.getD i (0, 0) == ps.getD (i - 1) (0, 0)
theorem cmN_le (ps : List Pt) : ∀ m, (cmN ps m).length ≤ m
  | 0 => Nat.le_refl _
  | m + 1 => by
    have := cmN_le ps m
    simp only [cmN]
    split
    · simp; omega
    · omega
theorem cmN_take {ps : List Pt} : ∀ m, m ≤ ps.length → (∀ j, 1 ≤ j → j < m → dupA ps j = false) → cmN ps m = ps.take m
  | 0, _, _ => rfl
  | m + 1, hm, h => by
    have ih := cmN_take m (by omega) fun j h1 h2 => h j h1 (by omega)
    simp only [cmN]
    have ht : ps.take (m + 1) = ps.take m ++ [ps.getD m (0, 0)] := by
      rw [List.take_add_one]
      simp [List.getD, show m < ps.length by omega]
    rw [ht, ← ih]
    rcases Nat.eq_zero_or_pos m with h0 | h0
    · rw [if_pos (.inl h0)]
    · have := h m h0 (by omega)
      unfold dupA at this
      rw [beq_eq_false_iff_ne] at this
      rw [if_pos (.inr this)]
def ECp : Env := tabE B0
theorem ECp_ok : EnvOk Try.prog ECp := tabE_ok B0_ok
noncomputable def c_cpI : Code := ((loopsOf (codeOf Try.f88))[1]?).getD .skip
def k_cpI : Ex → List Nat := keeps [0, 3, 4, 5] [(2, [0, 3]), (1, [0, 3]), (0, [0])] [2]
def s_cpI (ps : List Pt) (k0 : Nat) : Nat × Nat × (List Pt) → St := fun (j, q, X) => ⟨(ß 0 ps.length ps.length :: topV :: topV :: .int .i64 q :: .slice (some ⟨0, k0 * 2, none⟩) (ps.length - k0) (ps.length - k0) :: .int .i64 j :: ω55 []), [some ⟨.row 31 2, .ints (flat X)⟩]⟩
def re_cpI : Nat × Nat × (List Pt) → Ex := fun _ => .exit 2
def rs_cpI (ps : List Pt) (k0 : Nat) : Nat × Nat × (List Pt) → St := fun (j, q, X) => ⟨(ß 0 ps.length ps.length :: topV :: topV :: .int .i64 ((cmN ps ps.length).length : Nat) :: ω57 []), [some ⟨.row 31 2, .ints (flat (cmN ps ps.length ++ ps.drop (cmN ps ps.length).length))⟩]⟩
set_option maxRecDepth 100000 in
theorem tr_cpI (ps : List Pt) (k0 : Nat) (j q : Nat) (X : List Pt) : bodyL Try.prog ECp 30 12 noL 2 c_cpI k_cpI 1 (s_cpI ps k0 (j, q, X)) = brT (decide ((↑j : Int) < (↑(ps.length - k0) : Int))) (.need ((0 : Int) ≤ (↑j : Int) ∧ (↑j : Int) < (↑(ps.length - k0) : Int)) (.need (k0 * (2 : Nat) + (↑j : Int).toNat * (2 : Nat) + (2 : Nat) ≤ (flat X).length) (.need ((0 : Int) ≤ ŵ ((↑j : Int) - (1 : Int)) ∧ ŵ ((↑j : Int) - (1 : Int)) < (↑(ps.length - k0) : Int)) (.need (k0 * (2 : Nat) + (ŵ ((↑j : Int) - (1 : Int))).toNat * (2 : Nat) + (2 : Nat) ≤ (flat X).length) (brT (negB true ((flat X).getD (k0 * 2 + (↑j : Int).toNat * 2) 0 == (flat X).getD (k0 * 2 + (ŵ ((↑j : Int) - 1)).toNat * 2) 0 && ((flat X).getD (k0 * 2 + (↑j : Int).toNat * 2 + 1) 0 == (flat X).getD (k0 * 2 + (ŵ ((↑j : Int) - 1)).toNat * 2 + 1) 0 && true))) (.need ((0 : Int) ≤ (↑j : Int) ∧ (↑j : Int) < (↑(ps.length - k0) : Int)) (.need (k0 * (2 : Nat) + (↑j : Int).toNat * (2 : Nat) + (2 : Nat) ≤ (flat X).length) (.need ((0 : Int) ≤ (↑q : Int) ∧ (↑q : Int) < (↑ps.length : Int)) (.need ((0 : Nat) + (↑q : Int).toNat * (2 : Nat) + (2 : Nat) ≤ (flat X).length) (.leaf .normal ⟨(ß 0 (ps.length) (ps.length) :: topV :: topV :: .int .i64 (ŵ ((↑q : Int) + 1)) :: .slice (some ⟨0, k0 * 2, none⟩) (ps.length - k0) (ps.length - k0) :: .int .i64 (ŵ ((↑j : Int) + 1)) :: ω55 []), [some ⟨.row 31 2, .ints (setInts (flat X) (0 + (↑q : Int).toNat * 2) [(flat X).getD (k0 * 2 + (↑j : Int).toNat * 2) 0, (flat X).getD (k0 * 2 + (↑j : Int).toNat * 2 + 1) 0])⟩]⟩))))) (.leaf .normal ⟨(ß 0 (ps.length) (ps.length) :: topV :: topV :: .int .i64 ((↑q : Int)) :: .slice (some ⟨0, k0 * 2, none⟩) (ps.length - k0) (ps.length - k0) :: .int .i64 (ŵ ((↑j : Int) + 1)) :: ω55 []), [some ⟨.row 31 2, .ints (flat X)⟩]⟩)))))) (.leaf (.exit 2) ⟨(ß 0 (ps.length) (ps.length) :: topV :: topV :: .int .i64 ((↑q : Int)) :: ω57 []), [some ⟨.row 31 2, .ints (flat X)⟩]⟩) := by kernel_rfl
set_option maxRecDepth 100000 in
theorem nl_cpI : loopsOf c_cpI = [] := by kernel_rfl
def inv_cpI (ps : List Pt) (k0 : Nat) : Nat × Nat × (List Pt) → Prop := fun (j, q, X) => 1 ≤ j ∧ k0 + j ≤ ps.length ∧ q ≤ k0 + j - 1 ∧ q = (cmN ps (k0 + j)).length ∧ X = cmN ps (k0 + j) ++ ps.drop q
def me_cpI (ps : List Pt) (k0 : Nat) : Nat × Nat × (List Pt) → Nat := fun (j, q, X) => ps.length - (k0 + j)
def Round_cpI (ps : List Pt) (k0 : Nat) : Prop := ∀ xx : Nat × Nat × (List Pt), inv_cpI ps k0 xx → (bodyL Try.prog ECp 30 12 noL 2 c_cpI k_cpI 1 (s_cpI ps k0 xx)).ok (RoundEnd 1 (s_cpI ps k0) (inv_cpI ps k0) (me_cpI ps k0) re_cpI (rs_cpI ps k0) xx) (fun _ _ => False)
def e_cpI (s : St) (k : Ex → St → Tree) : Option Tree := match Nat.beq s.tmps.length 61, pickL s.tmps [0, 3, 4, 5], s.mem with
  | true, [ß 0 n _, .int .i64 kk, .slice (some ⟨0, o, none⟩) l _, .int .i64 k2], [some ⟨.row 31 2, .ints xs⟩] => some (needs [k2 = 1, xs.length = n * 2, 0 ≤ kk, 1 ≤ kk ∧ kk < n, o = kk.toNat * 2, l = n - kk.toNat, dupA (ptsA n xs) kk.toNat = true, (∀ j, 1 ≤ j → j < kk.toNat → dupA (ptsA n xs) j = false), n ≤ 1000000000] (k (.exit 2) ⟨(ß 0 n n :: topV :: topV :: .int .i64 ((cmN (ptsA n xs) n).length : Nat) :: ω57 []), [some ⟨.row 31 2, .ints (flat (cmN (ptsA n xs) n ++ (ptsA n xs).drop (cmN (ptsA n xs) n).length))⟩]⟩))
  | _, _, _ => none
theorem cp_dup {ps : List Pt} {m : Nat} (h : dupA ps m = true) (hm : m ≠ 0) : cmN ps (m + 1) = cmN ps m := by
  unfold dupA at h
  simp only [cmN]
  rw [if_neg]
  rintro (h1 | h1)
  · exact hm h1
  · exact h1 (by simpa using h)
theorem cp_new {ps : List Pt} {m : Nat} (h : dupA ps m = false) : cmN ps (m + 1) = cmN ps m ++ [ps.getD m (0, 0)] := by
  unfold dupA at h
  simp only [cmN]
  rw [if_pos (.inr (by simpa using h))]
theorem cp_start {ps : List Pt} {k : Nat} (h2 : 1 ≤ (k : Int) ∧ (k : Int) < (ps.length : Int)) (h3 : dupA ps k = true) (h4 : ∀ j, 1 ≤ j → j < k → dupA ps j = false) : 1 ≤ 1 ∧ k + 1 ≤ ps.length ∧ k ≤ k + 1 - 1 ∧ k = (cmN ps (k + 1)).length ∧ ps = cmN ps (k + 1) ++ ps.drop k := by
  have e := cp_dup h3 (by omega)
  rw [cmN_take k (by omega) h4] at e
  refine ⟨Nat.le_refl _, by omega, by omega, ?_, ?_⟩
  · rw [e, List.length_take]; omega
  · rw [e, List.take_append_drop]
theorem cp_get {ps : List Pt} {q : List Pt} {j : Nat} (h : q.length ≤ j) : (q ++ ps.drop q.length).getD j (0, 0) = ps.getD j (0, 0) := by
  simp only [List.getD]
  rw [List.getElem?_append_right h, List.getElem?_drop]
  congr 2
  omega
theorem cp_len {ps q : List Pt} (h : q.length ≤ ps.length) : (q ++ ps.drop q.length).length = ps.length := by
  rw [List.length_append, List.length_drop]
  omega
theorem cp_set {ps q : List Pt} (h : q.length < ps.length) (z : Pt) : (q ++ ps.drop q.length).set q.length z = (q ++ [z]) ++ ps.drop (q.length + 1) := by
  rw [List.set_append_right _ _ (Nat.le_refl _), Nat.sub_self, drop_cons h (0, 0)]
  simp
theorem eq_pt (a b : Pt) : (a.1 == b.1 && (a.2 == b.2 && true)) = (a == b) := by
  rw [Bool.and_true]
  rfl
theorem dup_is (ps : List Pt) (m : Nat) : ((ps.getD m (0, 0)).1 == (ps.getD (m - 1) (0, 0)).1 && ((ps.getD m (0, 0)).2 == (ps.getD (m - 1) (0, 0)).2 && true)) = dupA ps m := eq_pt _ _
set_option maxRecDepth 100000 in
theorem round_cpI (ps : List Pt) (k0 : Nat) (h : ps.length ≤ 1000000000) : Round_cpI ps k0 := by
  rintro ⟨j, q, X⟩ ⟨h1, h2, h3, hq0, rfl⟩
  rw [tr_cpI]
  have hq : (cmN ps (k0 + j)).length ≤ ps.length := by omega
  have hX := cp_len hq
  have g1 := cp_get (ps := ps) (q := cmN ps (k0 + j)) (j := k0 + j) (by omega)
  have g2 := cp_get (ps := ps) (q := cmN ps (k0 + j)) (j := k0 + j - 1) (by omega)
  rw [← hq0] at hX g1 g2
  have a2 : ŵ ((j : Int) - 1) = ((j - 1 : Nat) : Int) := by rw [wr (by omega)]; omega
  refine brT_ok.2 ⟨fun hlt => ?_, fun hge => ?_⟩
  · have hlt := of_decide_eq_true hlt
    have hm : k0 + j < ps.length := by omega
    have a1 : k0 * 2 + (j : Int).toNat * 2 = (k0 + j) * 2 := by omega
    have a3 : k0 * 2 + ((j - 1 : Nat) : Int).toNat * 2 = (k0 + j - 1) * 2 := by omega
    have a4 : 0 + (q : Int).toNat * 2 = q * 2 := by omega
    have hs := flat_set (cmN ps (k0 + j) ++ ps.drop q) q (by omega) (ps.getD (k0 + j) (0, 0)).1 (ps.getD (k0 + j) (0, 0)).2
    have hs2 := cp_set (ps := ps) (q := cmN ps (k0 + j)) (by omega) (ps.getD (k0 + j) (0, 0))
    rw [← hq0] at hs2
    rw [hs2] at hs
    simp only [a2, a1, a3, a4, wsucc (i := j) (n := ps.length) (by omega) h, wsucc (i := q) (n := ps.length) (by omega) h, flat_get0, flat_get1, flat_length, g1, g2, dup_is, hX, hs]
    refine ⟨by omega, by omega, by omega, by omega, brT_ok.2 ⟨fun c => ⟨by omega, by omega, by omega, by omega, ?_⟩, fun c => ?_⟩⟩
    · have hd : dupA ps (k0 + j) = false := by simpa [negB] using c
      have e := cp_new hd
      have el : q + 1 = (cmN ps (k0 + j + 1)).length := by rw [e]; simp; omega
      refine ⟨(j + 1, q + 1, cmN ps (k0 + j) ++ [ps.getD (k0 + j) (0, 0)] ++ ps.drop (q + 1)), [], ⟨by omega, by omega, by omega, el, by show _ = cmN ps (k0 + j + 1) ++ _; rw [e]⟩, ?_, rfl, by simp only [rs_cpI], ?_⟩
      · show ps.length - (k0 + (j + 1)) < ps.length - (k0 + j); omega
      · repeat' (first | exact True.intro | exact rfl | exact fun _ => rfl | (simp; done) | refine And.intro ?_ ?_)
    · have hd : dupA ps (k0 + j) = true := by simpa [negB] using c
      have e := cp_dup hd (by omega)
      refine ⟨(j + 1, q, cmN ps (k0 + j) ++ ps.drop q), [], ⟨by omega, by omega, by omega, by show _ = (cmN ps (k0 + j + 1)).length; rw [e]; exact hq0, by show _ = cmN ps (k0 + j + 1) ++ _; rw [e]⟩, ?_, rfl, by simp only [rs_cpI], ?_⟩
      · show ps.length - (k0 + (j + 1)) < ps.length - (k0 + j); omega
      · repeat' (first | exact True.intro | exact rfl | exact fun _ => rfl | (simp; done) | refine And.intro ?_ ?_)
  · have hge := of_decide_eq_false hge
    have hm : k0 + j = ps.length := by omega
    refine ⟨rfl, [], ?_⟩
    rw [hm] at hq0
    simp only [rs_cpI, hm, ← hq0]
    repeat' (first | exact True.intro | exact rfl | exact fun _ => rfl | (simp; done) | refine And.intro ?_ ?_)
set_option maxRecDepth 100000 in
theorem lg_cpI : LoopE Try.prog e_cpI c_cpI := by
  intro s k t F H hlt ht
  unfold e_cpI at hlt
  split at hlt
  rotate_left
  · cases hlt
  rename_i hlen hpick hmem
  obtain ⟨tmps, mem⟩ := s
  simp only at hlen hpick hmem
  subst hmem
  obtain rfl := Option.some.inj hlt
  obtain ⟨⟨rfl, h1, h6, h2, rfl, rfl, h3, h4, h5, _⟩, ht2⟩ := needs_ok ht
  clear ht hlt
  obtain ⟨ps, rfl, rfl⟩ := even_flat h1
  obtain ⟨k, rfl⟩ := Int.eq_ofNat_of_zero_le h6
  rw [ptsA_flat] at ht2 h3 h4
  simp only [Int.toNat_natCast] at ht2 h3 h4
  refine ⟨_, _, ht2, loop_run mixed ECp_ok (s_cpI ps k) (inv_cpI ps k) (me_cpI ps k) re_cpI (rs_cpI ps k) k_cpI (fun _ => rfl) (noLoops nl_cpI) (round_cpI ps k h5) (x := (1, k, ps)) (cp_start h2 h3 h4) (π := []) rfl ?_⟩
  refine ⟨rfl, rfl, ?_, wvs_spread' [0, 3, 4, 5] hlen rfl ?_⟩
  · repeat' (first | exact True.intro | exact rfl | exact wv_top _ _ | exact fun _ => rfl | assumption | exact Eq.symm (by assumption) | exact vI0 rfl | refine And.intro ?_ ?_)
  · rw [hpick]
    repeat' (first | exact True.intro | exact rfl | exact wv_top _ _ | exact fun _ => rfl | assumption | exact Eq.symm (by assumption) | exact vI0 rfl | refine And.intro ?_ ?_)
def ltCp : LT := fun j s k => match j with
  | 1 => e_cpI s k
  | _ => none
noncomputable def c_cpO : Code := ((loopsOf (codeOf Try.f88))[0]?).getD .skip
def k_cpO : Ex → List Nat := keeps [0, 3] [(0, [0])] [2]
def s_cpO (ps : List Pt) : Nat → St := fun i => ⟨(ß 0 ps.length ps.length :: topV :: topV :: .int .i64 i :: ω57 []), [some ⟨.row 31 2, .ints (flat ps)⟩]⟩
def re_cpO (ps : List Pt) : Nat → Ex := fun i => bif allQ (fun j => !(dupA ps j)) i (ps.length - i) then .exit 0 else .ret
def rs_cpO (ps : List Pt) : Nat → St := fun i => bif allQ (fun j => !(dupA ps j)) i (ps.length - i) then ⟨(ß 0 ps.length ps.length :: ω60 []), [some ⟨.row 31 2, .ints (flat ps)⟩]⟩ else ⟨(topV :: topV :: ß 0 (cmP ps).length (cmP ps).length :: ω58 []), [some ⟨.row 31 2, .ints (flat (cmP ps))⟩]⟩
set_option maxRecDepth 100000 in
theorem tr_cpO (ps : List Pt) (i : Nat) : bodyL Try.prog ECp 30 12 ltCp 1 c_cpO k_cpO 1 (s_cpO ps i) = brT (decide ((↑i : Int) < (↑ps.length : Int))) (.need ((0 : Int) ≤ (↑i : Int) ∧ (↑i : Int) < (↑ps.length : Int)) (.need ((0 : Nat) + (↑i : Int).toNat * (2 : Nat) + (2 : Nat) ≤ (flat ps).length) (.need ((0 : Int) ≤ ŵ ((↑i : Int) - (1 : Int)) ∧ ŵ ((↑i : Int) - (1 : Int)) < (↑ps.length : Int)) (.need ((0 : Nat) + (ŵ ((↑i : Int) - (1 : Int))).toNat * (2 : Nat) + (2 : Nat) ≤ (flat ps).length) (brT (negB false ((flat ps).getD (0 + (↑i : Int).toNat * 2) 0 == (flat ps).getD (0 + (ŵ ((↑i : Int) - 1)).toNat * 2) 0 && ((flat ps).getD (0 + (↑i : Int).toNat * 2 + 1) 0 == (flat ps).getD (0 + (ŵ ((↑i : Int) - 1)).toNat * 2 + 1) 0 && true))) (.need ((0 : Int) ≤ bndI (some (IntKind.i64, (↑i : Int))) (0 : Int) ∧ bndI (some (IntKind.i64, (↑i : Int))) (0 : Int) ≤ bndI none (↑ps.length : Int) ∧ bndI none (↑ps.length : Int) ≤ (↑ps.length : Int)) (.need ((1 : Int) = (1 : Int)) (.need ((flat ps).length = ps.length * (2 : Nat)) (.need ((0 : Int) ≤ (↑i : Int)) (.need ((1 : Int) ≤ (↑i : Int) ∧ (↑i : Int) < (↑ps.length : Int)) (.need ((0 : Nat) + (bndI (some (IntKind.i64, (↑i : Int))) (0 : Int)).toNat * (2 : Nat) = (↑i : Int).toNat * (2 : Nat)) (.need ((bndI none (↑ps.length : Int)).toNat - (bndI (some (IntKind.i64, (↑i : Int))) (0 : Int)).toNat = ps.length - (↑i : Int).toNat) (.need (dupA (ptsA ps.length (flat ps)) (↑i : Int).toNat = true) (.need (∀ (j : Nat), (1 : Nat) ≤ j → j < (↑i : Int).toNat → dupA (ptsA ps.length (flat ps)) j = false) (.need (ps.length ≤ (1000000000 : Nat)) (.need ((0 : Int) ≤ bndI (some (IntKind.i64, (↑(cmN (ptsA ps.length (flat ps)) ps.length).length : Int))) (0 : Int) ∧ bndI (some (IntKind.i64, (↑(cmN (ptsA ps.length (flat ps)) ps.length).length : Int))) (0 : Int) ≤ bndI none (↑ps.length : Int) ∧ bndI none (↑ps.length : Int) ≤ (↑ps.length : Int)) (.need ((0 : Nat) + (bndI (some (IntKind.i64, (↑(cmN (ptsA ps.length (flat ps)) ps.length).length : Int))) (0 : Int)).toNat * (2 : Nat) + ((bndI none (↑ps.length : Int)).toNat - (bndI (some (IntKind.i64, (↑(cmN (ptsA ps.length (flat ps)) ps.length).length : Int))) (0 : Int)).toNat) * (2 : Nat) ≤ (flat (cmN (ptsA ps.length (flat ps)) ps.length ++ List.drop (cmN (ptsA ps.length (flat ps)) ps.length).length (ptsA ps.length (flat ps)))).length) (.need ((0 : Int) ≤ bndI none (0 : Int) ∧ bndI none (0 : Int) ≤ bndI (some (IntKind.i64, (↑(cmN (ptsA ps.length (flat ps)) ps.length).length : Int))) (↑ps.length : Int) ∧ bndI (some (IntKind.i64, (↑(cmN (ptsA ps.length (flat ps)) ps.length).length : Int))) (↑ps.length : Int) ≤ (↑ps.length : Int)) (.leaf .ret ⟨(topV :: topV :: ß 0 ((bndI (some (IntKind.i64, (↑(cmN (ptsA ps.length (flat ps)) ps.length).length : Int))) (↑ps.length : Int)).toNat - 0) ((bndI (some (IntKind.i64, (↑(cmN (ptsA ps.length (flat ps)) ps.length).length : Int))) (↑ps.length : Int)).toNat - 0) :: ω58 []), [some ⟨.row 31 2, .ints (List.take (0 + (bndI (some (IntKind.i64, (↑(cmN (ptsA ps.length (flat ps)) ps.length).length : Int))) 0).toNat * 2) (flat (cmN (ptsA ps.length (flat ps)) ps.length ++ List.drop (cmN (ptsA ps.length (flat ps)) ps.length).length (ptsA ps.length (flat ps)))))⟩]⟩)))))))))))))) (.leaf .normal ⟨(ß 0 (ps.length) (ps.length) :: topV :: topV :: .int .i64 (ŵ ((↑i : Int) + 1)) :: ω57 []), [some ⟨.row 31 2, .ints (flat ps)⟩]⟩)))))) (.leaf (.exit 0) ⟨(ß 0 (ps.length) (ps.length) :: ω60 []), [some ⟨.row 31 2, .ints (flat ps)⟩]⟩) := by kernel_rfl
def inv_cpO (ps : List Pt) : Nat → Prop := fun i => 1 ≤ i ∧ i ≤ ps.length ∧ ∀ j, 1 ≤ j → j < i → dupA ps j = false
def me_cpO (ps : List Pt) : Nat → Nat := fun i => ps.length - i
def Round_cpO (ps : List Pt) : Prop := ∀ xx : Nat, inv_cpO ps xx → (bodyL Try.prog ECp 30 12 ltCp 1 c_cpO k_cpO 1 (s_cpO ps xx)).ok (RoundEnd 1 (s_cpO ps) (inv_cpO ps) (me_cpO ps) (re_cpO ps) (rs_cpO ps) xx) (fun _ _ => False)
def e_cpO (s : St) (k : Ex → St → Tree) : Option Tree := match Nat.beq s.tmps.length 61, pickL s.tmps [0, 3], s.mem with
  | true, [ß 0 n _, .int .i64 i], [some ⟨.row 31 2, .ints xs⟩] => some (needs [i = 1, xs.length = n * 2, 2 ≤ n, n ≤ 1000000000] (brT (allQ (fun j => !(dupA (ptsA n xs) j)) 1 (n - 1)) (k (.exit 0) ⟨(ß 0 n n :: ω60 []), [some ⟨.row 31 2, .ints xs⟩]⟩) (k .ret ⟨(topV :: topV :: ß 0 (cmP (ptsA n xs)).length (cmP (ptsA n xs)).length :: ω58 []), [some ⟨.row 31 2, .ints (flat (cmP (ptsA n xs)))⟩]⟩)))
  | _, _, _ => none
theorem bnd_some (x d : Int) : bndI (some (IntKind.i64, x)) d = x := rfl
theorem bnd_none (d : Int) : bndI none d = d := rfl
set_option maxRecDepth 100000 in
theorem in_cpO : loopsOf c_cpO = [c_cpI] := by kernel_rfl
theorem ltCp_good : LoopsGood Try.prog ltCp 1 c_cpO := by
  intro i d hd s k t F H hlt ht
  rw [in_cpO] at hd
  cases i with
  | zero =>
    obtain rfl : c_cpI = d := by simpa using hd
    exact lg_cpI s k t F H hlt ht
  | succ i => simp at hd
set_option maxRecDepth 100000 in
theorem round_cpO (ps : List Pt) (h : ps.length ≤ 1000000000) : Round_cpO ps := by
  rintro i ⟨h1, h2, h3⟩
  rw [tr_cpO]
  simp only [ptsA_flat, bnd_some, bnd_none, Int.toNat_natCast, Nat.zero_add, Nat.sub_zero]
  refine brT_ok.2 ⟨fun hlt => ?_, fun hge => ?_⟩
  · have hi : i < ps.length := by have := of_decide_eq_true hlt; omega
    have w1 : ŵ ((i : Int) - 1) = ((i - 1 : Nat) : Int) := by rw [wr (by omega)]; omega
    have step : allQ (fun j => !(dupA ps j)) i (ps.length - i) = (!(dupA ps i) && allQ (fun j => !(dupA ps j)) (i + 1) (ps.length - (i + 1))) := allQ_step hi
    have hle := cmN_le ps ps.length
    have hX := cp_len hle
    simp only [w1, Int.toNat_natCast, flat_get0, flat_get1, flat_length, dup_is, hX, wsucc hi h]
    refine ⟨by omega, by omega, by omega, by omega, brT_ok.2 ⟨fun q => ?_, fun q => ?_⟩⟩
    · have hd : dupA ps i = true := by simpa [negB] using q
      have e : allQ (fun j => !(dupA ps j)) i (ps.length - i) = false := by rw [step, hd]; rfl
      have hf : List.take ((cmN ps ps.length).length * 2) (flat (cmN ps ps.length ++ List.drop (cmN ps ps.length).length ps)) = flat (cmP ps) := by
        rw [flat_take, List.take_left]
        rfl
      rw [hf]
      refine ⟨by omega, by first | exact True.intro | rfl, by first | exact True.intro | rfl, by omega, by omega, by first | exact True.intro | rfl, by first | exact True.intro | rfl, hd, h3, h, by omega, by omega, by omega, ?_⟩
      refine ⟨by simp only [re_cpO, e, cond_false], [], ?_⟩
      simp only [rs_cpO, e, cond_false]
      repeat' (first | exact True.intro | exact rfl | exact fun _ => rfl | (simp; done) | refine And.intro ?_ ?_)
    · have hd : dupA ps i = false := by simpa [negB] using q
      have e : allQ (fun j => !(dupA ps j)) i (ps.length - i) = allQ (fun j => !(dupA ps j)) (i + 1) (ps.length - (i + 1)) := by rw [step, hd]; rfl
      refine ⟨i + 1, [], ⟨by omega, by omega, fun j g1 g2 => ?_⟩, ?_, by simp only [re_cpO, e], by simp only [rs_cpO, e], ?_⟩
      · rcases Nat.lt_or_ge j i with g | g
        · exact h3 j g1 g
        · obtain rfl : j = i := by omega
          exact hd
      · show ps.length - (i + 1) < ps.length - i; omega
      · repeat' (first | exact True.intro | exact rfl | exact fun _ => rfl | (simp; done) | refine And.intro ?_ ?_)
  · have hge := of_decide_eq_false hge
    obtain rfl : i = ps.length := by omega
    have e : allQ (fun j => !(dupA ps j)) ps.length (ps.length - ps.length) = true := allQ_end (by omega)
    refine ⟨by simp only [re_cpO, e, cond_true], [], ?_⟩
    simp only [rs_cpO, e, cond_true]
    repeat' (first | exact True.intro | exact rfl | exact fun _ => rfl | (simp; done) | refine And.intro ?_ ?_)
set_option maxRecDepth 100000 in
theorem lg_cpO : LoopE Try.prog e_cpO c_cpO := by
  intro s k t F H hlt ht
  unfold e_cpO at hlt
  split at hlt
  rotate_left
  · cases hlt
  rename_i hlen hpick hmem
  obtain ⟨tmps, mem⟩ := s
  simp only at hlen hpick hmem
  subst hmem
  obtain rfl := Option.some.inj hlt
  obtain ⟨⟨rfl, h1, h2, h5, _⟩, ht2⟩ := needs_ok ht
  clear ht hlt
  obtain ⟨ps, rfl, rfl⟩ := even_flat h1
  rw [ptsA_flat] at ht2
  refine ⟨_, _, pick2k ht2, loop_run mixed ECp_ok (s_cpO ps) (inv_cpO ps) (me_cpO ps) (re_cpO ps) (rs_cpO ps) k_cpO (fun _ => rfl) ltCp_good (round_cpO ps h5) (x := 1) ⟨Nat.le_refl _, by omega, fun j h1 h2 => by omega⟩ (π := []) rfl ?_⟩
  refine ⟨rfl, rfl, ?_, wvs_spread' [0, 3] hlen rfl ?_⟩
  · repeat' (first | exact True.intro | exact rfl | exact wv_top _ _ | exact fun _ => rfl | assumption | exact Eq.symm (by assumption) | exact vI0 rfl | refine And.intro ?_ ?_)
  · rw [hpick]
    repeat' (first | exact True.intro | exact rfl | exact wv_top _ _ | exact fun _ => rfl | assumption | exact Eq.symm (by assumption) | exact vI0 rfl | refine And.intro ?_ ?_)
theorem Lr_cpO {fn : Func} (hf : Try.prog.funcs[88]? = some fn) : LoopsGood Try.prog (lt1 e_cpO) 0 (codeOf fn) := by
  obtain rfl := fn_is Try.func88 hf
  exact lt1_good lg_cpO
def LCp : FuncId → LT := fun f => match f with
  | 88 => lt1 e_cpO
  | _ => noL
def ECq : Env := mkE B0 (fun _ _ => none) LCp
theorem ECq_ok : EnvOk Try.prog ECq := mkEOk B0_ok (fun _ _ _ _ _ h => (by cases h)) (by
  intro f fn hf
  unfold LCp
  split
  all_goals first | with_reducible exact Lr_cpO hf | exact noL_good)
set_option maxRecDepth 100000 in
theorem tr_cpF (ps : List Pt) : bodyM Try.prog ECq (runM Try.prog ECq 30 12) 30 88 [ß 0 ps.length ps.length] [some ⟨.row 31 2, .ints (flat ps)⟩] .fin = brT (decide ((↑ps.length : Int) < 2)) (.fin (ß 0 (ps.length) (ps.length)) [some ⟨.row 31 2, .ints (flat ps)⟩]) (.need ((1 : Int) = (1 : Int)) (.need ((flat ps).length = ps.length * (2 : Nat)) (.need ((2 : Nat) ≤ ps.length) (.need (ps.length ≤ (1000000000 : Nat)) (brT (allQ (fun j => !dupA (ptsA ps.length (flat ps)) j) 1 (ps.length - 1)) (.fin (ß 0 (ps.length) (ps.length)) [some ⟨.row 31 2, .ints (flat ps)⟩]) (.fin (ß 0 ((cmP (ptsA ps.length (flat ps))).length) ((cmP (ptsA ps.length (flat ps))).length)) [some ⟨.row 31 2, .ints (flat (cmP (ptsA ps.length (flat ps))))⟩])))))) := by kernel_rfl
theorem cpt_row (ps : List Pt) (h : ps.length ≤ 1000000000) : (bodyM Try.prog ECq (runM Try.prog ECq 30 12) 30 88 [ß 0 ps.length ps.length] [some ⟨.row 31 2, .ints (flat ps)⟩] .fin).ok (fun _ _ => False) (fun u mem' => RowIs (ß 0 (cmP ps).length (cmP ps).length) ⟨.row 31 2, .ints (flat (cmP ps))⟩ u mem') := by
  rw [tr_cpF]
  simp only [ptsA_flat]
  have same : (∀ j, 1 ≤ j → j < ps.length → dupA ps j = false) → cmP ps = ps := fun hn => by
    unfold cmP
    rw [cmN_take _ (Nat.le_refl _) hn, List.take_length]
  refine brT_ok.2 ⟨fun hlt => ?_, fun hge => ?_⟩
  · have hlt := of_decide_eq_true hlt
    rw [same fun j h1 h2 => by omega]
    exact ⟨some 0, ⟨rfl, rfl, rfl⟩, rfl, rfl, rfl⟩
  · have hge := of_decide_eq_false hge
    refine ⟨by first | exact True.intro | rfl, flat_length ps, by omega, h, brT_ok.2 ⟨fun q => ?_, fun q => ?_⟩⟩
    · have q : allQ (fun j => !(dupA ps j)) 1 (ps.length - 1) = true := q
      rw [same fun j h1 h2 => by simpa using allQ_get _ _ q j h1 (by omega)]
      exact ⟨some 0, ⟨rfl, rfl, rfl⟩, rfl, rfl, rfl⟩
    · exact ⟨some 0, ⟨rfl, rfl, rfl⟩, rfl, rfl, rfl⟩
def cptS : OSpec := fun e sz l xs rest => match e, sz, rest with
  | 31, 2, [] => some (ß 0 (cmP (ptsA l xs)).length (cmP (ptsA l xs)).length, ⟨.row 31 2, .ints (flat (cmP (ptsA l xs)))⟩, [xs.length = l * 2, l ≤ 1000000000])
  | _, _, _ => none
set_option maxRecDepth 100000 in
theorem cptS_ok : OSpecOk Try.prog 88 cptS := by
  intro e sz l xs rest v b C h hC
  unfold cptS at h
  split at h
  rotate_left
  · cases h
  obtain ⟨rfl, rfl, rfl⟩ : _ ∧ _ ∧ _ := by simpa using h
  obtain ⟨h1, h2, _⟩ := hC
  obtain ⟨ps, rfl, rfl⟩ := even_flat h1
  rw [ptsA_flat]
  exact ⟨rfl, ECq, 30, 12, ECq_ok, cpt_row ps h2⟩
set_option maxRecDepth 100000 in
theorem u_pts : Try.prog.underlying 23 = some (.slice 31) := by kernel_rfl
theorem nilNil_run (t e : TypeId) (w : World) (c c' : Nat) (h : Try.prog.underlying t = some (.slice e)) : (binOp .eql t (.slice none 0 c) (.slice none 0 c')).run Try.prog w = .ok (.bool true) w := by
  have he : ∀ d, (Op.equalIn (d + 1) t (.slice none 0 c) (.slice none 0 c')).run Try.prog w = .ok true w := fun d => by simp [Op.equalIn, run_underlying h]
  simp only [binOp]
  simp [Op.equal, Op.maxDepth, he 9999]
set_option maxRecDepth 100000 in
theorem cln_zero (ad : Option Addr) (c : Nat) (w : World) : Calls Try.prog 41 #[.slice ad 0 c] w fun e w' => ∃ v' p, e = .returned v' ∧ Below w.heap.size w w' ∧
    ∀ (ρ : Nat → Option Pl) (name : Nat), ρ name = some p → VR ρ (.slice (some ⟨name, 0, none⟩) 0 0) v' ∧ BlkOk ρ (fun k => k < w.heap.size) w' name ⟨.row 31 2, .ints []⟩ := by
  cases ad with
  | none =>
    have hn := fun W => nilNil_run 23 31 W c 0 u_pts
    go_enter Try.func41, Try.ntmps41
    go_wp2
    go_ret
    exact ⟨_, (0, 1, some 0), rfl, Below.refl _ _, fun ρ name h => ⟨.nil_ h ⟨rfl, 0, rfl⟩ rfl (fun _ => ⟨rfl, rfl⟩), .inl ⟨_, h, rfl, rfl⟩⟩⟩
  | some a =>
    have hn := fun W => eqNil_run (P := Try.prog) 23 31 a 0 c W u_pts false
    simp only [opB, negB] at hn
    go_enter Try.func41, Try.ntmps41
    go_wp2
    go_ret
    refine ⟨_, (w.heap.size, 0, some 0), rfl, na (nr _) _, fun ρ name h => ⟨.slice (f := 0) h (.inl rfl) (Nat.le_refl _) (fun k hk _ => by simpa using hk), .inr ⟨w.heap.size, 0, h, Nat.lt_irrefl _, #[], heap_alloc_new w _, rfl, fun k v hk => by simp [Blk.cells, Cs.list] at hk⟩⟩⟩
set_option maxRecDepth 100000 in
theorem tr_cln (ps : List Pt) : bodyX Try.prog (tabE B0) 30 12 41 [.row ps.length (.ints (flat ps))] = .need ((0 : Nat) < ps.length) (.need (((0 : Nat) + (ps.length, Cs.ints (List.take (ps.length * Try.prog.types[(31 : Nat)].size) (List.drop 0 (flat ps))), [(0 : Nat) + ps.length * Try.prog.types[(31 : Nat)].size ≤ (flat ps).length]).fst) * (16 : Nat) ≤ (140737488355328 : Nat) ∧ (0 : Nat) + (ps.length, Cs.ints (List.take (ps.length * Try.prog.types[(31 : Nat)].size) (List.drop 0 (flat ps))), [(0 : Nat) + ps.length * Try.prog.types[(31 : Nat)].size ≤ (flat ps).length]).fst ≤ (2000000 : Nat)) (.need ((0 : Nat) + ps.length * (2 : Nat) ≤ (flat ps).length) (.fin (ß 2 (0 + (ps.length, Cs.ints (List.take (ps.length * Try.prog.types[31].size) (List.drop 0 (flat ps))), [0 + ps.length * Try.prog.types[31].size ≤ (flat ps).length]).fst) (0 + (ps.length, Cs.ints (List.take (ps.length * Try.prog.types[31].size) (List.drop 0 (flat ps))), [0 + ps.length * Try.prog.types[31].size ≤ (flat ps).length]).fst)) [some ⟨.view, .ints (flat ps)⟩, some deadB, some ⟨.row 31 2, .ints ([] ++ List.take (ps.length * 2) (List.drop 0 (flat ps)))⟩]))) := by kernel_rfl
theorem resR_cln (ps : List Pt) (h : ps.length ≤ 2000000) : ResR Try.prog 41 [.row ps.length (.ints (flat ps))] (rowP ps) (blkP ps) := by
  rcases Nat.eq_zero_or_pos ps.length with h0 | h0
  · obtain rfl : ps = [] := List.eq_nil_of_length_eq_zero h0
    refine ⟨(entersB_res (by kernel_rfl)).1, (entersB_res (by kernel_rfl)).2, rfl, fun d hd => ?_, fun w args hd => ?_⟩
    · rw [List.mem_singleton.1 hd]
      exact rfl
    · obtain ⟨h1, h2⟩ := hd
      obtain ⟨x0, rfl⟩ : ∃ x0, args = #[x0] := by
        have h3 : args.size = 1 := by simpa using h1.symm
        match args, h3 with
        | ⟨[x0]⟩, _ => exact ⟨x0, rfl⟩
      obtain ⟨_, ad, c', rfl, _, _⟩ := h2 0 _ x0 rfl rfl
      exact cln_zero ad c' w
  · refine bodyX_resR mixed (tabE_ok B0_ok) (m := 30) (n := 12) rfl ?_
    rw [tr_cln]
    have hf : ([] : List Int) ++ List.take (ps.length * 2) (List.drop 0 (flat ps)) = flat ps := by
      rw [List.nil_append, List.drop_zero, flat_all]
    refine ⟨h0, ⟨?_, ?_⟩, ?_, some 2, ⟨?_, ?_, ?_⟩, ?_⟩
    · show (0 + ps.length) * 16 ≤ 140737488355328; omega
    · show 0 + ps.length ≤ 2000000; omega
    · rw [flat_length]; omega
    · rfl
    · rfl
    · show 0 + ps.length = ps.length; omega
    · rw [hf]; exact ⟨rfl, rfl, rfl⟩
def RCl : TabR := fun f ds => match f, ds with
  | 41, [.row m (.ints xs)] => some (rowP (ptsA m xs), blkP (ptsA m xs), [m * 2 ≤ xs.length, m ≤ 2000000])
  | f, ds => R4 f ds
theorem RCl_ok : TabROk Try.prog RCl := by
  intro f ds v b C h hC
  unfold RCl at h
  (try split at h)
  all_goals first
    | (obtain ⟨rfl, rfl, rfl⟩ : _ ∧ _ ∧ _ := by simpa using h
       obtain ⟨_, h2⟩ := ptsA_spec hC.1
       have h1 := resR_pts1 (pre := []) (post := []) hC.1 (resR_cln _ (by rw [h2]; exact hC.2.1))
       simp only [List.nil_append, List.append_nil] at h1
       with_reducible exact h1)
    | exact R4_ok _ _ _ _ _ h hC
def JSo : TabJ := consJ 87 (fun _ => soG 45) noJ
theorem JSo_ok : GSound Try.prog JSo.g := soG_sound (failG_sound _)
def JSc : TabJ := consR 88 (owG cptS) JSo
theorem JSc_ok : GSound Try.prog JSc.g := consO_ok mixed JSo_ok (entersB_res (by kernel_rfl)).1 cptS_ok
def ESp : Env := withT (mkE T3 RCl (fun _ => noL)) JSc
theorem ESp_ok : EnvOk Try.prog ESp := withT_ok (mkEOk T3_ok RCl_ok (fun _ _ _ => noL_good)) JSc_ok
set_option maxRecDepth 100000 in
theorem tr_iSp (ps : List Pt) : bodyX Try.prog ESp 30 12 47 [.row ps.length (.ints (flat ps))] = brT (decide ((↑ps.length : Int) ≤ 20)) (.need (ps.length * (2 : Nat) ≤ (List.drop 0 (flat ps)).length) (.need (ps.length ≤ (1000000000 : Nat)) (brT (!allV (ptsA ps.length (List.drop 0 (flat ps)))) (.fin (.slice none (0) (0)) [some ⟨.view, .ints (flat ps)⟩]) (.need (ps.length * (2 : Nat) ≤ (List.drop 0 (flat ps)).length) (.need (ps.length ≤ (2000000 : Nat)) (.need ((flat (ptsA ps.length (List.drop 0 (flat ps)))).length = (ptsA ps.length (List.drop 0 (flat ps))).length * (2 : Nat)) (.need ((ptsA ps.length (List.drop 0 (flat ps))).length ≤ (1000000000 : Nat)) (.need ((flat (sortP (ptsA (ptsA ps.length (List.drop 0 (flat ps))).length (flat (ptsA ps.length (List.drop 0 (flat ps))))))).length = (ptsA ps.length (List.drop 0 (flat ps))).length * (2 : Nat)) (.need ((ptsA ps.length (List.drop 0 (flat ps))).length ≤ (1000000000 : Nat)) (.fin (ß 2 ((cmP (ptsA (ptsA ps.length (List.drop 0 (flat ps))).length (flat (sortP (ptsA (ptsA ps.length (List.drop 0 (flat ps))).length (flat (ptsA ps.length (List.drop 0 (flat ps))))))))).length) ((cmP (ptsA (ptsA ps.length (List.drop 0 (flat ps))).length (flat (sortP (ptsA (ptsA ps.length (List.drop 0 (flat ps))).length (flat (ptsA ps.length (List.drop 0 (flat ps))))))))).length)) [some ⟨.view, .ints (flat ps)⟩, some deadB, some ⟨.row 31 2, .ints (flat (cmP (ptsA (ptsA ps.length (List.drop 0 (flat ps))).length (flat (sortP (ptsA (ptsA ps.length (List.drop 0 (flat ps))).length (flat (ptsA ps.length (List.drop 0 (flat ps))))))))))⟩])))))))))) (.fin (.slice none (0) (0)) [some ⟨.view, .ints (flat ps)⟩]) := by kernel_rfl
theorem up_get {L : List Pt} (h : L.Pairwise fun x y => pltB y x = false) {i j : Nat} (hij : i < j) (hj : j < L.length) : pltB (L.getD j (0, 0)) (L.getD i (0, 0)) = false := by
  have := List.pairwise_iff_getElem.1 h i j (by omega) hj hij
  simpa [List.getD, hj, show i < L.length by omega] using this
theorem plt_le {a b c : Pt} (h1 : pltB b a = false) (h2 : pltB b c = true) : pltB a c = true := by
  rw [← Bool.not_eq_true, pltB_iff] at h1
  rw [pltB_iff] at h2 ⊢
  omega
theorem cmN_srt {L : List Pt} (h : L.Pairwise fun x y => pltB y x = false) : ∀ m, m ≤ L.length → Asc (cmN L m) ∧ (∀ z ∈ cmN L m, ∃ j, j < m ∧ z = L.getD j (0, 0)) ∧ ∀ j, j < m → L.getD j (0, 0) ∈ cmN L m
  | 0, _ => ⟨List.Pairwise.nil, fun z hz => by simp [cmN] at hz, fun j hj => by omega⟩
  | m + 1, hm => by
    obtain ⟨h1, h2, h3⟩ := cmN_srt h m (by omega)
    simp only [cmN]
    split
    · rename_i hc
      refine ⟨?_, fun z hz => ?_, fun j hj => ?_⟩
      · refine List.pairwise_append.2 ⟨h1, by simp, fun z hz y hy => ?_⟩
        obtain rfl : y = L.getD m (0, 0) := by simpa using hy
        obtain ⟨j, hj, rfl⟩ := h2 z hz
        rcases hc with hc | hc
        · omega
        · have a1 : pltB (L.getD (m - 1) (0, 0)) (L.getD m (0, 0)) = true := plt_tri (up_get h (by omega) (by omega)) hc
          rcases Nat.lt_or_ge j (m - 1) with hj1 | hj1
          · exact plt_le (up_get h hj1 (by omega)) a1
          · obtain rfl : j = m - 1 := by omega
            exact a1
      · rcases List.mem_append.1 hz with hz | hz
        · obtain ⟨j, hj, e⟩ := h2 z hz
          exact ⟨j, by omega, e⟩
        · obtain rfl : z = L.getD m (0, 0) := by simpa using hz
          exact ⟨m, by omega, rfl⟩
      · rcases Nat.lt_or_ge j m with hjm | hjm
        · exact List.mem_append.2 (.inl (h3 j hjm))
        · obtain rfl : j = m := by omega
          exact List.mem_append.2 (.inr (by simp))
    · rename_i hc
      have hc1 : ¬ m = 0 := fun e => hc (.inl e)
      have hc2 : L.getD m (0, 0) = L.getD (m - 1) (0, 0) := Classical.byContradiction fun e => hc (.inr e)
      refine ⟨h1, fun z hz => ?_, fun j hj => ?_⟩
      · obtain ⟨j, hj, e⟩ := h2 z hz
        exact ⟨j, by omega, e⟩
      · rcases Nat.lt_or_ge j m with hjm | hjm
        · exact h3 j hjm
        · obtain rfl : j = m := by omega
          rw [hc2]
          exact h3 (j - 1) (by omega)
theorem cmP_sort (ps : List Pt) : cmP (sortP ps) = srtL ps := by
  obtain ⟨h1, h2, h3⟩ := cmN_srt (sortP_up ps) (sortP ps).length (Nat.le_refl _)
  refine asc_ext h1 (srtL_asc ps) fun z => ?_
  rw [srtL_mem]
  constructor
  · intro hz
    obtain ⟨j, hj, rfl⟩ := h2 z hz
    exact (sortP_mem ps _).1 (by simp [List.getD, hj])
  · intro hz
    obtain ⟨j, hj, rfl⟩ := List.mem_iff_getElem.1 ((sortP_mem ps z).2 hz)
    have := h3 j hj
    rw [show (sortP ps).getD j (0, 0) = (sortP ps)[j] by simp [List.getD, hj]] at this
    exact this
def spV (ps : List Pt) : List Pt := bif okL ps then srtL ps else []
theorem okL_20 {ps : List Pt} (h : okL ps = true) : allV ps = true ∧ ps.length ≤ 20 := by
  unfold okL at h
  simpa using h
theorem spV_len (ps : List Pt) : (spV ps).length ≤ 20 := by
  unfold spV
  rcases h : okL ps with _ | _
  · exact Nat.zero_le _
  · have := srtO_le ps []
    have h2 := (okL_20 h).2
    simp only [List.length_nil] at this
    show (srtO [] ps).length ≤ 20
    omega
theorem resR_iSp (ps : List Pt) (h : Big ps) : ResR Try.prog 47 [.row ps.length (.ints (flat ps))] (rowP (spV ps)) (blkP (spV ps)) := by
  refine bodyX_resR mixed ESp_ok (m := 30) (n := 12) rfl ?_
  rw [tr_iSp]
  unfold Big at h
  have e : ptsA ps.length (flat (sortP ps)) = sortP ps := by rw [← sortP_len ps, ptsA_flat]
  simp only [List.drop_zero, ptsA_flat, flat_length, e, cmP_sort]
  refine brT_ok.2 ⟨fun h20 => ⟨by omega, h, brT_ok.2 ⟨fun hv => ?_, fun hv => ?_⟩⟩, fun h20 => ?_⟩
  · have e2 : spV ps = [] := by
      unfold spV okL
      rw [show allV ps = false by simpa using hv]
      rfl
    rw [e2]
    exact ⟨none, ⟨rfl, rfl⟩, trivial⟩
  · have hv : allV ps = true := by simpa using hv
    have hl : ps.length ≤ 20 := by have := of_decide_eq_true h20; omega
    have e2 : spV ps = srtL ps := by
      unfold spV okL
      rw [hv, decide_eq_true hl]
      rfl
    rw [e2]
    exact ⟨by omega, by omega, trivial, by omega, by rw [sortP_len], by omega, some 2, ⟨rfl, rfl, rfl⟩, rfl, rfl, rfl⟩
  · have e2 : spV ps = [] := by
      unfold spV okL
      rw [show decide (ps.length ≤ 20) = false from decide_eq_false (by have := of_decide_eq_false h20; omega), Bool.and_false]
      rfl
    rw [e2]
    exact ⟨none, ⟨rfl, rfl⟩, trivial⟩
def RSs : TabR := fun f ds => match f, ds with
  | 70, [.row m (.ints xs)] => some (rowP (srtL (ptsA m xs)), blkP (srtL (ptsA m xs)), [m * 2 ≤ xs.length, m ≤ 1000])
  | 47, [.row m (.ints xs)] => some (rowP (spV (ptsA m xs)), blkP (spV (ptsA m xs)), [m * 2 ≤ xs.length, m ≤ 1000000000])
  | f, ds => RCl f ds
theorem RSs_ok : TabROk Try.prog RSs := by
  intro f ds v b C h hC
  unfold RSs at h
  (try split at h)
  all_goals first
    | (obtain ⟨rfl, rfl, rfl⟩ : _ ∧ _ ∧ _ := by simpa using h
       obtain ⟨_, h2⟩ := ptsA_spec hC.1
       have h1 := resR_pts1 (pre := []) (post := []) hC.1 (resR_srt _ (by rw [h2]; exact hC.2.1))
       simp only [List.nil_append, List.append_nil] at h1
       with_reducible exact h1)
    | (obtain ⟨rfl, rfl, rfl⟩ : _ ∧ _ ∧ _ := by simpa using h
       obtain ⟨_, h2⟩ := ptsA_spec hC.1
       have h1 := resR_pts1 (pre := []) (post := []) hC.1 (resR_iSp _ (by unfold Big; rw [h2]; exact hC.2.1))
       simp only [List.nil_append, List.append_nil] at h1
       with_reducible exact h1)
    | exact RCl_ok _ _ _ _ _ h hC
def RSq : TabR := fun f ds => match f, ds with
  | f, ds => RSs f ds
theorem RSq_ok : TabROk Try.prog RSq := by
  intro f ds v b C h hC
  unfold RSq at h
  (try split at h)
  all_goals first
    | (obtain ⟨rfl, rfl, rfl⟩ : _ ∧ _ ∧ _ := by simpa using h
       obtain ⟨_, h2⟩ := ptsA_spec hC.1
       have h1 := resR_pts1 (pre := []) (post := []) hC.1 (resR_sSp _ (by unfold Big; rw [h2]; exact hC.2.1))
       simp only [List.nil_append, List.append_nil] at h1
       with_reducible exact h1)
    | exact RSs_ok _ _ _ _ _ h hC
theorem room_fz (ro : Option Nat) (n : Nat) : (fz ro).room n := fun _ h => by cases h
theorem wpIn_n {ro : Option Nat} {n n' : Nat} {P : Program} {c : Code} {Q : Exit → Act → World → Prop} {a : Act} {w : World} (h : c.wpIn (fz ro) n P Q a w) : c.wpIn (fz ro) n' P Q a w := fun b k cs h1 h2 _ => h b k cs h1 h2 (room_fz _ _)
def vwK : BK → BK
  | .dead => .dead
  | _ => .view
def vwB (t : Bool) (b : Option Blk) : Option Blk :=
  match b, t with
  | some b, true => some ⟨vwK b.kind, b.cs⟩
  | b, _ => b
def toView (l : List Nat) : Nat → List (Option Blk) → List (Option Blk)
  | _, [] => []
  | k, b :: r => vwB (l.contains k) b :: toView l (k + 1) r
def viewS (l : List Nat) (s : St) : St := { tmps := s.tmps, mem := toView l 0 s.mem }
theorem toView_get (l : List Nat) : ∀ (r : List (Option Blk)) (k i : Nat), (toView l k r).getD i none = vwB (l.contains (k + i)) (r.getD i none)
  | [], k, i => by simp [toView, vwB]
  | b :: r, k, i => by
    cases i with
    | zero => simp [toView]
    | succ i =>
      have := toView_get l r (k + 1) i
      rw [show k + 1 + i = k + (i + 1) by omega] at this
      simpa [toView] using this
theorem viewS_blk (l : List Nat) (s : St) (n : Nat) : (viewS l s).fs.blk n = vwB (l.contains n) (s.fs.blk n) := by
  have := toView_get l s.mem 0 n
  rw [Nat.zero_add] at this
  exact this
theorem vwB_some {t : Bool} {b : Option Blk} {c : Blk} (h : vwB t b = some c) : ∃ b', b = some b' ∧ ((c = b' ∧ t = false) ∨ (c = ⟨vwK b'.kind, b'.cs⟩ ∧ t = true)) := by
  unfold vwB at h
  split at h
  · exact ⟨_, rfl, .inr ⟨by simpa using h.symm, rfl⟩⟩
  · rename_i hn
    cases b with
    | none => cases h
    | some b' =>
      cases t with
      | true => exact absurd rfl (hn b' rfl)
      | false => exact ⟨b', rfl, .inl ⟨by simpa using h.symm, rfl⟩⟩
theorem vwK_own (k : BK) (cs : Cs) : (Blk.own ⟨vwK k, cs⟩) = false := by cases k <;> rfl
theorem vwK_live {k : BK} {cs cs' : Cs} (h : Blk.live ⟨vwK k, cs⟩ = true) : Blk.live ⟨k, cs'⟩ = true := by cases k <;> first | rfl | exact h
theorem BlkOk.view {ρ : Nat → Option Pl} {B : Nat → Prop} {w : World} {n : Nat} {b : Blk} (h : BlkOk ρ B w n b) : BlkOk ρ B w n ⟨vwK b.kind, b.cs⟩ := by
  obtain ⟨kd, cs⟩ := b
  have cell : ∀ (g k : Nat) (arr : Array Value) (e z v), w.heap[g]? = some (.cells arr e z) → arr[k]? = some v → w.cell? ⟨g, 0 + k, none⟩ = some v := fun g k arr e z v h1 h2 => by
    rw [Nat.zero_add]
    simp only [World.cell?, h1]
    exact h2
  cases kd with
  | dead => trivial
  | view => exact h
  | box =>
    obtain ⟨g, h1, h2, cs', e, h3, h4, h5⟩ := h
    refine .inr ⟨g, 0, none, h1, .inl rfl, heap_lt h3, fun k v hv => ?_⟩
    obtain ⟨v', k1, k2⟩ := h5 k v hv
    exact ⟨v', cell _ _ _ _ _ _ h3 k1, k2⟩
  | row e sz =>
    rcases h with ⟨p, h1, h2, h3⟩ | ⟨g, cap, h1, h2, cs', h3, h4, h5⟩
    · exact .inl ⟨p, h1, h2, 0, h3⟩
    · refine .inr ⟨g, 0, some cap, h1, .inl rfl, heap_lt h3, fun k v hv => ?_⟩
      obtain ⟨v', k1, k2⟩ := h5 k v hv
      exact ⟨v', cell _ _ _ _ _ _ h3 k1, k2⟩
theorem view_conc {l : List Nat} {s : St} {w0 : Start} {a : Act} {w : World} (hc : Conc w0 s.fs a w) : Conc w0 (viewS l s).fs a w := by
  obtain ⟨c1, c2, c3, ρ, ht, hm⟩ := hc
  refine ⟨c1, c2, c3, ρ, ht, hm.ext, fun n hn => ?_, fun n b hn => ?_, fun n n' b b' p p' hn ho hn' hl hne => ?_⟩
  · rw [viewS_blk] at hn
    refine hm.fresh n ?_
    rcases hb : s.fs.blk n with _ | b
    · rfl
    · rw [hb] at hn
      cases hc : l.contains n <;> rw [hc] at hn <;> cases hn
  · rw [viewS_blk] at hn
    obtain ⟨b', h1, ⟨rfl, _⟩ | ⟨rfl, _⟩⟩ := vwB_some hn
    · exact hm.ok n _ h1
    · exact (hm.ok n _ h1).view
  · rw [viewS_blk] at hn hn'
    obtain ⟨c, h1, h2⟩ := vwB_some hn
    obtain ⟨c', h1', h2'⟩ := vwB_some hn'
    have hc : b = c := by
      rcases h2 with ⟨h2, _⟩ | ⟨rfl, _⟩
      · exact h2
      · rw [vwK_own] at ho; cases ho
    have hl' : c'.live = true := by
      rcases h2' with ⟨rfl, _⟩ | ⟨rfl, _⟩
      · exact hl
      · exact vwK_live hl
    exact hm.sep n n' c c' p p' h1 (by rw [← hc]; exact ho) h1' hl' hne
def DetA (P : Program) (c : Code) (s s' : St) : Prop := ∀ w0 a w, Conc w0 s.fs a w → c.wpIn (fz w0.ro) 3 P (fun e a w => e = .normal ∧ Conc w0 s'.fs a w) a w
def asT (P : Program) (J : TabJ) (callM : CallM) : Code → (St → Tree) → St → Tree
  | .skip, k, s => k s
  | .region _ ops draw, k, s => match draw with
    | true => .bad
    | false => seqT P J callM ops.toList s.mem.length (fun s' => forceS s' k) 0 ops.toList { tmps := s.tmps, mem := s.mem ++ List.replicate (countB alStd ops.toList) none }
  | .seq x y, k, s => asT P J callM x (asT P J callM y k) s
  | _, _, _ => .bad
theorem asT_det {P : Program} {J : TabJ} {callM : CallM} (hJ : GSound P J.g) (hcallM : CallMOk P callM) {F : Ex → St → Prop} {H : Value → List (Option Blk) → Prop} : ∀ (c : Code) (k : St → Tree) (s : St), (asT P J callM c k s).ok F H → ∃ s', (k s').ok F H ∧ DetA P c s s' := by
  intro c
  induction c with
  | skip => intro k s h; exact ⟨s, h, fun w0 a w hc => wpIn_skip ⟨rfl, hc⟩⟩
  | region id ops draw =>
    intro k s h
    cases draw with
    | true => exact h.elim
    | false =>
      obtain ⟨s', h1, h2⟩ := seqT_ok hJ hcallM ops.toList 0 _ (fun j => by simp) h
      rw [forceS_eq] at h1
      refine ⟨s', h1, fun w0 a w hc => wpIn_region ?_⟩
      have := h2 w0 a w (fun e a w => e = Exit.normal ∧ Conc w0 s'.fs a w) (by rw [St.pad_fs]; exact hc) fun a' w' hcc => ⟨rfl, hcc⟩
      rw [List.range_eq_range']
      simpa using this
  | seq x y ihx ihy =>
    intro k s h
    obtain ⟨s1, h1, h2⟩ := ihx _ s h
    obtain ⟨s2, h3, h4⟩ := ihy _ s1 h1
    refine ⟨s2, h3, fun w0 a w hc => wpIn_seq (wpIn_mono (h2 w0 a w hc) ?_)⟩
    rintro e a' w' ⟨rfl, hcc⟩
    exact h4 w0 a' w' hcc
  | _ => intro k s h; exact h.elim
def putL : List (Nat × Value) → List Value → List Value
  | [], t => t
  | (p, v) :: r, t => putL r (t.set p v)
theorem putL_ok {ρ : Nat → Option Pl} : ∀ (l : List (Nat × Value)) (T : List Value) (t : Array Value), T.length = t.size → (∀ j, VR ρ (T.getD j undef) (t.getD j undef)) → (∀ q ∈ l, plainV q.2 = true) →
    (putL l T).length = (l.foldl (fun t q => t.setIfInBounds q.1 q.2) t).size ∧ (∀ j, VR ρ ((putL l T).getD j undef) ((l.foldl (fun t q => t.setIfInBounds q.1 q.2) t).getD j undef))
  | [], T, t, h1, h2, _ => ⟨h1, h2⟩
  | (p, v) :: r, T, t, h1, h2, h3 => by
    refine putL_ok r (T.set p v) (t.setIfInBounds p v) (by simpa using h1) (fun j => ?_) fun q hq => h3 q (List.mem_cons_of_mem _ hq)
    by_cases hj : p = j
    · subst hj
      by_cases hlt : p < T.length
      · have e1 : (T.set p v).getD p undef = v := by simp [hlt]
        have e2 : (t.setIfInBounds p v).getD p undef = v := by
          have : p < t.size := by omega
          simp [this]
        rw [e1, e2]
        exact .lit (h3 _ (List.mem_cons_self ..))
      · have e1 : (T.set p v).getD p undef = T.getD p undef := by simp [List.getElem?_eq_none (by simpa using Nat.le_of_not_lt hlt : (T.set p v).length ≤ p), List.getElem?_eq_none (Nat.le_of_not_lt hlt)]
        have e2 : (t.setIfInBounds p v).getD p undef = t.getD p undef := by
          have : ¬ p < t.size := by omega
          simp [this]
        rw [e1, e2]
        exact h2 p
    · have e1 : (T.set p v).getD j undef = T.getD j undef := by simp [hj]
      have e2 : (t.setIfInBounds p v).getD j undef = t.getD j undef := by simp [Array.getElem?_setIfInBounds_ne hj]
      rw [e1, e2]
      exact h2 j
def nonC (w : World) (k : Nat) : Prop := ∃ o, w.heap[k]? = some o ∧ o.isCells = false
def gsOf (s : FS) (ρ : Nat → Option Pl) (Kn : List Nat) (g : Nat) : Prop := ∃ n ∈ Kn, ∃ b p, s.blk n = some b ∧ b.live = true ∧ ρ n = some p ∧ ¬ nilPl p ∧ p.1 = g
def KpG (G : Nat → Prop) (W W' : World) : Prop := W.heap.size ≤ W'.heap.size ∧ ∀ g, G g → W'.heap[g]? = W.heap[g]?
def Iter (P : Program) (gf : FuncId) (lb : Array Value) (len : Nat) (enc : Nat → List Value) (G : Nat → Prop) (w : World) : Prop :=
  ∀ (l : Nat) (J : Nat → World → Prop) (Jx : World → Prop) (W : World), (∀ g, G g → W.heap[g]? = w.heap[g]?) → w.heap.size ≤ W.heap.size →
    (∀ i W1 W2, J i W1 → W1.grownBy W2 none → J i W2) → (∀ W1 W2, Jx W1 → W1.grownBy W2 none → Jx W2) →
    (∀ i W1, J i W1 → i < len → YieldAt Fence.wide 2 P l (enc i).toArray W1 fun e W2 => (e = .returned (.bool true) ∧ J (i + 1) W2 ∧ KpG G W1 W2) ∨ (e = .returned (.bool false) ∧ Jx W2)) →
    J 0 W → CallsIn Fence.wide 2 P gf (#[.func (.yield l) #[] #[]] ++ lb) W fun e W2 => (∃ v, e = .returned v) ∧ (J len W2 ∨ Jx W2)
theorem BelowK.less {K K' : Nat → Prop} {w w' : World} (h : BelowK K w w') (hk : ∀ k, K' k → K k) : BelowK K' w w' := ⟨h.os, h.tape, h.output, h.size, fun k hk' => h.block k (hk k hk')⟩
theorem BelowK.putObj {K : Nat → Prop} {w w' : World} (h : BelowK K w w') {l : Nat} (o : Obj) (hl : ¬ K l) : BelowK K w (w'.putObj l o) := h.trans ⟨rfl, rfl, rfl, by simp, fun k hk => World.putObj_heap_other (fun e => hl (by rw [← e]; exact hk))⟩
theorem BelowK.grown {K : Nat → Prop} {w w' w'' : World} (h : BelowK K w w') (hK : ∀ k, K k → k < w.heap.size) (hg : w'.grownBy w'' none) : BelowK K w w'' := h.trans ⟨hg.os, hg.tape, hg.output, hg.size, fun k hk => hg.block k (Nat.lt_of_lt_of_le (hK k hk) h.size) (by simp)⟩
theorem Conc.grown {w0 : Start} {s : FS} {a : Act} {w w' : World} (h : Conc w0 s a w) (hg : w.grownBy w' none) : Conc w0 s a w' := by
  obtain ⟨c1, c2, c3, ρ, ht, hm⟩ := h
  exact ⟨c1, c2, c3.grown w0.kpl hg, ρ, ht, hm.grown hg.size fun k o ho _ => hg.block k (heap_lt ho) (by simp)⟩
theorem Conc.putObj {w0 : Start} {s : FS} {a : Act} {w : World} (h : Conc w0 s a w) {l : Nat} {o : Obj} (o' : Obj) (hl : ¬ w0.kp l) (ho : w.heap[l]? = some o) (hc : o.isCells = false) : Conc w0 s a (w.putObj l o') := by
  obtain ⟨c1, c2, c3, ρ, ht, hm⟩ := h
  refine ⟨c1, c2, c3.putObj o' hl, ρ, ht, hm.grown (by simp) fun k o2 ho2 hc2 => World.putObj_heap_other fun e => ?_⟩
  rw [e, ho] at ho2
  cases ho2
  rw [hc] at hc2
  cases hc2
def exCode : Ex → Code
  | .normal => .skip
  | .exit id => .exit id
  | .ret => .ret
def RoundOk (P : Program) (assign body : Code) (pv : Nat → List (Nat × Value)) (St_of : Nat → St) (Good : Nat → Prop) (re : Ex) (rs : St) (N M : Nat) (keep : Ex → List Nat) (i : Nat) : Prop :=
  ∃ s1 e' s', DetA P assign { tmps := putL (pv i) (St_of i).tmps, mem := (St_of i).mem } s1 ∧ Det P body s1 e' s' ∧ match e' with
    | .normal => Good (i + 1) ∧ ∃ π, WS N π (cutS M (keep .normal) { tmps := (St_of i).tmps, mem := s'.mem }) (St_of (i + 1))
    | e => e = re ∧ ∃ π, WS N π (cutS M (keep e) { tmps := (St_of i).tmps, mem := s'.mem }) rs
section
variable {P : Program} {ps : List Nat} {assign body : Code} {enc : Nat → List Value} {St_of : Nat → St} {Good : Nat → Prop} {re : Ex} {rs : St} {N M len : Nat} {keep : Ex → List Nat}
def recOf (fn : FuncId) (tmps : Array Value) (ps : List Nat) (assign body : Code) (D : Nat) (st : LoopState) (pe : Option Code) : Loop := { state := st, pending := pe, fn := fn, tmps := tmps, params := ps.toArray, assign := assign, body := body, defers := D }
theorem range_round (hps : ∀ i, (enc i).length = ps.length) (hpl : ∀ i, (enc i).all plainV = true) (hround : ∀ i, Good i → i < len → RoundOk P assign body (fun i => ps.zip (enc i)) St_of Good re rs N M keep i)
    {w2 : Start} {a : Act} {fn : FuncId} {D l : Nat} {X : World → Prop} (hX : ∀ W W', X W → (∀ k, nonC W k → k ≠ l → W'.heap[k]? = W.heap[k]?) → X W') (hl : w2.heap.size ≤ l) {G : Nat → Prop} (hG : ∀ g, G g → w2.kp g)
    (hdom : ∀ n, N ≤ n → w2.ρ0 n = none) (hdomM : ∀ n, M ≤ n → w2.ρ0 n = none)
    {i : Nat} {W : World} (hg : Good i) (hlt : i < len) (hc : Conc w2 (St_of i).fs a W) (hL : W.heap[l]? = some (.loop (recOf fn a.tmps ps assign body D .ready none))) (hXW : X W) :
    YieldAt Fence.wide 2 P l (enc i).toArray W fun e W2 =>
      (e = .returned (.bool true) ∧ (Good (i + 1) ∧ Conc w2 (St_of (i + 1)).fs a W2 ∧ W2.heap[l]? = some (.loop (recOf fn a.tmps ps assign body D .ready none)) ∧ X W2) ∧ KpG G W W2) ∨
      (e = .returned (.bool false) ∧ ∃ e', e' ≠ .normal ∧ e' = re ∧ Conc w2 rs.fs a W2 ∧ W2.heap[l]? = some (.loop (recOf fn a.tmps ps assign body D .done (some (exCode e')))) ∧ X W2) := by
  obtain ⟨s1, e', s', hA, hB, hend⟩ := hround i hg hlt
  have hy := run_yield (P := P) (args := (enc i).toArray) hL (by simp [recOf, hps i])
  refine ⟨fn, _, assign, body, hy, roundIn_of_wpIn trivial ?_⟩
  obtain ⟨c1, c2, c3, ρ, ht, hm⟩ := hc
  have hkl : ¬ w2.kp l := fun h => by have := w2.kpl l h; omega
  have hlW : l < W.heap.size := heap_lt hL
  let wa : Start := ⟨W, ρ, fun k => k < W.heap.size ∧ (w2.kp k ∨ nonC W k), fun k h => h.1, [], some l⟩
  have hma : MemOk ρ ρ wa.kp (St_of i).fs.blk W := hm.rebase.other fun n b p cs e z hn ho hp hnp hh hk => by
    rcases hk.2 with h | ⟨o, h1, h2⟩
    · exact h
    · rw [hh] at h1
      cases h1
      cases h2
  obtain ⟨q1, q2⟩ := putL_ok (ρ := ρ) (ps.zip (enc i)) (St_of i).tmps a.tmps c2.symm (fun j => ht j) (fun q hq => by
    have := List.all_eq_true.1 (hpl i) q.2 (List.of_mem_zip (show (q.1, q.2) ∈ ps.zip (enc i) from hq)).2
    exact this)
  have efold : ((recOf fn a.tmps ps assign body D .ready none).params.zip (enc i).toArray).foldl (fun tmps (t, v) => tmps.setIfInBounds t v) a.tmps = (ps.zip (enc i)).foldl (fun t q => t.setIfInBounds q.1 q.2) a.tmps := by
    simp [recOf, ← Array.foldl_toList]
  have hca : Conc wa (St.fs { tmps := putL (ps.zip (enc i)) (St_of i).tmps, mem := (St_of i).mem }) { tmps := ((recOf fn a.tmps ps assign body D .ready none).params.zip (enc i).toArray).foldl (fun tmps (t, v) => tmps.setIfInBounds t v) a.tmps, defers := [] } W := by
    rw [efold]
    exact ⟨rfl, q1.symm, BelowK.refl _ _, ρ, q2, hma⟩
  refine wpIn_n (wpIn_mono (hA wa _ W hca) ?_)
  rintro e a1 W1 ⟨rfl, d1, d2, d3, ρ1, dt, dm⟩
  have hkl1 : wa.kp l := ⟨hlW, .inr ⟨_, hL, rfl⟩⟩
  have hL1 : W1.heap[l]? = some (.loop (recOf fn a.tmps ps assign body D .ready none)) := (d3.block l hkl1).trans hL
  refine ⟨_, run_beginRound hL1 rfl, ?_⟩
  have hl1 : l < W1.heap.size := heap_lt hL1
  generalize hW2 : W1.putObj l (.loop { recOf fn a.tmps ps assign body D .ready none with state := .busy }) = W2
  have hL2 : W2.heap[l]? = some (.loop (recOf fn a.tmps ps assign body D .busy none)) := by rw [← hW2]; exact World.putObj_heap_same hl1
  have hoth : ∀ k, k ≠ l → W2.heap[k]? = W1.heap[k]? := fun k hk => by rw [← hW2]; exact World.putObj_heap_other hk
  have hsz2 : W2.heap.size = W1.heap.size := by rw [← hW2]; simp
  let wb : Start := ⟨W2, ρ1, fun k => k < W2.heap.size ∧ (w2.kp k ∨ nonC W2 k), fun k h => h.1, [], some l⟩
  have dm2 : MemOk wa.ρ0 ρ1 wa.kp s1.fs.blk W2 := dm.grown (by omega) fun k o ho hc => hoth k fun e => by
    rw [e, hL1] at ho
    cases ho
    cases hc
  have hmb : MemOk ρ1 ρ1 wb.kp s1.fs.blk W2 := dm2.rebase.other fun n b p cs e z hn ho hp hnp hh hk => by
    rcases hk.2 with h | ⟨o, h1, h2⟩
    · refine ⟨Nat.lt_of_lt_of_le (w2.kpl _ h) ?_, .inl h⟩
      exact Nat.le_trans c3.size (Nat.le_refl _)
    · rw [hh] at h1
      cases h1
      cases h2
  have hcb : Conc wb s1.fs a1 W2 := ⟨d1, d2, BelowK.refl _ _, ρ1, dt, hmb⟩
  have hrec : RecOk wb := fun k hk => by
    obtain rfl : l = k := by simpa [wb] using hk
    exact ⟨⟨by show l < W2.heap.size; omega, .inr ⟨_, hL2, rfl⟩⟩, _, hL2⟩
  have hext1 : Ext ρ ρ1 := dm.ext
  refine wpIn_n (wpIn_mono (hB wb a1 W2 (Con.of hrec hcb)) ?_)
  rintro e a3 W3 ⟨rfl, _, w3, hl3, f1, f2, f3, ρ3, ft, fm⟩
  have hb3 : BelowK wb.kp W2 W3 := ⟨f3.os.trans hl3.bel.os, f3.tape.trans hl3.bel.tape, f3.output.trans hl3.bel.output, Nat.le_trans hl3.bel.size f3.size, fun k hk => (f3.block k (hl3.kp k hk)).trans (hl3.bel.block k hk)⟩
  have hL3 : W3.heap[l]? = some (.loop (recOf fn a.tmps ps assign body D .busy none)) := (hb3.block l (hrec l rfl).1).trans hL2
  have hext3 : Ext ρ1 ρ3 := by have := fm.ext; rwa [hl3.ρ0] at this
  have kp1 : ∀ k, w2.kp k → wa.kp k := fun k hk => ⟨Nat.lt_of_lt_of_le (w2.kpl k hk) c3.size, .inl hk⟩
  have sz1 : W.heap.size ≤ W2.heap.size := by rw [hsz2]; exact d3.size
  have kp2 : ∀ k, w2.kp k → wb.kp k := fun k hk => ⟨Nat.lt_of_lt_of_le (w2.kpl k hk) (Nat.le_trans c3.size sz1), .inl hk⟩
  have keep3 : ∀ k, w2.kp k → W3.heap[k]? = W.heap[k]? := fun k hk =>
    (hb3.block k (kp2 k hk)).trans ((hoth k fun e => hkl (by rw [← e]; exact hk)).trans (d3.block k (kp1 k hk)))
  have hbel : BelowK w2.kp w2.toWorld W3 := c3.trans ⟨hb3.os.trans ((by rw [← hW2]; rfl : W2.os = W1.os).trans d3.os), hb3.tape.trans ((by rw [← hW2]; rfl : W2.tape = W1.tape).trans d3.tape), hb3.output.trans ((by rw [← hW2]; rfl : W2.output = W1.output).trans d3.output), Nat.le_trans sz1 hb3.size, keep3⟩
  have hback : Conc w2 (St.fs { tmps := (St_of i).tmps, mem := s'.mem }) a W3 :=
    ⟨c1, c2, hbel, ρ3, fun t => ((ht t).ext hext1).ext hext3, MemOk.less ⟨hm.ext.trans (hext1.trans hext3), fm.fresh, fm.ok, fm.sep⟩ fun k hk => hl3.kp k (kp2 k hk)⟩
  have hX3 : X W3 := hX W W3 hXW fun k hk hne => by
    obtain ⟨o, h1, h2⟩ := hk
    have e1 : W1.heap[k]? = W.heap[k]? := d3.block k ⟨heap_lt h1, .inr ⟨o, h1, h2⟩⟩
    have e2 : W2.heap[k]? = W.heap[k]? := (hoth k hne).trans e1
    exact (hb3.block k ⟨heap_lt (e2.trans h1), .inr ⟨o, e2.trans h1, h2⟩⟩).trans e2
  have fin : ∀ (pe : Option Code) (st : LoopState), X (W3.putObj l (.loop (recOf fn a.tmps ps assign body D st pe))) := fun pe st => hX W3 _ hX3 fun k _ hne => World.putObj_heap_other hne
  have hl3' : l < W3.heap.size := heap_lt hL3
  cases e' with
  | normal =>
    obtain ⟨g1, π, g2⟩ := hend
    have hn := weak_conc g2 hdom (cut_conc hdomM hback)
    refine ⟨_, _, run_endRound none hL3, .inl ⟨rfl, ⟨g1, ?_, ?_, ?_⟩, ?_⟩⟩
    · exact hn.putObj _ hkl hL3 rfl
    · exact World.putObj_heap_same hl3'
    · exact fin none .ready
    · exact ⟨by rw [World.putObj_size]; exact Nat.le_trans sz1 hb3.size, fun g hgg => (World.putObj_heap_other (fun e => hkl (by rw [← e]; exact hG g hgg))).trans (keep3 g (hG g hgg))⟩
  | exit id =>
    obtain ⟨g1, π, g2⟩ := hend
    have hn := weak_conc g2 hdom (cut_conc hdomM hback)
    exact ⟨_, _, run_endRound (some (.exit id)) hL3, .inr ⟨rfl, .exit id, by simp, g1, hn.putObj _ hkl hL3 rfl, World.putObj_heap_same hl3', fin (some (.exit id)) .done⟩⟩
  | ret =>
    obtain ⟨g1, π, g2⟩ := hend
    have hn := weak_conc g2 hdom (cut_conc hdomM hback)
    exact ⟨_, _, run_endRound (some .ret) hL3, .inr ⟨rfl, .ret, by simp, g1, hn.putObj _ hkl hL3 rfl, World.putObj_heap_same hl3', fin (some .ret) .done⟩⟩
set_option maxHeartbeats 1000000 in
theorem range_det (hps : ∀ i, (enc i).length = ps.length) (hpl : ∀ i, (enc i).all plainV = true) (hround : ∀ i, Good i → i < len → RoundOk P assign body (fun i => ps.zip (enc i)) St_of Good re rs N M keep i)
    {gt : Tmp} {Kn : List Nat} {gf : FuncId} {cap : List Value} (hent : enters P gf) (hT : (St_of 0).tmps.getD gt undef = .func (.func gf) #[] cap.toArray)
    (hK : ∀ n ∈ Kn, ∀ b, (St_of 0).fs.blk n = some b → b.own = false)
    (hiter : ∀ (ρ0 ρ : Nat → Option Pl) (B : Nat → Prop) (w : World) (lb : Array Value), VRs ρ cap lb → MemOk ρ0 ρ B (St_of 0).fs.blk w → Iter P gf lb len enc (gsOf (St_of 0).fs ρ Kn) w)
    {kf : List Nat} (hfin : Good len → re = .normal ∧ ∃ π, WS N π (cutS M kf (St_of len)) rs) {s : St} {π : List (Option Nat)} (hN : s.mem.length = N) (hNM : N ≤ M) (hs : WS N π (viewS Kn s) (St_of 0)) (hg0 : Good 0) :
    Det P (.rangeFunc (.tmp gt) ps.toArray assign body) s re rs := by
  rintro w0 a w ⟨hr, w1, hlat, hc⟩
  have hr1 := hr.later hlat
  have hρ : ∀ n, N ≤ n → w1.ρ0 n = none := fun n hn => conc_dom hc n (by omega)
  have hρM : ∀ n, M ≤ n → w1.ρ0 n = none := fun n hn => hρ n (by omega)
  have c0 : Conc w1 (St_of 0).fs a w := weak_conc hs hρ (view_conc hc)
  obtain ⟨d1, d2, d3, ρ, ht, hm⟩ := c0
  have hGl : ∀ g, gsOf (St_of 0).fs ρ Kn g → g < w.heap.size := by
    rintro g ⟨n, hn, b, p, h1, h2, h3, h4, rfl⟩
    exact ((hm.ok n b h1).real h2 h3 h4).1
  have hlb0 := ht gt
  rw [show (St_of 0).fs.tmp gt = .func (.func gf) #[] cap.toArray from hT] at hlb0
  obtain ⟨f', lb, hgv, hf', hlb⟩ := hlb0.func_inv
  have hf0 : f' = #[] := Array.eq_empty_of_size_eq_zero (by simpa using hf'.1.symm)
  rw [hf0] at hgv
  have hit := hiter w1.ρ0 ρ w1.kp w lb (by simpa using hlb) hm
  generalize hGd : gsOf (St_of 0).fs ρ Kn = G at hGl hit
  let w2 : Start := ⟨w, w1.ρ0, fun k => k < w.heap.size ∧ (w1.kp k ∨ G k ∨ nonC w k), fun k h => h.1, w1.df, w1.ro⟩
  have l12 : Later w1 w2 := ⟨rfl, rfl, fun k hk => ⟨Nat.lt_of_lt_of_le (w1.kpl k hk) d3.size, .inl hk⟩, d3, [], rfl, List.nodup_nil, fun D hD => by cases hD⟩
  have hm2 : MemOk w1.ρ0 ρ w2.kp (St_of 0).fs.blk w := hm.other fun n b p cs e z hn ho hp hnp hh hk => by
    rcases hk.2 with h | h | ⟨o, h1, h2⟩
    · exact h
    · exfalso
      rw [← hGd] at h
      obtain ⟨n', hn', b', p', h1, h2, h3, h4, h5⟩ := h
      have hne : n ≠ n' := fun e => by
        subst e
        have := hK n hn' b hn
        rw [ho] at this
        cases this
      exact hm.sep n n' b b' p p' hn ho h1 h2 hne hp h3 hnp h4 h5.symm
    · rw [hh] at h1
      cases h1
      cases h2
  have c2 : Conc w2 (St_of 0).fs a w := ⟨d1, d2, BelowK.refl _ _, ρ, ht, hm2⟩
  have hkl : ∀ l, w.heap.size ≤ l → ¬ w2.kp l := fun l hl h => by have := h.1; omega
  have final : ∀ (mk : List Nat) (W : World), Conc w2 rs.fs a W → mk.Nodup → (∀ D ∈ mk, w.heap.size ≤ D ∧ W.heap[D]? = some (.deferred (some []))) → Con w1 rs.fs { a with defers := mk.map mkDf ++ a.defers } W := by
    rintro mk W ⟨e1, e2, e3, ρ', et, em⟩ hnd hmk
    let w3 : Start := ⟨W, w1.ρ0, fun k => k < W.heap.size ∧ (w2.kp k ∨ k ∈ mk), fun k h => h.1, mk.map mkDf ++ w1.df, w1.ro⟩
    have l23 : Later w2 w3 := ⟨rfl, rfl, fun k hk => ⟨Nat.lt_of_lt_of_le (w2.kpl k hk) e3.size, .inl hk⟩, e3, mk, rfl, hnd, fun D hD => ⟨hkl D (hmk D hD).1, (hmk D hD).1, ⟨heap_lt (hmk D hD).2, .inr hD⟩, (hmk D hD).2⟩⟩
    refine ⟨hr1, w3, l12.trans l23, by show _ = mk.map mkDf ++ w1.df; rw [← show a.defers = w1.df from e1], e2, BelowK.refl _ _, ρ', et, em.other fun n b p cs e z hn ho hp hnp hh hk => ?_⟩
    rcases hk.2 with h | h
    · exact h
    · rw [(hmk _ h).2] at hh
      cases hh
  have calls : ∀ (mk : List Nat) (l D : Nat) (fn : FuncId) (W1 : World), w.heap.size ≤ l → w.grownBy W1 none → W1.heap[l]? = some (.loop (recOf fn a.tmps ps assign body D .ready none)) → mk.Nodup → (∀ D ∈ mk, w.heap.size ≤ D ∧ D ≠ l ∧ W1.heap[D]? = some (.deferred (some []))) →
      CallsIn (fz w1.ro) 2 P gf (#[.func (.yield l) #[] #[]] ++ lb) W1 (rangePost (fz w1.ro) 3 P l (fun e a w => e = re.out ∧ Con w1 rs.fs a w) { a with defers := mk.map mkDf ++ a.defers }) := by
    intro mk l D fn W1 hl hW hL hnd hmk
    have hXk : ∀ W W' : World, (∀ D ∈ mk, W.heap[D]? = some (.deferred (some []))) → (∀ k, nonC W k → k ≠ l → W'.heap[k]? = W.heap[k]?) → ∀ D ∈ mk, W'.heap[D]? = some (.deferred (some [])) := fun W W' h hk D' hD' => (hk D' ⟨_, h D' hD', rfl⟩ (hmk D' hD').2.1).trans (h D' hD')
    have base := hit l (fun i W => Good i ∧ Conc w2 (St_of i).fs a W ∧ W.heap[l]? = some (.loop (recOf fn a.tmps ps assign body D .ready none)) ∧ ∀ D ∈ mk, W.heap[D]? = some (.deferred (some [])))
      (fun W => ∃ e', e' ≠ .normal ∧ e' = re ∧ Conc w2 rs.fs a W ∧ W.heap[l]? = some (.loop (recOf fn a.tmps ps assign body D .done (some (exCode e')))) ∧ ∀ D ∈ mk, W.heap[D]? = some (.deferred (some []))) W1
      (fun g hg => hW.block g (hGl g hg) (by simp)) hW.size
      (fun i W W' ⟨g, c, hl', hx⟩ hgr => ⟨g, c.grown hgr, (hgr.block l (heap_lt hl') (by simp)).trans hl', hXk W W' hx fun k ⟨o, hk, _⟩ _ => hgr.block k (heap_lt hk) (by simp)⟩)
      (fun W W' ⟨e', q1, q2, c, hl', hx⟩ hgr => ⟨e', q1, q2, c.grown hgr, (hgr.block l (heap_lt hl') (by simp)).trans hl', hXk W W' hx fun k ⟨o, hk, _⟩ _ => hgr.block k (heap_lt hk) (by simp)⟩)
      (fun i W ⟨g, c, hl', hx⟩ hlt => range_round (w2 := w2) (G := G) (X := fun W => ∀ D ∈ mk, W.heap[D]? = some (.deferred (some []))) hps hpl hround hXk hl (fun g hg => ⟨hGl g hg, .inr (.inl hg)⟩) hρ hρM g hlt c hl' hx)
      ⟨hg0, c2.grown hW, hL, fun D hD => (hmk D hD).2.2⟩
    have base' : CallsIn (fz w1.ro) 2 P gf (#[.func (.yield l) #[] #[]] ++ lb) W1 _ := base
    refine base'.mono ?_
    rintro e W2 ⟨⟨v, rfl⟩, ⟨g, c, hl', hx⟩ | ⟨e', hne, he, c, hl', hx⟩⟩
    · obtain ⟨hre, π', g2⟩ := hfin g
      refine ⟨none, _, run_endLoop hl' (by simp [recOf]), by rw [hre]; rfl, final mk _ ((weak_conc (w0 := w2) g2 hρ (cut_conc (w0 := w2) hρM c)).putObj _ (hkl l hl) hl' rfl) hnd fun D' hD' => ⟨(hmk D' hD').1, (World.putObj_heap_other (hmk D' hD').2.1).trans (hx D' hD')⟩⟩
    · have fin2 := final mk _ (c.putObj (.loop { recOf fn a.tmps ps assign body D .done (some (exCode e')) with state := .exhausted }) (hkl l hl) hl' rfl) hnd fun D' hD' => ⟨(hmk D' hD').1, (World.putObj_heap_other (hmk D' hD').2.1).trans (hx D' hD')⟩
      refine ⟨some (exCode e'), _, run_endLoop hl' (by simp [recOf]), ?_⟩
      cases e' with
      | normal => exact absurd rfl hne
      | exit id => exact wpIn_exit ⟨by rw [← he]; rfl, fin2⟩
      | ret => exact wpIn_ret ⟨by rw [← he]; rfl, fin2⟩
  have hg : a.eval (.tmp gt) = .func (.func gf) #[] lb := hgv
  have main : (Code.rangeFunc (.tmp gt) ps.toArray assign body).wpIn (fz w1.ro) 3 P (fun e a w => e = re.out ∧ Con w1 rs.fs a w) a w := by
    refine wpIn_rangeFunc fun fn hfn => ?_
    have hres : ∀ (l : Nat) (W : World), (resolve a.eval (rangeCall (.tmp gt) l) 0).run P W = .ok { target := .fn (.func gf) lb, args := #[.func (.yield l) #[] #[]] } W := fun l W => by
      simp only [resolve, hg]
      simp [go_sem]
    have hinv : ∀ (l : Nat) (W : World), (invoke (.fn (.func gf) lb) #[.func (.yield l) #[] #[]]).run P W = .ok (.enter gf (#[.func (.yield l) #[] #[]] ++ lb)) W := fun l W => by
      simp only [invoke]
      exact hent _ _
    have close : ∀ (mk : List Nat) (l D : Nat) (W1 : World), (Instr.enterLoop fn a.tmps ps.toArray assign body w1.ro).run P w = .ok (l, mk.map mkDf) W1 →
        CallsIn (fz w1.ro) 2 P gf (#[.func (.yield l) #[] #[]] ++ lb) W1 (rangePost (fz w1.ro) 3 P l (fun e a w => e = re.out ∧ Con w1 rs.fs a w) { a with defers := mk.map mkDf ++ a.defers }) →
        ∃ (l : Nat) (mark : List Deferred) (w₁ : World) (d : Deferred) (w₁' : World) (f : FuncId) (args : Array Value) (w₂ : World),
          (Instr.enterLoop fn a.tmps ps.toArray assign body (fz w1.ro).round).run P w = .ok (l, mark) w₁ ∧
          (resolve a.eval (rangeCall (.tmp gt) l) 0).run P w₁ = .ok d w₁' ∧
          (∀ f', Target.leads P w₁' d.target d.args = some f' → (fz w1.ro).fn f') ∧
          (invoke d.target d.args).run P w₁' = .ok (.enter f args) w₂ ∧
          ((fz w1.ro).depth.isSome = true → 1 ≤ 3) ∧
          CallsIn (fz w1.ro) (3 - 1) P f args w₂ (rangePost (fz w1.ro) 3 P l (fun e a w => e = re.out ∧ Con w1 rs.fs a w) { a with defers := mark ++ a.defers }) :=
      fun mk l D W1 h1 h2 => ⟨l, mk.map mkDf, W1, _, W1, gf, _, W1, h1, hres l W1, fun _ _ => trivial, hinv l W1, fun h => (by cases h), h2⟩
    rcases hro : w1.ro with _ | l₀
    · have hgr : w.grownBy ((w.alloc (.deferred (some []))).alloc (.loop (recOf fn a.tmps ps assign body w.heap.size .ready none))) none :=
        ⟨rfl, rfl, rfl, by simp; omega, fun k hk _ => (Below.heap_alloc _ _ k (by simp; omega)).trans (Below.heap_alloc _ _ k hk)⟩
      have hL := World.alloc_heap_new (w.alloc (.deferred (some []))) (.loop (recOf fn a.tmps ps assign body w.heap.size .ready none))
      rw [World.size_alloc] at hL
      have hD : ((w.alloc (.deferred (some []))).alloc (.loop (recOf fn a.tmps ps assign body w.heap.size .ready none))).heap[w.heap.size]? = some (.deferred (some [])) :=
        (Below.heap_alloc _ _ _ (by simp)).trans (World.alloc_heap_new w _)
      have hent1 : (Instr.enterLoop fn a.tmps ps.toArray assign body w1.ro).run P w = .ok (w.heap.size + 1, [w.heap.size].map mkDf) ((w.alloc (.deferred (some []))).alloc (.loop (recOf fn a.tmps ps assign body w.heap.size .ready none))) := by
        rw [hro]
        exact run_enterLoop_outer _ _ _ _ _
      generalize (w.alloc (.deferred (some []))).alloc (.loop (recOf fn a.tmps ps assign body w.heap.size .ready none)) = W1 at hgr hL hD hent1
      have := close [w.heap.size] (w.heap.size + 1) w.heap.size W1 hent1 (calls [w.heap.size] (w.heap.size + 1) w.heap.size fn W1 (by omega) hgr hL (by simp) (by
        intro D hD'
        obtain rfl : D = w.heap.size := by simpa using hD'
        exact ⟨Nat.le_refl _, by omega, hD⟩))
      rwa [hro] at this
    · obtain ⟨hk, r₀, hr₀⟩ := hr1 l₀ hro
      have hr₀ : w.heap[l₀]? = some (.loop r₀) := (d3.block l₀ hk).trans hr₀
      have hgr : w.grownBy (w.alloc (.loop (recOf fn a.tmps ps assign body r₀.defers .ready none))) none := World.grownBy_alloc w _ none
      have hL := World.alloc_heap_new w (.loop (recOf fn a.tmps ps assign body r₀.defers .ready none))
      have hent1 : (Instr.enterLoop fn a.tmps ps.toArray assign body w1.ro).run P w = .ok (w.heap.size, ([] : List Nat).map mkDf) (w.alloc (.loop (recOf fn a.tmps ps assign body r₀.defers .ready none))) := by
        rw [hro]
        exact run_enterLoop_inner hr₀ _ _ _ _ _
      generalize w.alloc (.loop (recOf fn a.tmps ps assign body r₀.defers .ready none)) = W1 at hgr hL hent1
      have := close [] w.heap.size r₀.defers W1 hent1 (calls [] w.heap.size r₀.defers fn W1 (Nat.le_refl _) hgr hL List.nodup_nil (fun D hD => by cases hD))
      rwa [hro] at this
  have := wpIn_mono main fun e a w ⟨he, hc⟩ => (⟨he, hc.later hr hlat⟩ : e = re.out ∧ Con w0 rs.fs a w)
  rwa [hlat.ro] at this
end
def bodyR (P : Program) (E : Env) (m n : Nat) (lt : LT) (rt : RT) (asg bod : Code) (pv : List (Nat × Value)) (keep : Ex → List Nat) (M : Nat) (s : St) : Tree :=
  asT P E.J (runM P E m n) asg (fun s1 => runN P E.R E.J (asK P E (runM P E m n)) (runM P E m n) lt rt m bod 0 (fun e s' => .leaf e (cutS M (keep e) { tmps := s.tmps, mem := s'.mem })) s1) { tmps := putL pv s.tmps, mem := s.mem }
def RoundEndR (N : Nat) (St_of : Nat → St) (Good : Nat → Prop) (re : Ex) (rs : St) (i : Nat) (e : Ex) (s : St) : Prop :=
  match e with
  | .normal => Good (i + 1) ∧ ∃ π, WS N π s (St_of (i + 1))
  | e => e = re ∧ ∃ π, WS N π s rs
theorem bodyR_ok {P : Program} (hm : P.follows .mixedOrders = true) {E : Env} (hE : EnvOk P E) {m n : Nat} {lt : LT} {rt : RT} {asg bod : Code} {pv : Nat → List (Nat × Value)} {St_of : Nat → St} {Good : Nat → Prop} {re : Ex} {rs : St} {N M i : Nat} {keep : Ex → List Nat}
    (hL : LoopsGood P lt 0 bod) (hR : RangesGood P rt bod) (h : (bodyR P E m n lt rt asg bod (pv i) keep M (St_of i)).ok (RoundEndR N St_of Good re rs i) (fun _ _ => False)) : RoundOk P asg bod pv St_of Good re rs N M keep i := by
  obtain ⟨s1, h1, h2⟩ := asT_det hE.J (runM_ok hm hE m n) asg _ _ h
  obtain ⟨e', s', h3, h4⟩ := runN_det hE.R hE.J (asK_ok hE (runM_ok hm hE m n)) (runM_ok hm hE m n) hm bod 0 hL hR _ _ _ s1 h1
  refine ⟨s1, e', s', h2, h4, ?_⟩
  unfold Tree.ok RoundEndR at h3
  cases e' <;> exact h3
def RangeE (P : Program) (e : St → (Ex → St → Tree) → Option Tree) (c : Code) : Prop := ∀ s k t F H, e s k = some t → t.ok F H → ∃ e' s', (k e' s').ok F H ∧ Det P c s e' s'
def slotR : Code → Nat
  | .rangeFunc f _ _ _ => slotOf f
  | _ => 0
def rt1 (t : Nat) (e : St → (Ex → St → Tree) → Option Tree) : RT := fun j s k => match Nat.beq j t with
  | true => e s k
  | false => none
theorem rt1_good {P : Program} {e : St → (Ex → St → Tree) → Option Tree} {t : Nat} {c : Code} (hs : (rangesOf c).map slotR = [t]) (h : RangeE P e ((rangesOf c).getD 0 .skip)) : RangesGood P (rt1 t e) c := by
  intro d hd f ps x y hdd s k tr F H hlt ht
  unfold rt1 at hlt
  split at hlt
  rotate_left
  · cases hlt
  have hlen : (rangesOf c).length = 1 := by have := congrArg List.length hs; simpa using this
  obtain ⟨r, hr⟩ := List.length_eq_one_iff.1 hlen
  rw [hr] at hd h
  obtain rfl : d = r := by simpa using hd
  exact h s k tr F H hlt ht
def lastOk (m : Nat) (T : List (List Nat)) (n : Nat) : Bool := (List.range n).all fun j => Nat.blt j m || (List.range j).all fun i => (T.getD j []).contains i
def thenT (P : Program) (m : Nat) (ops : List Oper) (s : St) (k : St → Tree) : Tree :=
  match stepsOf (aop P failG) ops.toArray (nameOf alAll ops s.mem.length) 0 (ops.take m) { tmps := s.tmps, mem := s.mem ++ List.replicate (countB alAll ops) none } with
  | none => .bad
  | some (l, s') => match validT ops.toArray (ancOf ops) && clashAll (ancOf ops) 0 ((ops.take m).zip l) && lastOk m (ancOf ops) ops.length && Nat.ble m ops.length with
    | false => .bad
    | true => needs (condsOf l) (k s')
theorem thenT_ok {P : Program} (hm : P.follows .mixedOrders = true) {m : Nat} {ops : List Oper} {s : St} {k : St → Tree} {F : Ex → St → Prop} {H : Value → List (Option Blk) → Prop} (h : (thenT P m ops s k).ok F H) :
    ∃ s', (k s').ok F H ∧ ∀ (w0 : Start) (a : Act) (w : World) (Q : Exit → Act → World → Prop) (id : Nat), Conc w0 s.fs a w → (∀ a' w', Conc w0 s'.fs a' w' → wpOpsIn (fz w0.ro) 3 P ops.toArray Q (List.range' m (ops.length - m)) a' w') → (Code.region id ops.toArray true).wpIn (fz w0.ro) 3 P Q a w := by
  unfold thenT at h
  split at h
  · exact h.elim
  rename_i l s1 hst
  split at h
  · exact h.elim
  rename_i hchk
  simp only [Bool.and_eq_true] at hchk
  obtain ⟨⟨⟨hv, hcl⟩, hla⟩, hml⟩ := hchk
  have hml := Nat.le_of_ble_eq_true hml
  obtain ⟨hC, hk⟩ := needs_ok h
  refine ⟨s1, hk, fun w0 a w Q id hc hQ => ?_⟩
  have htl : (ops.take m).length = m := by simp [hml]
  obtain ⟨h1, h2, h3⟩ := stepsOf_spec (s0 := s.fs) (eff := fun i => ((l[i]?).map (·.1)).getD skipE) (ops.take m) 0 _ _ _ hst (fun j o h => by
    rw [List.getElem?_take] at h
    split at h
    · simpa using h
    · cases h) (fun j x hx => by simp [hx]) (by rw [St.pad_fs]; rfl)
  have hget : ∀ j o, j < m → ops.toArray[j]? = some o → (ops.take m)[j]? = some o := fun j o hj ho => by
    rw [List.getElem?_take, if_pos hj]
    simpa using ho
  have hrun : ∀ i o, i < m → ops.toArray[i]? = some o → (gop (aop P failG) ops.toArray (nameOf alAll ops s.mem.length i) o).run (sAt (dstOf ops.toArray) (fun i => ((l[i]?).map (·.1)).getD skipE) s.fs (fun _ => true) i) = some (((l[i]?).map (·.1)).getD skipE) ∧ (((l[i]?).map (·.1)).getD skipE).cond := by
    intro i o hi ho
    obtain ⟨x, k1, k2, _, _⟩ := h3 i o (hget i o hi ho)
    rw [Nat.zero_add] at k2
    rw [k2, k1]
    exact ⟨rfl, condsOf_get hC i x k1⟩
  refine region_then (aop_sound (failG_sound P)) hm hv (m := m) (by simpa using hml) (nm := nameOf alAll ops s.mem.length) hrun (fun i j oi oj hij hj hoi hoj hcl' => ?_) (fun j hj1 hj2 i hi => ?_) hc (fun a' w' hcc => ?_)
  · obtain ⟨x, k1, _, k3, k4⟩ := h3 i oi (hget i oi (by omega) hoi)
    obtain ⟨y, m1, _, m3, m4⟩ := h3 j oj (hget j oj hj hoj)
    rw [Nat.zero_add] at k3 k4 m3 m4
    have := clashAll_get ((ops.take m).zip l) 0 hcl i j (oi, x) (oj, y) hij (by rw [List.getElem?_zip_eq_some]; exact ⟨hget i oi (by omega) hoi, k1⟩) (by rw [List.getElem?_zip_eq_some]; exact ⟨hget j oj hj hoj, m1⟩)
      (by simp only [k3, k4, m3, m4]; simpa [k1, m1] using hcl')
    simpa using this
  · have := List.all_eq_true.1 hla j (by simpa using hj2)
    have hb : Nat.blt j m = false := by
      rcases hb : Nat.blt j m with _ | _
      · rfl
      · have := Nat.le_of_ble_eq_true hb
        omega
    rw [hb, Bool.false_or] at this
    have := List.all_eq_true.1 this i (by simpa using hi)
    simpa using this
  · have := hQ a' w' (by rw [h2, Nat.zero_add, htl]; exact hcc)
    simpa using this
def asgOf : Code → Code
  | .rangeFunc _ _ a _ => a
  | _ => .skip
def bodOf : Code → Code
  | .rangeFunc _ _ _ b => b
  | _ => .skip
end Go.Proofs.Ytnlciknmpjikgaa
