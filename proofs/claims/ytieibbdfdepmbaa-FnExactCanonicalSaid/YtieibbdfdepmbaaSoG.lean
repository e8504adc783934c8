/-
  slices.SortFunc at points, as an operation on a row. Written by an AI agent.
-/
import Derived.Test.YtieibbdfdepmbaaSoL
import Derived.Test.YtieibbdfdepmbaaSoC
import Derived.Test.YtieibbdfdepmbaaSrt
import Derived.Shelf.SlSortCmp.NoneTotal
namespace Go.Proofs.Ytieibbdfdepmbaa
set_option linter.all false
open Go.RowKit Go.Sort Go.Lib

def encP (p : Pt) : List Value := [.int .i64 p.1, .int .i64 p.2]
def cfP (p q : Pt) : Int := cmpQ p.1 p.2 q.1 q.2
theorem cfP_lt (p q : Pt) : ltOf cfP p q = pltB p q := by
  unfold ltOf
  rw [Bool.eq_iff_iff, pltB_iff, decide_eq_true_eq]
  unfold cfP cmpQ orI sgn
  split <;> (try split) <;> (try split) <;> (try split) <;> omega
theorem swoP : SWO (ltOf cfP) where
  irrefl x := by rw [cfP_lt]; exact plt_irr
  trans x y z h1 h2 := by rw [cfP_lt] at *; exact plt_trans h1 h2
  ntrans x y z h1 h2 := by
    rw [cfP_lt] at *
    rw [← Bool.not_eq_true, pltB_iff] at *
    omega
/-- Points in order. -/
def sortP (ps : List Pt) : List Pt := ps.mergeSort fun x y => !(pltB y x)
theorem sortP_len (ps : List Pt) : (sortP ps).length = ps.length := List.length_mergeSort _
theorem sortP_mem (ps : List Pt) (z : Pt) : z ∈ sortP ps ↔ z ∈ ps := List.mem_mergeSort
theorem sortP_up (ps : List Pt) : (sortP ps).Pairwise fun x y => pltB y x = false := by
  have := List.pairwise_mergeSort (le := fun x y => !(pltB y x)) (fun a b c h1 h2 => by
    simp only [Bool.not_eq_true', ← Bool.not_eq_true, pltB_iff] at *
    omega) (fun a b => by
    simp only [Bool.or_eq_true, Bool.not_eq_true', ← Bool.not_eq_true, pltB_iff]
    omega) ps
  exact this.imp fun h => by simpa using h
theorem sort_any (ps : List Pt) (blk cap : Nat) (w : World) (hH : HoldsK encP 2 w blk 0 ps.toArray) (hblk : blk < w.heap.size) (hsz : ps.length < 4611686018427387904) :
    Calls Try.prog 78 #[.slice (some ⟨blk, 0, none⟩) ps.length cap, .func (.func 69) #[] #[]] w fun e w' => e = .returned (.tuple #[]) ∧ ∃ n os, w' = sortWorldK encP 2 w blk 0 n (sortP ps).toArray os := by
  have eg : ∀ args w, (callFunc 69 args).run Try.prog w = .ok (.enter 69 args) w := Go.Proofs.enters_of Try.func69 (by kernel_rfl) rfl
  have h := AnyQ.slices_SortFunc_total sortPt 2 Try.isAgg32 Try.sizeOf32 encP (fun _ => rfl) (fun x v hv => by simp [encP] at hv; rcases hv with rfl | rfl <;> rfl) cfP swoP 69 #[] blk 0 cap ps.toArray w eg (fun _ _ _ _ x y => cmpPt_any _ _ _ _ _) hH hblk (by simpa using hsz) (fun x y h1 h2 => by
    rw [cfP_lt] at h1 h2
    refine Classical.byContradiction fun hne => ?_
    have := plt_tri h1 hne
    rw [h2] at this
    cases this)
  have e : (fun x y => !(ltOf cfP) y x) = fun x y => !(pltB y x) := by
    funext x y
    rw [cfP_lt]
  simp only [e] at h
  change Calls Try.prog 78 _ _ _ at h
  simpa [sortP] using h
theorem sort_none (p : Option Addr) (cap : Nat) (fv : Value) (w : World) :
    Calls Try.prog 78 #[.slice p 0 cap, fv] w fun e w' => e = .returned (.tuple #[]) ∧ w' = w := AnyF.slices_SortFunc_none sortPt p cap fv w
theorem flatK_flat (ps : List Pt) : flatK encP 2 ps.toArray = ((flat ps).map (Value.int .i64)).toArray := by
  apply Array.ext
  · simp [flat_length]
  · intro i h1 h2
    have h1' : i < ps.length * 2 := by simpa using h1
    have hq : i / 2 < ps.length := by omega
    have e := get_flatK encP 2 ps.toArray i (by simpa using h1')
    rw [getElem!_pos _ i h1] at e
    rw [e]
    have hg := flat_get ps (i / 2)
    have hd : ps.getD (i / 2) (0, 0) = ps[i / 2] := by simp [List.getD, hq]
    rw [hd] at hg
    have hp : ps.toArray[i / 2]! = ps[i / 2] := by simp [hq]
    rw [hp]
    have hl : i < (flat ps).length := by rw [flat_length]; exact h1'
    have hr : ((flat ps).map (Value.int .i64)).toArray[i] = .int .i64 ((flat ps).getD i 0) := by simp [List.getD, hl]
    rw [hr]
    rcases Nat.mod_two_eq_zero_or_one i with h | h
    · have hi : i = i / 2 * 2 := by omega
      rw [h, show (flat ps).getD i 0 = (flat ps).getD (i / 2 * 2) 0 by rw [← hi], hg.1]
      rfl
    · have hi : i = i / 2 * 2 + 1 := by omega
      rw [h, show (flat ps).getD i 0 = (flat ps).getD (i / 2 * 2 + 1) 0 by rw [← hi], hg.2]
      rfl
def soG (cf : FuncId) (args : List Value) : Rd Eff := match args with
  | [.slice (some ⟨nr, 0, none⟩) l _, .func (.func g) ⟨[]⟩ ⟨[]⟩] => .blk nr fun b => match b with
    | some ⟨.row e 2, .ints xs⟩ => (match Nat.beq g cf with
      | true => .ret ⟨.tuple #[], [(nr, ⟨.row e 2, .ints (flat (sortP (ptsA l xs)))⟩)], [xs.length = l * 2, l ≤ 1000000000]⟩
      | false => .fail)
    | _ => .fail
  | _ => .fail
theorem sw_heap (w : World) (blk n : Nat) (d : Array Pt) (os : Array Obj) : (sortWorldK encP 2 w blk 0 n d os).os = w.os ∧ (sortWorldK encP 2 w blk 0 n d os).tape = w.tape ∧ (sortWorldK encP 2 w blk 0 n d os).output = w.output ∧ w.heap.size ≤ (sortWorldK encP 2 w blk 0 n d os).heap.size ∧
    (∀ k, k < w.heap.size → k ≠ blk → (sortWorldK encP 2 w blk 0 n d os).heap[k]? = w.heap[k]?) ∧ ∀ cs e, w.heap[blk]? = some (.cells cs e (0, 0)) → (sortWorldK encP 2 w blk 0 n d os).heap[blk]? = some (.cells (putCells id 0 (flatK encP 2 d) cs) e (0, 0)) := by
  refine ⟨rfl, rfl, rfl, ?_, ?_, ?_⟩
  · simp [sortWorldK, grow, putRowK, putRow, mapBlock, ahead]
  · intro k hk hne
    simp [sortWorldK, grow, putRowK, putRow, mapBlock, ahead, Array.getElem?_append, hk]
    rw [Array.getElem_modify, if_neg (Ne.symm hne)]
  · intro cs e h
    have hk : blk < w.heap.size := (Array.getElem?_eq_some_iff.1 h).1
    have ha : (Sort.ahead w n).heap = w.heap := rfl
    simp only [sortWorldK, grow, putRowK, putRow, mapBlock, Array.getElem?_append, Array.size_modify, Array.getElem?_modify, ha, hk, if_true, h]
    rfl
theorem soG_sound {J : TabJ} (hJ : GSound Try.prog J.g) : GSound Try.prog (consJ 78 (fun _ => soG 69) J).g := by
  intro h name args s eff hr hn
  simp only [consJ] at hr
  split at hr
  rotate_left
  · exact hJ h name args s eff hr hn
  rename_i heq
  obtain rfl := Nat.eq_of_beq_eq_true heq
  refine ⟨(entersB_res (by kernel_rfl)).1, fun B ρ0 ρ w args' ha hm hB hcond => ?_⟩
  unfold soG at hr
  split at hr
  rotate_left
  · simp [Rd.run] at hr
  rename_i nr l c g
  simp only [Rd.run] at hr
  split at hr
  rotate_left
  · simp [Rd.run] at hr
  rename_i e xs hb
  split at hr
  rotate_left
  · simp [Rd.run] at hr
  rename_i hg
  obtain rfl := Nat.eq_of_beq_eq_true hg
  obtain rfl : (⟨.tuple #[], [(nr, ⟨.row e 2, .ints (flat (sortP (ptsA l xs)))⟩)], [xs.length = l * 2, l ≤ 1000000000]⟩ : Eff) = eff := by simpa [Rd.run] using hr
  obtain ⟨hxl, hl, _⟩ := hcond
  obtain ⟨ps, rfl, rfl⟩ := even_flat hxl
  rw [ptsA_flat]
  obtain ⟨hsz, hval⟩ := ha
  obtain ⟨x0, x1, rfl⟩ : ∃ x0 x1, args' = #[x0, x1] := by
    have h2 : args'.size = 2 := by simpa using hsz.symm
    match args', h2 with
    | ⟨[x0, x1]⟩, _ => exact ⟨x0, x1, rfl⟩
  have v0 := hval 0 _ x0 rfl rfl
  have v1 := hval 1 _ x1 rfl rfl
  obtain rfl := v1.plain rfl
  rw [upd_one]
  have hok := hm.ok nr _ hb
  have none_ : ∀ ad c', ps = [] → x0 = .slice ad 0 c' → Calls Try.prog 78 #[x0, .func (.func 69) #[] #[]] w fun e' w' => ∃ v' ρ', e' = .returned v' ∧ Ext ρ ρ' ∧ VR ρ' (.tuple #[]) v' ∧ BelowK B w w' ∧ MemOk ρ0 ρ' B (setB s.blk nr ⟨.row e 2, .ints (flat (sortP ps))⟩) w' := by
    rintro ad c' rfl rfl
    refine (sort_none _ _ _ _).mono ?_
    rintro e' w' ⟨rfl, rfl⟩
    refine ⟨_, ρ, rfl, Ext.refl ρ, .lit rfl, BelowK.refl _ _, ?_⟩
    have e0 : sortP [] = [] := by simp [sortP]
    rw [e0]
    rcases hok with ⟨p, k1, k2, k3⟩ | ⟨g, cap, k1, k2, cs', k3, k4, k5⟩
    · exact hm.setNil hb k1 ⟨k2, 0, k3⟩ (.inl ⟨p, k1, k2, k3⟩)
    · exact hm.set hb rfl k1 (okPl.not (.inl rfl)) (Nat.le_refl _) (fun k _ _ => rfl) (.inr ⟨g, cap, k1, k2, cs', k3, k4, k5⟩)
  rcases v0.slice_inv with ⟨g, f, cp, c', j1, jok, j2, j3, j4⟩ | ⟨hl0, _, ad, c', j2⟩ | ⟨hl0, ad, c', p, j2, _, _, _⟩
  rotate_left
  · exact none_ _ _ (List.eq_nil_of_length_eq_zero hl0) j2
  · exact none_ _ _ (List.eq_nil_of_length_eq_zero hl0) j2
  rcases hok with ⟨p, k1, k2, k3⟩ | ⟨g2, cap, k1, k2, cs', k3, k4, k5⟩
  · rw [k1] at j1
    obtain rfl : p = (g, f, cp) := by simpa using j1
    exact absurd ⟨k2, 0, k3⟩ jok.not
  rw [k1] at j1
  obtain ⟨rfl, rfl, rfl⟩ : g2 = g ∧ 0 = f ∧ some cap = cp := by simpa using j1
  subst j2
  have hcell : ∀ j, j < ps.length * 2 → cs'[j]? = some (.int .i64 ((flat ps).getD j 0)) := fun j hj => by
    have hjl : j < (flat ps).length := by rw [flat_length]; exact hj
    obtain ⟨v', h6, h7⟩ := k5 j (.int .i64 ((flat ps).getD j 0)) (by show ((flat ps).map (Value.int .i64))[j]? = _; simp [List.getD, hjl])
    rw [h7.plain rfl] at h6
    exact h6
  have hH : HoldsK encP 2 w g2 0 ps.toArray := by
    intro j hj
    have hj' : j < ps.length * 2 := by simpa using hj
    have hjl : j < (flat ps).length := by rw [flat_length]; exact hj'
    refine ⟨?_, ?_⟩
    · simp only [World.cell?, Nat.zero_add, k3, Option.isSome_none, Bool.false_eq_true, if_false, hcell j hj', flatK_flat]
      simp [List.getD, hjl]
    · simp [World.frozen?, k3]
  have hg : g2 < w.heap.size := (Array.getElem?_eq_some_iff.1 k3).1
  refine (sort_any ps g2 c' w hH hg (by omega)).mono ?_
  rintro e' w' ⟨rfl, n, os, rfl⟩
  obtain ⟨s1, s2, s3, s4, s5, s6⟩ := sw_heap w g2 n (sortP ps).toArray os
  refine ⟨_, ρ, rfl, Ext.refl ρ, .lit rfl, ⟨s1, s2, s3, s4, fun k hk => s5 k (hB k hk) fun e => k2 (e ▸ hk)⟩, ?_⟩
  refine hm.set hb rfl k1 (okPl.not (.inl rfl)) s4 (fun k hk hne => s5 k hk hne) (.inr ⟨g2, cap, k1, k2, _, s6 cs' e k3, ?_, ?_⟩)
  · simpa [putCells] using k4
  · intro k v hk
    have hk' : ((flat (sortP ps)).map (Value.int .i64))[k]? = some v := hk
    have hkl : k < ps.length * 2 := by
      have := (List.getElem?_eq_some_iff.1 hk').1
      rw [List.length_map, flat_length, sortP_len] at this
      exact this
    have hkc : k < cs'.size := (Array.getElem?_eq_some_iff.1 (hcell k hkl)).1
    refine ⟨v, ?_, ?_⟩
    · rw [flatK_flat]
      simp only [putCells, Array.getElem?_mapIdx, Array.getElem?_eq_getElem hkc, Option.map_some, Nat.zero_le, true_and, Nat.zero_add, List.size_toArray, List.length_map, flat_length, sortP_len, hkl, if_true, Nat.sub_zero, id]
      rw [← hk']
      have hkl2 : k < (flat (sortP ps)).length := by rw [flat_length, sortP_len]; exact hkl
      simp [hkl2]
    · obtain ⟨y, _, rfl⟩ := List.mem_map.1 (List.mem_of_getElem? hk')
      exact .lit rfl
end Go.Proofs.Ytieibbdfdepmbaa
