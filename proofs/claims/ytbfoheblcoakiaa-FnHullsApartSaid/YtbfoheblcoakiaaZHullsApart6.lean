/-
  Texts that the proof needs, merged. Written by an AI agent.
-/
import Derived.Orders
import Derived.Below
import Derived.OrdersIn
import Derived.Deep.LoopGhost
import Derived.WalkKit
import Derived.Laws.CopyRow
import Derived.Laws.AppendOwn
import Derived.Laws.Slices
import Derived.Laws.MakeOwn
import Derived.Test.YtbfoheblcoakiaaRows
import Derived.ProofKit
import Derived.OpenShut
import Derived.Carry
import Derived.IntWalk
import Derived.Test.YtbfoheblcoakiaaProg
import Derived.WalkSpells
import Derived.WalkLawsBesides
import Derived.Lib.Hide
import Derived.Deep.QuietTactic
import Derived.BigQuiet
import Derived.KernelRfl
import Derived.Deep.RegionHeld3
import Derived.LoopTactic
import Derived.Laws.StructEq
import Derived.Laws.Tables
import Derived.RangeFuncNested
import Derived.RangeFuncLeaves
import Derived.Deep.Slices
import Derived.Deep.Fields
import Derived.ChangeSame
import Derived.Deep.DeepCutAuto
import Derived.Shelf.SlSortCmp.WholeK
import Derived.Sort.Grow
import Derived.Shelf.SlSortCmp.NoneTotal
import Derived.Test.YtbfoheblcoakiaaZHullsApart5
set_option linter.all false
namespace Go.Proofs.Ytbfoheblcoakiaa
open Go.RowKit
set_option maxRecDepth 100000 in
theorem tr_cln (ps : List Pt) : bodyX Try.prog (tabE B0) 30 12 73 [.row ps.length (.ints (flat ps))] = .need ((0 : Nat) < ps.length) (.need (((0 : Nat) + (ps.length, Cs.ints (List.take (ps.length * Try.prog.types[(32 : Nat)].size) (List.drop 0 (flat ps))), [(0 : Nat) + ps.length * Try.prog.types[(32 : Nat)].size ≤ (flat ps).length]).fst) * (16 : Nat) ≤ (140737488355328 : Nat) ∧ (0 : Nat) + (ps.length, Cs.ints (List.take (ps.length * Try.prog.types[(32 : Nat)].size) (List.drop 0 (flat ps))), [(0 : Nat) + ps.length * Try.prog.types[(32 : Nat)].size ≤ (flat ps).length]).fst ≤ (2000000 : Nat)) (.need ((0 : Nat) + ps.length * (2 : Nat) ≤ (flat ps).length) (.fin (ß 2 (0 + (ps.length, Cs.ints (List.take (ps.length * Try.prog.types[32].size) (List.drop 0 (flat ps))), [0 + ps.length * Try.prog.types[32].size ≤ (flat ps).length]).fst) (0 + (ps.length, Cs.ints (List.take (ps.length * Try.prog.types[32].size) (List.drop 0 (flat ps))), [0 + ps.length * Try.prog.types[32].size ≤ (flat ps).length]).fst)) [some ⟨.view, .ints (flat ps)⟩, some deadB, some ⟨.row 32 2, .ints ([] ++ List.take (ps.length * 2) (List.drop 0 (flat ps)))⟩]))) := by kernel_rfl
theorem resR_cln (ps : List Pt) (h : ps.length ≤ 2000000) : ResR Try.prog 73 [.row ps.length (.ints (flat ps))] (rowP ps) (blkP ps) := by
  rcases Nat.eq_zero_or_pos ps.length with h0 | h0
  · obtain rfl : ps = [] := List.eq_nil_of_length_eq_zero h0
    refine ⟨(entersB_res (by kernel_rfl)).1, (entersB_res (by kernel_rfl)).2, rfl, fun d hd => ?_, fun w args hd => ?_⟩
    · rw [List.mem_singleton.1 hd]
      exact rfl
    · obtain ⟨h1, h2⟩ := hd
      obtain ⟨x0, rfl⟩ : ∃ x0, args = #[x0] := by
        have h3 : args.size = 1 := by simpa using h1.symm
        match args, h3 with
        | ⟨[x0]⟩, _ => exact ⟨x0, rfl⟩
      obtain ⟨_, ad, c', rfl, _, _⟩ := h2 0 _ x0 rfl rfl
      exact cln_zero ad c' w
  · refine bodyX_resR mixed (tabE_ok B0_ok) (m := 30) (n := 12) rfl ?_
    rw [tr_cln]
    have hf : ([] : List Int) ++ List.take (ps.length * 2) (List.drop 0 (flat ps)) = flat ps := by
      rw [List.nil_append, List.drop_zero, flat_all]
    refine ⟨h0, ⟨?_, ?_⟩, ?_, some 2, ⟨?_, ?_, ?_⟩, ?_⟩
    · show (0 + ps.length) * 16 ≤ 140737488355328; omega
    · show 0 + ps.length ≤ 2000000; omega
    · rw [flat_length]; omega
    · rfl
    · rfl
    · show 0 + ps.length = ps.length; omega
    · rw [hf]; exact ⟨rfl, rfl, rfl⟩
def RCl : TabR := fun f ds => match f, ds with
  | 73, [.row m (.ints xs)] => some (rowP (ptsA m xs), blkP (ptsA m xs), [m * 2 ≤ xs.length, m ≤ 2000000])
  | f, ds => R4 f ds
theorem RCl_ok : TabROk Try.prog RCl := by
  intro f ds v b C h hC
  unfold RCl at h
  (try split at h)
  all_goals first
    | (obtain ⟨rfl, rfl, rfl⟩ : _ ∧ _ ∧ _ := by simpa using h
       obtain ⟨_, h2⟩ := ptsA_spec hC.1
       have h1 := resR_pts1 (pre := []) (post := []) hC.1 (resR_cln _ (by rw [h2]; exact hC.2.1))
       simp only [List.nil_append, List.append_nil] at h1
       with_reducible exact h1)
    | exact R4_ok _ _ _ _ _ h hC
def JSo : TabJ := consJ 74 (fun _ => soG 75) noJ
theorem JSo_ok : GSound Try.prog JSo.g := soG_sound (failG_sound _)
def JSc : TabJ := consR 76 (owG cptS) JSo
theorem JSc_ok : GSound Try.prog JSc.g := consO_ok mixed JSo_ok (entersB_res (by kernel_rfl)).1 cptS_ok
def ESp : Env := withT (mkE T3 RCl (fun _ => noL)) JSc
theorem ESp_ok : EnvOk Try.prog ESp := withT_ok (mkEOk T3_ok RCl_ok (fun _ _ _ => noL_good)) JSc_ok
set_option maxRecDepth 100000 in
theorem tr_iSp (ps : List Pt) : bodyX Try.prog ESp 30 12 41 [.row ps.length (.ints (flat ps))] = brT (decide ((↑ps.length : Int) ≤ 20)) (.need (ps.length * (2 : Nat) ≤ (List.drop 0 (flat ps)).length) (.need (ps.length ≤ (1000000000 : Nat)) (brT (!allV (ptsA ps.length (List.drop 0 (flat ps)))) (.fin (.slice none (0) (0)) [some ⟨.view, .ints (flat ps)⟩]) (.need (ps.length * (2 : Nat) ≤ (List.drop 0 (flat ps)).length) (.need (ps.length ≤ (2000000 : Nat)) (.need ((flat (ptsA ps.length (List.drop 0 (flat ps)))).length = (ptsA ps.length (List.drop 0 (flat ps))).length * (2 : Nat)) (.need ((ptsA ps.length (List.drop 0 (flat ps))).length ≤ (1000000000 : Nat)) (.need ((flat (sortP (ptsA (ptsA ps.length (List.drop 0 (flat ps))).length (flat (ptsA ps.length (List.drop 0 (flat ps))))))).length = (ptsA ps.length (List.drop 0 (flat ps))).length * (2 : Nat)) (.need ((ptsA ps.length (List.drop 0 (flat ps))).length ≤ (1000000000 : Nat)) (.fin (ß 2 ((cmP (ptsA (ptsA ps.length (List.drop 0 (flat ps))).length (flat (sortP (ptsA (ptsA ps.length (List.drop 0 (flat ps))).length (flat (ptsA ps.length (List.drop 0 (flat ps))))))))).length) ((cmP (ptsA (ptsA ps.length (List.drop 0 (flat ps))).length (flat (sortP (ptsA (ptsA ps.length (List.drop 0 (flat ps))).length (flat (ptsA ps.length (List.drop 0 (flat ps))))))))).length)) [some ⟨.view, .ints (flat ps)⟩, some deadB, some ⟨.row 32 2, .ints (flat (cmP (ptsA (ptsA ps.length (List.drop 0 (flat ps))).length (flat (sortP (ptsA (ptsA ps.length (List.drop 0 (flat ps))).length (flat (ptsA ps.length (List.drop 0 (flat ps))))))))))⟩])))))))))) (.fin (.slice none (0) (0)) [some ⟨.view, .ints (flat ps)⟩]) := by kernel_rfl
theorem up_get {L : List Pt} (h : L.Pairwise fun x y => pltB y x = false) {i j : Nat} (hij : i < j) (hj : j < L.length) : pltB (L.getD j (0, 0)) (L.getD i (0, 0)) = false := by
  have := List.pairwise_iff_getElem.1 h i j (by omega) hj hij
  simpa [List.getD, hj, show i < L.length by omega] using this
theorem plt_le {a b c : Pt} (h1 : pltB b a = false) (h2 : pltB b c = true) : pltB a c = true := by
  rw [← Bool.not_eq_true, pltB_iff] at h1
  rw [pltB_iff] at h2 ⊢
  omega
theorem cmN_srt {L : List Pt} (h : L.Pairwise fun x y => pltB y x = false) : ∀ m, m ≤ L.length → Asc (cmN L m) ∧ (∀ z ∈ cmN L m, ∃ j, j < m ∧ z = L.getD j (0, 0)) ∧ ∀ j, j < m → L.getD j (0, 0) ∈ cmN L m
  | 0, _ => ⟨List.Pairwise.nil, fun z hz => by simp [cmN] at hz, fun j hj => by omega⟩
  | m + 1, hm => by
    obtain ⟨h1, h2, h3⟩ := cmN_srt h m (by omega)
    simp only [cmN]
    split
    · rename_i hc
      refine ⟨?_, fun z hz => ?_, fun j hj => ?_⟩
      · refine List.pairwise_append.2 ⟨h1, by simp, fun z hz y hy => ?_⟩
        obtain rfl : y = L.getD m (0, 0) := by simpa using hy
        obtain ⟨j, hj, rfl⟩ := h2 z hz
        rcases hc with hc | hc
        · omega
        · have a1 : pltB (L.getD (m - 1) (0, 0)) (L.getD m (0, 0)) = true := plt_tri (up_get h (by omega) (by omega)) hc
          rcases Nat.lt_or_ge j (m - 1) with hj1 | hj1
          · exact plt_le (up_get h hj1 (by omega)) a1
          · obtain rfl : j = m - 1 := by omega
            exact a1
      · rcases List.mem_append.1 hz with hz | hz
        · obtain ⟨j, hj, e⟩ := h2 z hz
          exact ⟨j, by omega, e⟩
        · obtain rfl : z = L.getD m (0, 0) := by simpa using hz
          exact ⟨m, by omega, rfl⟩
      · rcases Nat.lt_or_ge j m with hjm | hjm
        · exact List.mem_append.2 (.inl (h3 j hjm))
        · obtain rfl : j = m := by omega
          exact List.mem_append.2 (.inr (by simp))
    · rename_i hc
      have hc1 : ¬ m = 0 := fun e => hc (.inl e)
      have hc2 : L.getD m (0, 0) = L.getD (m - 1) (0, 0) := Classical.byContradiction fun e => hc (.inr e)
      refine ⟨h1, fun z hz => ?_, fun j hj => ?_⟩
      · obtain ⟨j, hj, e⟩ := h2 z hz
        exact ⟨j, by omega, e⟩
      · rcases Nat.lt_or_ge j m with hjm | hjm
        · exact h3 j hjm
        · obtain rfl : j = m := by omega
          rw [hc2]
          exact h3 (j - 1) (by omega)
theorem cmP_sort (ps : List Pt) : cmP (sortP ps) = srtL ps := by
  obtain ⟨h1, h2, h3⟩ := cmN_srt (sortP_up ps) (sortP ps).length (Nat.le_refl _)
  refine asc_ext h1 (srtL_asc ps) fun z => ?_
  rw [srtL_mem]
  constructor
  · intro hz
    obtain ⟨j, hj, rfl⟩ := h2 z hz
    exact (sortP_mem ps _).1 (by simp [List.getD, hj])
  · intro hz
    obtain ⟨j, hj, rfl⟩ := List.mem_iff_getElem.1 ((sortP_mem ps z).2 hz)
    have := h3 j hj
    rw [show (sortP ps).getD j (0, 0) = (sortP ps)[j] by simp [List.getD, hj]] at this
    exact this
def spV (ps : List Pt) : List Pt := bif okL ps then srtL ps else []
theorem okL_20 {ps : List Pt} (h : okL ps = true) : allV ps = true ∧ ps.length ≤ 20 := by
  unfold okL at h
  simpa using h
theorem spV_len (ps : List Pt) : (spV ps).length ≤ 20 := by
  unfold spV
  rcases h : okL ps with _ | _
  · exact Nat.zero_le _
  · have := srtO_le ps []
    have h2 := (okL_20 h).2
    simp only [List.length_nil] at this
    show (srtO [] ps).length ≤ 20
    omega
theorem resR_iSp (ps : List Pt) (h : Big ps) : ResR Try.prog 41 [.row ps.length (.ints (flat ps))] (rowP (spV ps)) (blkP (spV ps)) := by
  refine bodyX_resR mixed ESp_ok (m := 30) (n := 12) rfl ?_
  rw [tr_iSp]
  unfold Big at h
  have e : ptsA ps.length (flat (sortP ps)) = sortP ps := by rw [← sortP_len ps, ptsA_flat]
  simp only [List.drop_zero, ptsA_flat, flat_length, e, cmP_sort]
  refine brT_ok.2 ⟨fun h20 => ⟨by omega, h, brT_ok.2 ⟨fun hv => ?_, fun hv => ?_⟩⟩, fun h20 => ?_⟩
  · have e2 : spV ps = [] := by
      unfold spV okL
      rw [show allV ps = false by simpa using hv]
      rfl
    rw [e2]
    exact ⟨none, ⟨rfl, rfl⟩, trivial⟩
  · have hv : allV ps = true := by simpa using hv
    have hl : ps.length ≤ 20 := by have := of_decide_eq_true h20; omega
    have e2 : spV ps = srtL ps := by
      unfold spV okL
      rw [hv, decide_eq_true hl]
      rfl
    rw [e2]
    exact ⟨by omega, by omega, trivial, by omega, by rw [sortP_len], by omega, some 2, ⟨rfl, rfl, rfl⟩, rfl, rfl, rfl⟩
  · have e2 : spV ps = [] := by
      unfold spV okL
      rw [show decide (ps.length ≤ 20) = false from decide_eq_false (by have := of_decide_eq_false h20; omega), Bool.and_false]
      rfl
    rw [e2]
    exact ⟨none, ⟨rfl, rfl⟩, trivial⟩
def RSs : TabR := fun f ds => match f, ds with
  | 69, [.row m (.ints xs)] => some (rowP (srtL (ptsA m xs)), blkP (srtL (ptsA m xs)), [m * 2 ≤ xs.length, m ≤ 1000])
  | 41, [.row m (.ints xs)] => some (rowP (spV (ptsA m xs)), blkP (spV (ptsA m xs)), [m * 2 ≤ xs.length, m ≤ 1000000000])
  | f, ds => RCl f ds
theorem RSs_ok : TabROk Try.prog RSs := by
  intro f ds v b C h hC
  unfold RSs at h
  (try split at h)
  all_goals first
    | (obtain ⟨rfl, rfl, rfl⟩ : _ ∧ _ ∧ _ := by simpa using h
       obtain ⟨_, h2⟩ := ptsA_spec hC.1
       have h1 := resR_pts1 (pre := []) (post := []) hC.1 (resR_srt _ (by rw [h2]; exact hC.2.1))
       simp only [List.nil_append, List.append_nil] at h1
       with_reducible exact h1)
    | (obtain ⟨rfl, rfl, rfl⟩ : _ ∧ _ ∧ _ := by simpa using h
       obtain ⟨_, h2⟩ := ptsA_spec hC.1
       have h1 := resR_pts1 (pre := []) (post := []) hC.1 (resR_iSp _ (by unfold Big; rw [h2]; exact hC.2.1))
       simp only [List.nil_append, List.append_nil] at h1
       with_reducible exact h1)
    | exact RCl_ok _ _ _ _ _ h hC
def RSq : TabR := fun f ds => match f, ds with
  | f, ds => RSs f ds
theorem RSq_ok : TabROk Try.prog RSq := by
  intro f ds v b C h hC
  unfold RSq at h
  (try split at h)
  all_goals first
    | (obtain ⟨rfl, rfl, rfl⟩ : _ ∧ _ ∧ _ := by simpa using h
       obtain ⟨_, h2⟩ := ptsA_spec hC.1
       have h1 := resR_pts1 (pre := []) (post := []) hC.1 (resR_sSp _ (by unfold Big; rw [h2]; exact hC.2.1))
       simp only [List.nil_append, List.append_nil] at h1
       with_reducible exact h1)
    | exact RSs_ok _ _ _ _ _ h hC
def TMh : Tab := fun f ds => match f with
  | f => T3 f ds
theorem TMh_ok : TabOk Try.prog TMh := by
  intro f ds v C h hC
  unfold TMh at h
  (try split at h)
  all_goals first | with_reducible exact pHeldP_ok h hC | exact T3_ok _ _ _ _ h hC
def TCh : Tab := orT T3 TOl
theorem TCh_ok : TabOk Try.prog TCh := orT_ok T3_ok TOl_ok
def ECh : Env := mkE TCh RSq (fun _ => noL)
theorem ECh_ok : EnvOk Try.prog ECh := mkEOk TCh_ok RSq_ok (fun _ _ _ => noL_good)
noncomputable def c_chI : Code := ((loopsOf (codeOf Try.f42))[1]?).getD .skip
def k_chI : Ex → List Nat := keeps [3, 5, 6, 7, 8, 9] [(2, [3, 5, 7, 8, 9]), (1, [3, 7, 8, 9]), (0, [3])] [2]
def s_chI (xs : List Int) (st : List Pt) (x y : Int) (n i : Nat) : Nat → St := fun j => ⟨(ω3 ß 1 j j :: topV :: .pointer (some ⟨2, 0, none⟩) :: .int .i64 j :: ß 0 n n :: .int .i64 n :: .int .i64 i :: ω34 []), [some ⟨.view, .ints xs⟩, some ⟨.row 32 2, .ints (flat st)⟩, some ⟨.box, .vals [.int .i64 x, .int .i64 y]⟩]⟩
def re_chI : Nat → Ex := fun _ => .exit 2
def rs_chI (xs : List Int) (st : List Pt) (x y : Int) (n i : Nat) : Nat → St := fun j => ⟨(ω3 ß 1 (popN st (x, y) st.length) (popN st (x, y) st.length) :: topV :: .pointer (some ⟨2, 0, none⟩) :: topV :: ß 0 n n :: .int .i64 n :: .int .i64 i :: ω34 []), [some ⟨.view, .ints xs⟩, some ⟨.row 32 2, .ints (flat st)⟩, some ⟨.box, .vals [.int .i64 x, .int .i64 y]⟩]⟩
set_option maxRecDepth 100000 in
theorem tr_chI (xs : List Int) (st : List Pt) (x y : Int) (n i : Nat) (j : Nat) : bodyL Try.prog ECh 30 12 noL 2 c_chI k_chI 3 (s_chI xs st x y n i j) = brT (decide (2 ≤ (↑j : Int))) (.need (ptB ((flat st).getD ((0 : Nat) + (ŵ ((↑j : Int) - (2 : Int))).toNat * (2 : Nat)) (0 : Int)) ((flat st).getD ((0 : Nat) + (ŵ ((↑j : Int) - (2 : Int))).toNat * (2 : Nat) + (1 : Nat)) (0 : Int)) = true) (.need (ptB ((flat st).getD ((0 : Nat) + (ŵ ((↑j : Int) - (1 : Int))).toNat * (2 : Nat)) (0 : Int)) ((flat st).getD ((0 : Nat) + (ŵ ((↑j : Int) - (1 : Int))).toNat * (2 : Nat) + (1 : Nat)) (0 : Int)) = true) (.need (ptB x y = true) (.need ((0 : Int) ≤ ŵ ((↑j : Int) - (2 : Int)) ∧ ŵ ((↑j : Int) - (2 : Int)) < (↑j : Int)) (.need ((0 : Nat) + (ŵ ((↑j : Int) - (2 : Int))).toNat * (2 : Nat) + (2 : Nat) ≤ (flat st).length) (.need ((0 : Int) ≤ ŵ ((↑j : Int) - (1 : Int)) ∧ ŵ ((↑j : Int) - (1 : Int)) < (↑j : Int)) (.need ((0 : Nat) + (ŵ ((↑j : Int) - (1 : Int))).toNat * (2 : Nat) + (2 : Nat) ≤ (flat st).length) (brT (decide (crossI ((flat st).getD (0 + (ŵ ((↑j : Int) - 2)).toNat * 2) 0) ((flat st).getD (0 + (ŵ ((↑j : Int) - 2)).toNat * 2 + 1) 0) ((flat st).getD (0 + (ŵ ((↑j : Int) - 1)).toNat * 2) 0) ((flat st).getD (0 + (ŵ ((↑j : Int) - 1)).toNat * 2 + 1) 0) x y ≤ 0)) (.need ((0 : Int) ≤ bndI none (0 : Int) ∧ bndI none (0 : Int) ≤ bndI (some (IntKind.i64, ŵ ((↑j : Int) - (1 : Int)))) (↑j : Int) ∧ bndI (some (IntKind.i64, ŵ ((↑j : Int) - (1 : Int)))) (↑j : Int) ≤ (↑j : Int)) (.leaf .normal ⟨(ω3 ß 1 ((bndI (some (IntKind.i64, ŵ ((↑j : Int) - 1))) (↑j : Int)).toNat - 0) ((bndI (some (IntKind.i64, ŵ ((↑j : Int) - 1))) (↑j : Int)).toNat - 0) :: topV :: .pointer (some ⟨2, 0, none⟩) :: .int .i64 (ŵ ((↑j : Int) - 1)) :: ß 0 (n) (n) :: .int .i64 ((↑n : Int)) :: .int .i64 ((↑i : Int)) :: ω34 []), [some ⟨.view, .ints (xs)⟩, some ⟨.row 32 2, .ints (flat st)⟩, some ⟨.box, .vals [.int .i64 (x), .int .i64 (y)]⟩]⟩)) (.leaf (.exit 2) ⟨(ω3 ß 1 (j) (j) :: topV :: .pointer (some ⟨2, 0, none⟩) :: topV :: ß 0 (n) (n) :: .int .i64 ((↑n : Int)) :: .int .i64 ((↑i : Int)) :: ω34 []), [some ⟨.view, .ints (xs)⟩, some ⟨.row 32 2, .ints (flat st)⟩, some ⟨.box, .vals [.int .i64 (x), .int .i64 (y)]⟩]⟩))))))))) (.leaf (.exit 2) ⟨(ω3 ß 1 (j) (j) :: topV :: .pointer (some ⟨2, 0, none⟩) :: topV :: ß 0 (n) (n) :: .int .i64 ((↑n : Int)) :: .int .i64 ((↑i : Int)) :: ω34 []), [some ⟨.view, .ints (xs)⟩, some ⟨.row 32 2, .ints (flat st)⟩, some ⟨.box, .vals [.int .i64 (x), .int .i64 (y)]⟩]⟩) := by kernel_rfl
set_option maxRecDepth 100000 in
theorem nl_chI : loopsOf c_chI = [] := by kernel_rfl
def inv_chI (xs : List Int) (st : List Pt) (x y : Int) (n i : Nat) : Nat → Prop := fun j => j ≤ st.length ∧ popN st (x, y) j = popN st (x, y) st.length
def me_chI (xs : List Int) (st : List Pt) (x y : Int) (n i : Nat) : Nat → Nat := fun j => j
def Round_chI (xs : List Int) (st : List Pt) (x y : Int) (n i : Nat) : Prop := ∀ xx : Nat, inv_chI xs st x y n i xx → (bodyL Try.prog ECh 30 12 noL 2 c_chI k_chI 3 (s_chI xs st x y n i xx)).ok (RoundEnd 3 (s_chI xs st x y n i) (inv_chI xs st x y n i) (me_chI xs st x y n i) re_chI (rs_chI xs st x y n i) xx) (fun _ _ => False)
def e_chI (s : St) (k : Ex → St → Tree) : Option Tree := match Nat.beq s.tmps.length 44, pickL s.tmps [3, 5, 6, 7, 8, 9], s.mem with
  | true, [ß 1 l _, .pointer (some ⟨2, 0, none⟩), .int .i64 jj, ß 0 n _, .int .i64 n1, .int .i64 i], [some ⟨.view, .ints xs⟩, some ⟨.row 32 2, .ints ys⟩, some ⟨.box, .vals [.int .i64 x, .int .i64 y]⟩] => some (needs [jj = l, n1 = n, 0 ≤ i, ys.length = l * 2, allV (ptsA l ys) = true, ptB x y = true, l ≤ 1000] (k (.exit 2) ⟨(ω3 ß 1 (popN (ptsA l ys) (x, y) l) (popN (ptsA l ys) (x, y) l) :: topV :: .pointer (some ⟨2, 0, none⟩) :: topV :: ß 0 n n :: .int .i64 n :: .int .i64 i :: ω34 []), [some ⟨.view, .ints xs⟩, some ⟨.row 32 2, .ints ys⟩, some ⟨.box, .vals [.int .i64 x, .int .i64 y]⟩]⟩))
  | _, _, _ => none
noncomputable def c_chS : Code := ((loopsOf (codeOf Try.f70))[1]?).getD .skip
def k_chS : Ex → List Nat := keeps [0, 3, 4] [(2, [0, 3, 4]), (1, [0, 3, 4]), (0, [3])] [2]
def s_chS (ps st : List Pt) (i : Nat) : Nat → St := fun j => ⟨(ß 0 ps.length ps.length :: topV :: topV :: ß 2 j j :: .int .i64 i :: ω43 []), [some ⟨.view, .ints (flat ps)⟩, some ⟨.dead, .vals []⟩, some ⟨.row 32 2, .ints (flat st)⟩]⟩
def re_chS : Nat → Ex := fun _ => .exit 2
def rs_chS (ps st : List Pt) (i : Nat) : Nat → St := fun j => ⟨(ß 0 ps.length ps.length :: topV :: topV :: ß 2 (popN st (ps.getD i (0, 0)) st.length) (popN st (ps.getD i (0, 0)) st.length) :: .int .i64 i :: ω43 []), [some ⟨.view, .ints (flat ps)⟩, some ⟨.dead, .vals []⟩, some ⟨.row 32 2, .ints (flat st)⟩]⟩
set_option maxRecDepth 100000 in
theorem tr_chS (ps st : List Pt) (i : Nat) (j : Nat) : bodyL Try.prog ECh 30 12 noL 2 c_chS k_chS 3 (s_chS ps st i j) = brT (decide (1 < (↑j : Int))) (.need (ptB ((flat st).getD ((0 : Nat) + (ŵ ((↑j : Int) - (2 : Int))).toNat * (2 : Nat)) (0 : Int)) ((flat st).getD ((0 : Nat) + (ŵ ((↑j : Int) - (2 : Int))).toNat * (2 : Nat) + (1 : Nat)) (0 : Int)) = true) (.need (ptB ((flat st).getD ((0 : Nat) + (ŵ ((↑j : Int) - (1 : Int))).toNat * (2 : Nat)) (0 : Int)) ((flat st).getD ((0 : Nat) + (ŵ ((↑j : Int) - (1 : Int))).toNat * (2 : Nat) + (1 : Nat)) (0 : Int)) = true) (.need (ptB ((flat ps).getD ((0 : Nat) + (↑i : Int).toNat * (2 : Nat)) (0 : Int)) ((flat ps).getD ((0 : Nat) + (↑i : Int).toNat * (2 : Nat) + (1 : Nat)) (0 : Int)) = true) (.need ((0 : Int) ≤ ŵ ((↑j : Int) - (2 : Int)) ∧ ŵ ((↑j : Int) - (2 : Int)) < (↑j : Int)) (.need ((0 : Nat) + (ŵ ((↑j : Int) - (2 : Int))).toNat * (2 : Nat) + (2 : Nat) ≤ (flat st).length) (.need ((0 : Int) ≤ ŵ ((↑j : Int) - (1 : Int)) ∧ ŵ ((↑j : Int) - (1 : Int)) < (↑j : Int)) (.need ((0 : Nat) + (ŵ ((↑j : Int) - (1 : Int))).toNat * (2 : Nat) + (2 : Nat) ≤ (flat st).length) (.need ((0 : Int) ≤ (↑i : Int) ∧ (↑i : Int) < (↑ps.length : Int)) (.need ((0 : Nat) + (↑i : Int).toNat * (2 : Nat) + (2 : Nat) ≤ (flat ps).length) (brT (decide (crossI ((flat st).getD (0 + (ŵ ((↑j : Int) - 2)).toNat * 2) 0) ((flat st).getD (0 + (ŵ ((↑j : Int) - 2)).toNat * 2 + 1) 0) ((flat st).getD (0 + (ŵ ((↑j : Int) - 1)).toNat * 2) 0) ((flat st).getD (0 + (ŵ ((↑j : Int) - 1)).toNat * 2 + 1) 0) ((flat ps).getD (0 + (↑i : Int).toNat * 2) 0) ((flat ps).getD (0 + (↑i : Int).toNat * 2 + 1) 0) ≤ 0)) (.need ((0 : Int) ≤ bndI none (0 : Int) ∧ bndI none (0 : Int) ≤ bndI (some (IntKind.i64, ŵ ((↑j : Int) - (1 : Int)))) (↑j : Int) ∧ bndI (some (IntKind.i64, ŵ ((↑j : Int) - (1 : Int)))) (↑j : Int) ≤ (↑j : Int)) (.leaf .normal ⟨(ß 0 (ps.length) (ps.length) :: topV :: topV :: ß 2 ((bndI (some (IntKind.i64, ŵ ((↑j : Int) - 1))) (↑j : Int)).toNat - 0) ((bndI (some (IntKind.i64, ŵ ((↑j : Int) - 1))) (↑j : Int)).toNat - 0) :: .int .i64 ((↑i : Int)) :: ω43 []), [some ⟨.view, .ints (flat ps)⟩, some deadB, some ⟨.row 32 2, .ints (flat st)⟩]⟩)) (.leaf (.exit 2) ⟨(ß 0 (ps.length) (ps.length) :: topV :: topV :: ß 2 (j) (j) :: .int .i64 ((↑i : Int)) :: ω43 []), [some ⟨.view, .ints (flat ps)⟩, some deadB, some ⟨.row 32 2, .ints (flat st)⟩]⟩))))))))))) (.leaf (.exit 2) ⟨(ß 0 (ps.length) (ps.length) :: topV :: topV :: ß 2 (j) (j) :: .int .i64 ((↑i : Int)) :: ω43 []), [some ⟨.view, .ints (flat ps)⟩, some deadB, some ⟨.row 32 2, .ints (flat st)⟩]⟩) := by kernel_rfl
set_option maxRecDepth 100000 in
theorem nl_chS : loopsOf c_chS = [] := by kernel_rfl
def inv_chS (ps st : List Pt) (i : Nat) : Nat → Prop := fun j => j ≤ st.length ∧ popN st (ps.getD i (0, 0)) j = popN st (ps.getD i (0, 0)) st.length
def me_chS (ps st : List Pt) (i : Nat) : Nat → Nat := fun j => j
def Round_chS (ps st : List Pt) (i : Nat) : Prop := ∀ xx : Nat, inv_chS ps st i xx → (bodyL Try.prog ECh 30 12 noL 2 c_chS k_chS 3 (s_chS ps st i xx)).ok (RoundEnd 3 (s_chS ps st i) (inv_chS ps st i) (me_chS ps st i) re_chS (rs_chS ps st i) xx) (fun _ _ => False)
def e_chS (s : St) (k : Ex → St → Tree) : Option Tree := match Nat.beq s.tmps.length 48, pickL s.tmps [0, 3, 4], s.mem with
  | true, [ß 0 n _, ß 2 l _, .int .i64 ii], [some ⟨.view, .ints xs⟩, some ⟨.dead, .vals []⟩, some ⟨.row 32 2, .ints ys⟩] => some (needs [xs.length = n * 2, allV (ptsA n xs) = true, 0 ≤ ii, ii < n, ys.length = l * 2, allV (ptsA l ys) = true, l ≤ 1000] (k (.exit 2) ⟨(ß 0 n n :: topV :: topV :: ß 2 (popN (ptsA l ys) ((ptsA n xs).getD ii.toNat (0, 0)) l) (popN (ptsA l ys) ((ptsA n xs).getD ii.toNat (0, 0)) l) :: .int .i64 ii :: ω43 []), [some ⟨.view, .ints xs⟩, some ⟨.dead, .vals []⟩, some ⟨.row 32 2, .ints ys⟩]⟩))
  | _, _, _ => none
theorem popN_yes {st : List Pt} {p : Pt} {m : Nat} (h : crP (st.getD m (0, 0)) (st.getD (m + 1) (0, 0)) p ≤ 0) : popN st p (m + 2) = popN st p (m + 1) := by simp only [popN, h, if_true]
theorem popN_no {st : List Pt} {p : Pt} {m : Nat} (h : ¬ crP (st.getD m (0, 0)) (st.getD (m + 1) (0, 0)) p ≤ 0) : popN st p (m + 2) = m + 2 := by simp only [popN, h, if_false]
theorem popN_low {st : List Pt} {p : Pt} {j : Nat} (h : j < 2) : popN st p j = j := by
  match j, h with
  | 0, _ => rfl
  | 1, _ => rfl
set_option maxRecDepth 100000 in
theorem round_chI (xs : List Int) (st : List Pt) (x y : Int) (n i : Nat) (hv : allV st = true) (hp : ptB x y = true) (h : st.length ≤ 1000) : Round_chI xs st x y n i := by
  rintro j ⟨h1, h2⟩
  rw [tr_chI]
  refine brT_ok.2 ⟨fun hlt => ?_, fun hge => ?_⟩
  · have hlt := of_decide_eq_true hlt
    obtain ⟨m, rfl⟩ : ∃ m, j = m + 2 := ⟨j - 2, by omega⟩
    have w1 : ŵ (((m + 2 : Nat) : Int) - 2) = (m : Int) := by rw [wr (by omega)]; omega
    have w2 : ŵ (((m + 2 : Nat) : Int) - 1) = ((m + 1 : Nat) : Int) := by rw [wr (by omega)]; omega
    simp only [w1, w2, bnd_some, bnd_none, Int.toNat_natCast, flat_get0, flat_get1, flat_length, Nat.zero_add, Nat.sub_zero]
    refine ⟨allV_at hv (by omega), allV_at hv (by omega), hp, by omega, by omega, by omega, by omega, brT_ok.2 ⟨fun q => ⟨by omega, ?_⟩, fun q => ?_⟩⟩
    · have e := popN_yes (st := st) (p := (x, y)) (m := m) (of_decide_eq_true q)
      refine ⟨m + 1, [], ⟨by omega, by rw [← e]; exact h2⟩, ?_, rfl, by simp only [rs_chI], ?_⟩
      · show m + 1 < m + 2; omega
      · repeat' (first | exact True.intro | exact rfl | exact fun _ => rfl | (simp; done) | refine And.intro ?_ ?_)
    · have e := popN_no (st := st) (p := (x, y)) (m := m) (of_decide_eq_false q)
      refine ⟨rfl, [], ?_⟩
      simp only [rs_chI, ← h2, e]
      repeat' (first | exact True.intro | exact rfl | exact fun _ => rfl | (simp; done) | refine And.intro ?_ ?_)
  · have hge := of_decide_eq_false hge
    have e := popN_low (st := st) (p := (x, y)) (j := j) (by omega)
    refine ⟨rfl, [], ?_⟩
    simp only [rs_chI, ← h2, e]
    repeat' (first | exact True.intro | exact rfl | exact fun _ => rfl | (simp; done) | refine And.intro ?_ ?_)
set_option maxRecDepth 100000 in
theorem lg_chI : LoopE Try.prog e_chI c_chI := by
  intro s k t F H hlt ht
  unfold e_chI at hlt
  split at hlt
  rotate_left
  · cases hlt
  rename_i hlen hpick hmem
  obtain ⟨tmps, mem⟩ := s
  simp only at hlen hpick hmem
  subst hmem
  obtain rfl := Option.some.inj hlt
  obtain ⟨⟨rfl, rfl, h0, h1, h2, h3, h4, _⟩, ht2⟩ := needs_ok ht
  clear ht hlt
  obtain ⟨st, rfl, rfl⟩ := even_flat h1
  obtain ⟨i, rfl⟩ := Int.eq_ofNat_of_zero_le h0
  rw [ptsA_flat] at ht2 h2
  refine ⟨_, _, ht2, loop_run mixed ECh_ok (s_chI _ st _ _ _ _) (inv_chI _ st _ _ _ _) (me_chI _ st _ _ _ _) re_chI (rs_chI _ st _ _ _ _) k_chI (fun _ => rfl) (noLoops nl_chI) (round_chI _ st _ _ _ _ h2 h3 h4) (x := st.length) ⟨Nat.le_refl _, rfl⟩ (π := []) rfl ?_⟩
  refine ⟨rfl, rfl, ?_, wvs_spread' [3, 5, 6, 7, 8, 9] hlen rfl ?_⟩
  · repeat' (first | exact True.intro | exact rfl | exact wv_top _ _ | exact fun _ => rfl | assumption | exact Eq.symm (by assumption) | exact vI0 rfl | refine And.intro ?_ ?_)
  · rw [hpick]
    repeat' (first | exact True.intro | exact rfl | exact wv_top _ _ | exact fun _ => rfl | assumption | exact Eq.symm (by assumption) | exact vI0 rfl | refine And.intro ?_ ?_)
set_option maxRecDepth 100000 in
theorem round_chS (ps st : List Pt) (i : Nat) (hv : allV st = true) (hp : allV ps = true) (h : st.length ≤ 1000) (hi : i < ps.length) : Round_chS ps st i := by
  rintro j ⟨h1, h2⟩
  rw [tr_chS]
  refine brT_ok.2 ⟨fun hlt => ?_, fun hge => ?_⟩
  · have hlt := of_decide_eq_true hlt
    obtain ⟨m, rfl⟩ : ∃ m, j = m + 2 := ⟨j - 2, by omega⟩
    have w1 : ŵ (((m + 2 : Nat) : Int) - 2) = (m : Int) := by rw [wr (by omega)]; omega
    have w2 : ŵ (((m + 2 : Nat) : Int) - 1) = ((m + 1 : Nat) : Int) := by rw [wr (by omega)]; omega
    simp only [w1, w2, bnd_some, bnd_none, Int.toNat_natCast, flat_get0, flat_get1, flat_length, Nat.zero_add, Nat.sub_zero]
    refine ⟨allV_at hv (by omega), allV_at hv (by omega), allV_at hp hi, by omega, by omega, by omega, by omega, by omega, by omega, brT_ok.2 ⟨fun q => ⟨by omega, ?_⟩, fun q => ?_⟩⟩
    · have e := popN_yes (st := st) (p := ps.getD i (0, 0)) (m := m) (of_decide_eq_true q)
      refine ⟨m + 1, [], ⟨by omega, by rw [← e]; exact h2⟩, ?_, rfl, by simp only [rs_chS], ?_⟩
      · show m + 1 < m + 2; omega
      · repeat' (first | exact True.intro | exact rfl | exact fun _ => rfl | (simp; done) | refine And.intro ?_ ?_)
    · have e := popN_no (st := st) (p := ps.getD i (0, 0)) (m := m) (of_decide_eq_false q)
      refine ⟨rfl, [], ?_⟩
      simp only [rs_chS, ← h2, e]
      repeat' (first | exact True.intro | exact rfl | exact fun _ => rfl | (simp; done) | refine And.intro ?_ ?_)
  · have hge := of_decide_eq_false hge
    have e := popN_low (st := st) (p := ps.getD i (0, 0)) (j := j) (by omega)
    refine ⟨rfl, [], ?_⟩
    simp only [rs_chS, ← h2, e]
    repeat' (first | exact True.intro | exact rfl | exact fun _ => rfl | (simp; done) | refine And.intro ?_ ?_)
set_option maxRecDepth 100000 in
theorem lg_chS : LoopE Try.prog e_chS c_chS := by
  intro s k t F H hlt ht
  unfold e_chS at hlt
  split at hlt
  rotate_left
  · cases hlt
  rename_i hlen hpick hmem
  obtain ⟨tmps, mem⟩ := s
  simp only at hlen hpick hmem
  subst hmem
  obtain rfl := Option.some.inj hlt
  obtain ⟨⟨h0, h5, h6, h7, h1, h2, h4, _⟩, ht2⟩ := needs_ok ht
  clear ht hlt
  obtain ⟨st, rfl, rfl⟩ := even_flat h1
  obtain ⟨ps, rfl, rfl⟩ := even_flat h0
  obtain ⟨i, rfl⟩ := Int.eq_ofNat_of_zero_le h6
  rw [ptsA_flat] at ht2 h2 h5
  simp only [ptsA_flat, Int.toNat_natCast] at ht2
  refine ⟨_, _, ht2, loop_run mixed ECh_ok (s_chS ps st i) (inv_chS ps st i) (me_chS ps st i) re_chS (rs_chS ps st i) k_chS (fun _ => rfl) (noLoops nl_chS) (round_chS ps st i h2 h5 h4 (by omega)) (x := st.length) ⟨Nat.le_refl _, rfl⟩ (π := []) rfl ?_⟩
  refine ⟨rfl, rfl, ?_, wvs_spread' [0, 3, 4] hlen rfl ?_⟩
  · repeat' (first | exact True.intro | exact rfl | exact wv_top _ _ | exact fun _ => rfl | assumption | exact Eq.symm (by assumption) | exact vI0 rfl | refine And.intro ?_ ?_)
  · rw [hpick]
    repeat' (first | exact True.intro | exact rfl | exact wv_top _ _ | exact fun _ => rfl | assumption | exact Eq.symm (by assumption) | exact vI0 rfl | refine And.intro ?_ ?_)
def ltCi : LT := fun j s k => match j with
  | 1 => e_chI s k
  | _ => none
def ltCs : LT := fun j s k => match j with
  | 1 => e_chS s k
  | _ => none
noncomputable def c_chO : Code := ((loopsOf (codeOf Try.f42))[0]?).getD .skip
def k_chO : Ex → List Nat := keeps [3, 7, 8, 9] [(0, [3])] [2]
def s_chO (ps : List Pt) : Nat × (List Pt) → St := fun (i, st) => ⟨(ω3 ß 1 st.length st.length :: ω3 ß 0 ps.length ps.length :: .int .i64 ps.length :: .int .i64 i :: ω34 []), [some ⟨.view, .ints (flat ps)⟩, some ⟨.row 32 2, .ints (flat st)⟩]⟩
def re_chO : Nat × (List Pt) → Ex := fun _ => .exit 0
def rs_chO (ps : List Pt) : Nat × (List Pt) → St := fun (i, st) => ⟨(ω3 ß 1 (chn st (ps.drop i)).length (chn st (ps.drop i)).length :: ω40 []), [some ⟨.view, .ints (flat ps)⟩, some ⟨.row 32 2, .ints (flat (chn st (ps.drop i)))⟩]⟩
set_option maxRecDepth 100000 in
theorem tr_chO (ps : List Pt) (i : Nat) (st : List Pt) : bodyL Try.prog ECh 30 12 ltCi 1 c_chO k_chO 16 (s_chO ps (i, st)) = brT (decide ((↑i : Int) < (↑ps.length : Int))) (.need ((0 : Int) ≤ (↑i : Int) ∧ (↑i : Int) < (↑ps.length : Int)) (.need ((0 : Nat) + (↑i : Int).toNat * (2 : Nat) + (2 : Nat) ≤ (flat ps).length) (.need ((↑st.length : Int) = (↑st.length : Int)) (.need ((↑ps.length : Int) = (↑ps.length : Int)) (.need ((0 : Int) ≤ (↑i : Int)) (.need ((flat st).length = st.length * (2 : Nat)) (.need (allV (ptsA st.length (flat st)) = true) (.need (ptB ((flat ps).getD ((0 : Nat) + (↑i : Int).toNat * (2 : Nat)) (0 : Int)) ((flat ps).getD ((0 : Nat) + (↑i : Int).toNat * (2 : Nat) + (1 : Nat)) (0 : Int)) = true) (.need (st.length ≤ (1000 : Nat)) (.need ((popN (ptsA st.length (flat st)) ((flat ps).getD ((0 : Nat) + (↑i : Int).toNat * (2 : Nat)) (0 : Int), (flat ps).getD ((0 : Nat) + (↑i : Int).toNat * (2 : Nat) + (1 : Nat)) (0 : Int)) st.length + (1 : Nat)) * (16 : Nat) ≤ (140737488355328 : Nat) ∧ popN (ptsA st.length (flat st)) ((flat ps).getD ((0 : Nat) + (↑i : Int).toNat * (2 : Nat)) (0 : Int), (flat ps).getD ((0 : Nat) + (↑i : Int).toNat * (2 : Nat) + (1 : Nat)) (0 : Int)) st.length + (1 : Nat) ≤ (2000000 : Nat)) (.need ((0 : Nat) + popN (ptsA st.length (flat st)) ((flat ps).getD ((0 : Nat) + (↑i : Int).toNat * (2 : Nat)) (0 : Int), (flat ps).getD ((0 : Nat) + (↑i : Int).toNat * (2 : Nat) + (1 : Nat)) (0 : Int)) st.length * (2 : Nat) ≤ (flat st).length) (.leaf .normal ⟨(ω3 ß 4 (popN (ptsA st.length (flat st)) ((flat ps).getD (0 + (↑i : Int).toNat * (2 : Nat)) 0, (flat ps).getD (0 + (↑i : Int).toNat * (2 : Nat) + 1) 0) st.length + 1) (popN (ptsA st.length (flat st)) ((flat ps).getD (0 + (↑i : Int).toNat * (2 : Nat)) 0, (flat ps).getD (0 + (↑i : Int).toNat * (2 : Nat) + 1) 0) st.length + 1) :: ω3 ß 0 (ps.length) (ps.length) :: .int .i64 ((↑ps.length : Int)) :: .int .i64 (ŵ ((↑i : Int) + 1)) :: ω34 []), [some ⟨.view, .ints (flat ps)⟩, some deadB, some ⟨.box, .vals [.int .i64 ((flat ps).getD (0 + (↑i : Int).toNat * 2) 0), .int .i64 ((flat ps).getD (0 + (↑i : Int).toNat * 2 + 1) 0)]⟩, some ⟨.row 32 2, .vals [.int .i64 ((flat ps).getD (0 + (↑i : Int).toNat * 2) 0), .int .i64 ((flat ps).getD (0 + (↑i : Int).toNat * 2 + 1) 0)]⟩, some ⟨.row 32 2, .ints (List.take (popN (ptsA st.length (flat st)) ((flat ps).getD (0 + (↑i : Int).toNat * (2 : Nat)) 0, (flat ps).getD (0 + (↑i : Int).toNat * (2 : Nat) + 1) 0) st.length * 2) (List.drop 0 (flat st)) ++ [(flat ps).getD (0 + (↑i : Int).toNat * 2) 0, (flat ps).getD (0 + (↑i : Int).toNat * 2 + 1) 0])⟩]⟩)))))))))))) (.leaf (.exit 0) ⟨(ω3 ß 1 (st.length) (st.length) :: ω40 []), [some ⟨.view, .ints (flat ps)⟩, some ⟨.row 32 2, .ints (flat st)⟩]⟩) := by kernel_rfl
def inv_chO (ps : List Pt) : Nat × (List Pt) → Prop := fun (i, st) => i ≤ ps.length ∧ st.length ≤ i ∧ allV st = true
def me_chO (ps : List Pt) : Nat × (List Pt) → Nat := fun (i, st) => ps.length - i
def Round_chO (ps : List Pt) : Prop := ∀ xx : Nat × (List Pt), inv_chO ps xx → (bodyL Try.prog ECh 30 12 ltCi 1 c_chO k_chO 16 (s_chO ps xx)).ok (RoundEnd 1 (s_chO ps) (inv_chO ps) (me_chO ps) re_chO (rs_chO ps) xx) (fun _ _ => False)
def e_chO (s : St) (k : Ex → St → Tree) : Option Tree := match Nat.beq s.tmps.length 44, pickL s.tmps [3, 7, 8, 9], s.mem with
  | true, [.slice none 0 0, ß 0 n _, .int .i64 n1, .int .i64 i], [some ⟨.view, .ints xs⟩] => some (needs [i = 0, n1 = n, xs.length = n * 2, allV (ptsA n xs) = true, n ≤ 1000] (k (.exit 0) ⟨(ω3 ß 1 (chn [] (ptsA n xs)).length (chn [] (ptsA n xs)).length :: ω40 []), [some ⟨.view, .ints xs⟩, some ⟨.row 32 2, .ints (flat (chn [] (ptsA n xs)))⟩]⟩))
  | _, _, _ => none
noncomputable def c_chP : Code := ((loopsOf (codeOf Try.f70))[0]?).getD .skip
def k_chP : Ex → List Nat := keeps [0, 3, 4] [(0, [3])] [2]
def s_chP (ps : List Pt) : Nat × (List Pt) → St := fun (i, st) => ⟨(ß 0 ps.length ps.length :: topV :: topV :: ß 2 st.length st.length :: .int .i64 i :: ω43 []), [some ⟨.view, .ints (flat ps)⟩, some ⟨.dead, .vals []⟩, some ⟨.row 32 2, .ints (flat st)⟩]⟩
def re_chP : Nat × (List Pt) → Ex := fun _ => .exit 0
def rs_chP (ps : List Pt) : Nat × (List Pt) → St := fun (i, st) => ⟨(ω3 ß 2 (chn st (ps.drop i)).length (chn st (ps.drop i)).length :: ω44 []), [some ⟨.view, .ints (flat ps)⟩, some ⟨.dead, .vals []⟩, some ⟨.row 32 2, .ints (flat (chn st (ps.drop i)))⟩]⟩
set_option maxRecDepth 100000 in
theorem tr_chP (ps : List Pt) (i : Nat) (st : List Pt) : bodyL Try.prog ECh 30 12 ltCs 1 c_chP k_chP 16 (s_chP ps (i, st)) = brT (decide ((↑i : Int) < (↑ps.length : Int))) (.need ((flat ps).length = ps.length * (2 : Nat)) (.need (allV (ptsA ps.length (flat ps)) = true) (.need ((0 : Int) ≤ (↑i : Int)) (.need ((↑i : Int) < (↑ps.length : Int)) (.need ((flat st).length = st.length * (2 : Nat)) (.need (allV (ptsA st.length (flat st)) = true) (.need (st.length ≤ (1000 : Nat)) (.need ((0 : Int) ≤ (↑i : Int) ∧ (↑i : Int) < (↑ps.length : Int)) (.need ((0 : Nat) + (↑i : Int).toNat * (2 : Nat) + (2 : Nat) ≤ (flat ps).length) (.need ((popN (ptsA st.length (flat st)) ((ptsA ps.length (flat ps)).getD (↑i : Int).toNat ((0 : Int), (0 : Int))) st.length + (1 : Nat)) * (16 : Nat) ≤ (140737488355328 : Nat) ∧ popN (ptsA st.length (flat st)) ((ptsA ps.length (flat ps)).getD (↑i : Int).toNat ((0 : Int), (0 : Int))) st.length + (1 : Nat) ≤ (2000000 : Nat)) (.need ((0 : Nat) + popN (ptsA st.length (flat st)) ((ptsA ps.length (flat ps)).getD (↑i : Int).toNat ((0 : Int), (0 : Int))) st.length * (2 : Nat) ≤ (flat st).length) (.leaf .normal ⟨(ß 0 (ps.length) (ps.length) :: topV :: topV :: ß 4 (popN (ptsA st.length (flat st)) ((ptsA ps.length (flat ps)).getD (↑i : Int).toNat (0, 0)) st.length + 1) (popN (ptsA st.length (flat st)) ((ptsA ps.length (flat ps)).getD (↑i : Int).toNat (0, 0)) st.length + 1) :: .int .i64 (ŵ ((↑i : Int) + 1)) :: ω43 []), [some ⟨.view, .ints (flat ps)⟩, some deadB, some deadB, some ⟨.row 32 2, .vals [.int .i64 ((flat ps).getD (0 + (↑i : Int).toNat * 2) 0), .int .i64 ((flat ps).getD (0 + (↑i : Int).toNat * 2 + 1) 0)]⟩, some ⟨.row 32 2, .ints (List.take (popN (ptsA st.length (flat st)) ((ptsA ps.length (flat ps)).getD (↑i : Int).toNat (0, 0)) st.length * 2) (List.drop 0 (flat st)) ++ [(flat ps).getD (0 + (↑i : Int).toNat * 2) 0, (flat ps).getD (0 + (↑i : Int).toNat * 2 + 1) 0])⟩]⟩)))))))))))) (.leaf (.exit 0) ⟨(ω3 ß 2 (st.length) (st.length) :: ω44 []), [some ⟨.view, .ints (flat ps)⟩, some deadB, some ⟨.row 32 2, .ints (flat st)⟩]⟩) := by kernel_rfl
def inv_chP (ps : List Pt) : Nat × (List Pt) → Prop := fun (i, st) => i ≤ ps.length ∧ st.length ≤ i ∧ allV st = true
def me_chP (ps : List Pt) : Nat × (List Pt) → Nat := fun (i, st) => ps.length - i
def Round_chP (ps : List Pt) : Prop := ∀ xx : Nat × (List Pt), inv_chP ps xx → (bodyL Try.prog ECh 30 12 ltCs 1 c_chP k_chP 16 (s_chP ps xx)).ok (RoundEnd 2 (s_chP ps) (inv_chP ps) (me_chP ps) re_chP (rs_chP ps) xx) (fun _ _ => False)
def e_chP (s : St) (k : Ex → St → Tree) : Option Tree := match Nat.beq s.tmps.length 48, pickL s.tmps [0, 3, 4], s.mem with
  | true, [ß 0 n _, ß 1 z _, .int .i64 i], [some ⟨.view, .ints xs⟩, some ⟨.row 32 2, .vals []⟩] => some (needs [i = 0, z = 0, xs.length = n * 2, allV (ptsA n xs) = true, n ≤ 1000] (k (.exit 0) ⟨(ω3 ß 2 (chn [] (ptsA n xs)).length (chn [] (ptsA n xs)).length :: ω44 []), [some ⟨.view, .ints xs⟩, some ⟨.dead, .vals []⟩, some ⟨.row 32 2, .ints (flat (chn [] (ptsA n xs)))⟩]⟩))
  | _, _, _ => none
set_option maxRecDepth 100000 in
theorem in_chO : loopsOf c_chO = [c_chI] := by kernel_rfl
theorem ltCi_good : LoopsGood Try.prog ltCi 1 c_chO := by
  intro i d hd s k t F H hlt ht
  rw [in_chO] at hd
  cases i with
  | zero =>
    obtain rfl : c_chI = d := by simpa using hd
    exact lg_chI s k t F H hlt ht
  | succ i => simp at hd
set_option maxRecDepth 100000 in
theorem in_chP : loopsOf c_chP = [c_chS] := by kernel_rfl
theorem ltCs_good : LoopsGood Try.prog ltCs 1 c_chP := by
  intro i d hd s k t F H hlt ht
  rw [in_chP] at hd
  cases i with
  | zero =>
    obtain rfl : c_chS = d := by simpa using hd
    exact lg_chS s k t F H hlt ht
  | succ i => simp at hd
theorem chn_step {ps st : List Pt} {i : Nat} (hi : i < ps.length) : chn st (ps.drop i) = chn (pushP st (ps.getD i (0, 0))) (ps.drop (i + 1)) := by rw [drop_cons hi (0, 0)]; rfl
theorem chn_end {ps st : List Pt} {i : Nat} (hi : ps.length ≤ i) : chn st (ps.drop i) = st := by rw [List.drop_of_length_le hi]; rfl
set_option maxRecDepth 100000 in
theorem round_chO (ps : List Pt) (hp : allV ps = true) (h : ps.length ≤ 1000) : Round_chO ps := by
  rintro ⟨i, st⟩ ⟨h1, h2, h3⟩
  rw [tr_chO]
  simp only [ptsA_flat, Int.toNat_natCast, Nat.zero_add, flat_get0, flat_get1, flat_length, List.drop_zero, flat_take, flat_snoc]
  refine brT_ok.2 ⟨fun hlt => ?_, fun hge => ?_⟩
  · have hi : i < ps.length := by have := of_decide_eq_true hlt; omega
    have hk : popN st ((ps.getD i (0, 0)).1, (ps.getD i (0, 0)).2) st.length ≤ st.length := popN_le st _ _
    have el : popN st ((ps.getD i (0, 0)).1, (ps.getD i (0, 0)).2) st.length + 1 = (pushP st (ps.getD i (0, 0))).length := (pushP_len1 st _).symm
    refine ⟨by omega, by omega, by first | exact True.intro | rfl, by first | exact True.intro | rfl, by omega, by first | exact True.intro | rfl, h3, allV_at hp hi, by omega, ⟨by omega, by omega⟩, by omega, ?_⟩
    rw [wsucc hi (by omega), el]
    refine ⟨(i + 1, pushP st (ps.getD i (0, 0))), [some 4], ⟨by omega, by omega, allV_push h3 (allV_at hp hi)⟩, ?_, rfl, by simp only [rs_chO, chn_step hi], ?_⟩
    · show ps.length - (i + 1) < ps.length - i; omega
    · repeat' (first | exact True.intro | exact rfl | exact fun _ => rfl | (simp; done) | refine And.intro ?_ ?_)
  · have hge := of_decide_eq_false hge
    refine ⟨rfl, [some 1], ?_⟩
    simp only [rs_chO, chn_end (ps := ps) (st := st) (i := i) (by omega)]
    repeat' (first | exact True.intro | exact rfl | exact fun _ => rfl | (simp; done) | refine And.intro ?_ ?_)
set_option maxRecDepth 100000 in
theorem lg_chO : LoopE Try.prog e_chO c_chO := by
  intro s k t F H hlt ht
  unfold e_chO at hlt
  split at hlt
  rotate_left
  · cases hlt
  rename_i hlen hpick hmem
  obtain ⟨tmps, mem⟩ := s
  simp only at hlen hpick hmem
  subst hmem
  obtain rfl := Option.some.inj hlt
  obtain ⟨⟨rfl, rfl, h1, h2, h3, _⟩, ht2⟩ := needs_ok ht
  clear ht hlt
  obtain ⟨ps, rfl, rfl⟩ := even_flat h1
  rw [ptsA_flat] at ht2 h2
  refine ⟨_, _, ht2, loop_run2 mixed ECh_ok (s_chO ps) (inv_chO ps) (me_chO ps) re_chO (rs_chO ps) k_chO (fun _ => rfl) ltCi_good (round_chO ps h2 h3) (x := (0, [])) ⟨Nat.zero_le _, Nat.le_refl _, rfl⟩ (π := [none]) rfl ?_⟩
  refine ⟨rfl, rfl, ?_, wvs_spread' [3, 7, 8, 9] hlen rfl ?_⟩
  · repeat' (first | exact True.intro | exact rfl | exact wv_top _ _ | exact fun _ => rfl | assumption | exact Eq.symm (by assumption) | exact vI0 rfl | refine And.intro ?_ ?_)
  · rw [hpick]
    repeat' (first | exact True.intro | exact rfl | exact wv_top _ _ | exact fun _ => rfl | assumption | exact Eq.symm (by assumption) | exact vI0 rfl | refine And.intro ?_ ?_)
set_option maxRecDepth 100000 in
theorem round_chP (ps : List Pt) (hp : allV ps = true) (h : ps.length ≤ 1000) : Round_chP ps := by
  rintro ⟨i, st⟩ ⟨h1, h2, h3⟩
  rw [tr_chP]
  simp only [ptsA_flat, Int.toNat_natCast, Nat.zero_add, flat_get0, flat_get1, flat_length, List.drop_zero, flat_take, flat_snoc]
  refine brT_ok.2 ⟨fun hlt => ?_, fun hge => ?_⟩
  · have hi : i < ps.length := by have := of_decide_eq_true hlt; omega
    have hk : popN st (ps.getD i (0, 0)) st.length ≤ st.length := popN_le st _ _
    have el : popN st (ps.getD i (0, 0)) st.length + 1 = (pushP st (ps.getD i (0, 0))).length := (pushP_len1 st _).symm
    refine ⟨by first | exact True.intro | rfl, hp, by omega, by omega, by first | exact True.intro | rfl, h3, by omega, by omega, by omega, ⟨by omega, by omega⟩, by omega, ?_⟩
    rw [wsucc hi (by omega), el]
    refine ⟨(i + 1, pushP st (ps.getD i (0, 0))), [some 4], ⟨by omega, by omega, allV_push h3 (allV_at hp hi)⟩, ?_, rfl, by simp only [rs_chP, chn_step hi], ?_⟩
    · show ps.length - (i + 1) < ps.length - i; omega
    · repeat' (first | exact True.intro | exact rfl | exact fun _ => rfl | (simp; done) | refine And.intro ?_ ?_)
  · have hge := of_decide_eq_false hge
    refine ⟨rfl, [some 2], ?_⟩
    simp only [rs_chP, chn_end (ps := ps) (st := st) (i := i) (by omega)]
    repeat' (first | exact True.intro | exact rfl | exact fun _ => rfl | (simp; done) | refine And.intro ?_ ?_)
set_option maxRecDepth 100000 in
theorem lg_chP : LoopE Try.prog e_chP c_chP := by
  intro s k t F H hlt ht
  unfold e_chP at hlt
  split at hlt
  rotate_left
  · cases hlt
  rename_i hlen hpick hmem
  obtain ⟨tmps, mem⟩ := s
  simp only at hlen hpick hmem
  subst hmem
  obtain rfl := Option.some.inj hlt
  obtain ⟨⟨rfl, rfl, h1, h2, h3, _⟩, ht2⟩ := needs_ok ht
  clear ht hlt
  obtain ⟨ps, rfl, rfl⟩ := even_flat h1
  rw [ptsA_flat] at ht2 h2
  refine ⟨_, _, ht2, loop_run2 mixed ECh_ok (s_chP ps) (inv_chP ps) (me_chP ps) re_chP (rs_chP ps) k_chP (fun _ => rfl) ltCs_good (round_chP ps h2 h3) (x := (0, [])) ⟨Nat.zero_le _, Nat.le_refl _, rfl⟩ (π := [some 1]) rfl ?_⟩
  refine ⟨rfl, rfl, ?_, wvs_spread' [0, 3, 4] hlen rfl ?_⟩
  · repeat' (first | exact True.intro | exact rfl | exact wv_top _ _ | exact fun _ => rfl | assumption | exact Eq.symm (by assumption) | exact vI0 rfl | refine And.intro ?_ ?_)
  · rw [hpick]
    repeat' (first | exact True.intro | exact rfl | exact wv_top _ _ | exact fun _ => rfl | assumption | exact Eq.symm (by assumption) | exact vI0 rfl | refine And.intro ?_ ?_)
theorem Lr_chO {fn : Func} (hf : Try.prog.funcs[42]? = some fn) : LoopsGood Try.prog (lt1 e_chO) 0 (codeOf fn) := by
  obtain rfl := fn_is Try.func42 hf
  exact lt1_good lg_chO
theorem Lr_chP {fn : Func} (hf : Try.prog.funcs[70]? = some fn) : LoopsGood Try.prog (lt1 e_chP) 0 (codeOf fn) := by
  obtain rfl := fn_is Try.func70 hf
  exact lt1_good lg_chP
def LCn : FuncId → LT := fun f => match f with
  | 42 => lt1 e_chO
  | 70 => lt1 e_chP
  | _ => noL
def ECn : Env := mkE TCh RSq LCn
theorem ECn_ok : EnvOk Try.prog ECn := mkEOk TCh_ok RSq_ok (by
  intro f fn hf
  unfold LCn
  split
  all_goals first | with_reducible exact Lr_chO hf | with_reducible exact Lr_chP hf | exact noL_good)
set_option maxRecDepth 100000 in
theorem tr_iCn (ps : List Pt) : bodyX Try.prog ECn 30 12 42 [.row ps.length (.ints (flat ps))] = .need ((0 : Int) = (0 : Int)) (.need ((↑ps.length : Int) = (↑ps.length : Int)) (.need ((flat ps).length = ps.length * (2 : Nat)) (.need (allV (ptsA ps.length (flat ps)) = true) (.need (ps.length ≤ (1000 : Nat)) (.fin (ß 1 ((chn [] (ptsA ps.length (flat ps))).length) ((chn [] (ptsA ps.length (flat ps))).length)) [some ⟨.view, .ints (flat ps)⟩, some ⟨.row 32 2, .ints (flat (chn [] (ptsA ps.length (flat ps))))⟩]))))) := by kernel_rfl
set_option maxRecDepth 100000 in
theorem tr_sCn (ps : List Pt) : bodyX Try.prog ECn 30 12 70 [.row ps.length (.ints (flat ps))] = .need ((0 : Int) = (0 : Int)) (.need ((0 : Nat) = (0 : Nat)) (.need ((flat ps).length = ps.length * (2 : Nat)) (.need (allV (ptsA ps.length (flat ps)) = true) (.need (ps.length ≤ (1000 : Nat)) (.fin (ß 2 ((chn [] (ptsA ps.length (flat ps))).length) ((chn [] (ptsA ps.length (flat ps))).length)) [some ⟨.view, .ints (flat ps)⟩, some deadB, some ⟨.row 32 2, .ints (flat (chn [] (ptsA ps.length (flat ps))))⟩]))))) := by kernel_rfl
theorem resR_iCn {ps : List Pt} (hv : allV ps = true) (h : ps.length ≤ 1000) : ResR Try.prog 42 [.row ps.length (.ints (flat ps))] (rowP (chn [] ps)) (blkP (chn [] ps)) := by
  refine bodyX_resR mixed ECn_ok (m := 30) (n := 12) rfl ?_
  rw [tr_iCn]
  simp only [ptsA_flat]
  exact ⟨trivial, trivial, flat_length ps, hv, h, some 1, ⟨rfl, rfl, rfl⟩, rfl, rfl, rfl⟩
theorem resR_sCn {ps : List Pt} (hv : allV ps = true) (h : ps.length ≤ 1000) : ResR Try.prog 70 [.row ps.length (.ints (flat ps))] (rowP (chn [] ps)) (blkP (chn [] ps)) := by
  refine bodyX_resR mixed ECn_ok (m := 30) (n := 12) rfl ?_
  rw [tr_sCn]
  simp only [ptsA_flat]
  exact ⟨trivial, trivial, flat_length ps, hv, h, some 2, ⟨rfl, rfl, rfl⟩, rfl, rfl, rfl⟩
theorem flatR (o : List Pt) : List.take (o.length * 2) (List.drop 0 (flat o)) = flat o := by rw [List.drop_zero, flat_all]
def ERv : Env := tabE B0
theorem ERv_ok : EnvOk Try.prog ERv := tabE_ok B0_ok
def rvI (ps X : List Pt) (i : Nat) : Prop := X.length = ps.length ∧ ∀ k, k < ps.length → X.getD k (0, 0) = if k < i ∨ ps.length - 1 - k < i then ps.getD (ps.length - 1 - k) (0, 0) else ps.getD k (0, 0)
theorem rv_end {ps X : List Pt} {i : Nat} (h : rvI ps X i) (hi : ps.length ≤ 2 * i + 1) : X = ps.reverse := by
  refine ext_getD (by simp [h.1]) fun k hk => ?_
  rw [h.1] at hk
  rw [h.2 k hk, getD_rev hk]
  split
  · rfl
  · congr 1
    omega
theorem getD_set' (X : List Pt) (i k : Nat) (z : Pt) (h : i < X.length) : (X.set i z).getD k (0, 0) = if k = i then z else X.getD k (0, 0) := by
  simp only [List.getD, List.getElem?_set]
  by_cases e : i = k
  · subst e; simp [h]
  · simp [e, Ne.symm e]
theorem rv_step {ps X : List Pt} {i : Nat} (h : rvI ps X i) (hi : 2 * i + 1 < ps.length) : rvI ps ((X.set i (X.getD (ps.length - 1 - i) (0, 0))).set (ps.length - 1 - i) (X.getD i (0, 0))) (i + 1) := by
  refine ⟨by simp [h.1], fun k hk => ?_⟩
  rw [getD_set' _ _ _ _ (by simp [h.1]; omega), getD_set' _ _ _ _ (by rw [h.1]; omega)]
  have a1 := h.2 i (by omega)
  have a2 := h.2 (ps.length - 1 - i) (by omega)
  rw [if_neg (by omega)] at a1
  rw [if_neg (by omega)] at a2
  by_cases c1 : k = ps.length - 1 - i
  · subst c1
    rw [if_pos rfl, a1, if_pos (by omega)]
    congr 1
    omega
  · rw [if_neg c1]
    by_cases c2 : k = i
    · subst c2
      rw [if_pos rfl, a2, if_pos (by omega)]
    · rw [if_neg c2, h.2 k hk]
      by_cases c3 : k < i ∨ ps.length - 1 - k < i
      · rw [if_pos c3, if_pos (by omega)]
      · rw [if_neg c3, if_neg (by omega)]
noncomputable def c_rvs : Code := ((loopsOf (codeOf Try.f43))[0]?).getD .skip
def k_rvs : Ex → List Nat := keeps [0, 2, 3] [(0, [])] []
def s_rvs (ps : List Pt) : Nat × (List Pt) → St := fun (i, X) => ⟨(ß 0 ps.length ps.length :: topV :: .int .i64 i :: .int .i64 ((ps.length : Int) - 1 - i) :: ω24 []), [some ⟨.row 32 2, .ints (flat X)⟩]⟩
def re_rvs : Nat × (List Pt) → Ex := fun _ => .exit 0
def rs_rvs (ps : List Pt) : Nat × (List Pt) → St := fun (i, X) => ⟨(ω28 []), [some ⟨.row 32 2, .ints (flat (revP ps))⟩]⟩
set_option maxRecDepth 100000 in
theorem tr_rvs (ps : List Pt) (i : Nat) (X : List Pt) : bodyL Try.prog ERv 30 12 noL 1 c_rvs k_rvs 1 (s_rvs ps (i, X)) = brT (decide ((↑i : Int) < (↑ps.length : Int) - 1 - (↑i : Int))) (.need ((0 : Int) ≤ (↑ps.length : Int) - (1 : Int) - (↑i : Int) ∧ (↑ps.length : Int) - (1 : Int) - (↑i : Int) < (↑ps.length : Int)) (.need ((0 : Nat) + ((↑ps.length : Int) - (1 : Int) - (↑i : Int)).toNat * (2 : Nat) + (2 : Nat) ≤ (flat X).length) (.need ((0 : Int) ≤ (↑i : Int) ∧ (↑i : Int) < (↑ps.length : Int)) (.need ((0 : Nat) + (↑i : Int).toNat * (2 : Nat) + (2 : Nat) ≤ (flat X).length) (.need ((0 : Int) ≤ (↑i : Int) ∧ (↑i : Int) < (↑ps.length : Int)) (.need ((0 : Nat) + (↑i : Int).toNat * (2 : Nat) + (2 : Nat) ≤ (flat X).length) (.need ((0 : Int) ≤ (↑ps.length : Int) - (1 : Int) - (↑i : Int) ∧ (↑ps.length : Int) - (1 : Int) - (↑i : Int) < (↑ps.length : Int)) (.need ((0 : Nat) + ((↑ps.length : Int) - (1 : Int) - (↑i : Int)).toNat * (2 : Nat) + (2 : Nat) ≤ (setInts (flat X) ((0 : Nat) + (↑i : Int).toNat * (2 : Nat)) [(flat X).getD ((0 : Nat) + ((↑ps.length : Int) - (1 : Int) - (↑i : Int)).toNat * (2 : Nat)) (0 : Int), (flat X).getD ((0 : Nat) + ((↑ps.length : Int) - (1 : Int) - (↑i : Int)).toNat * (2 : Nat) + (1 : Nat)) (0 : Int)]).length) (.leaf .normal ⟨(ß 0 (ps.length) (ps.length) :: topV :: .int .i64 (ŵ ((↑i : Int) + 1)) :: .int .i64 (ŵ ((↑ps.length : Int) - 1 - (↑i : Int) - 1)) :: ω24 []), [some ⟨.row 32 2, .ints (setInts (setInts (flat X) (0 + (↑i : Int).toNat * 2) [(flat X).getD (0 + ((↑ps.length : Int) - 1 - (↑i : Int)).toNat * 2) 0, (flat X).getD (0 + ((↑ps.length : Int) - 1 - (↑i : Int)).toNat * 2 + 1) 0]) (0 + ((↑ps.length : Int) - 1 - (↑i : Int)).toNat * 2) [(flat X).getD (0 + (↑i : Int).toNat * 2) 0, (flat X).getD (0 + (↑i : Int).toNat * 2 + 1) 0])⟩]⟩))))))))) (.leaf (.exit 0) ⟨(ω28 []), [some ⟨.row 32 2, .ints (flat X)⟩]⟩) := by kernel_rfl
set_option maxRecDepth 100000 in
theorem nl_rvs : loopsOf c_rvs = [] := by kernel_rfl
def inv_rvs (ps : List Pt) : Nat × (List Pt) → Prop := fun (i, X) => 2 * i ≤ ps.length + 1 ∧ rvI ps X i
def me_rvs (ps : List Pt) : Nat × (List Pt) → Nat := fun (i, X) => ps.length + 1 - i
def Round_rvs (ps : List Pt) : Prop := ∀ xx : Nat × (List Pt), inv_rvs ps xx → (bodyL Try.prog ERv 30 12 noL 1 c_rvs k_rvs 1 (s_rvs ps xx)).ok (RoundEnd 1 (s_rvs ps) (inv_rvs ps) (me_rvs ps) re_rvs (rs_rvs ps) xx) (fun _ _ => False)
def e_rvs (s : St) (k : Ex → St → Tree) : Option Tree := match Nat.beq s.tmps.length 28, pickL s.tmps [0, 2, 3], s.mem with
  | true, [ß 0 n _, .int .i64 i0, .int .i64 j0], [some ⟨.row 32 2, .ints xs⟩] => some (needs [i0 = 0, j0 = (n : Int) - 1 - (0 : Nat), xs.length = n * 2, n ≤ 1000000000] (k (.exit 0) ⟨(ω28 []), [some ⟨.row 32 2, .ints (flat (revP (ptsA n xs)))⟩]⟩))
  | _, _, _ => none
noncomputable def c_rvd : Code := ((loopsOf (codeOf Try.f71))[0]?).getD .skip
def k_rvd : Ex → List Nat := keeps [0, 3, 4] [(0, [3])] [2]
def s_rvd (ps : List Pt) : Nat × (List Pt) → St := fun (m, o) => ⟨(ß 0 ps.length ps.length :: topV :: topV :: ß 2 o.length o.length :: .int .i64 ((m : Int) - 1) :: ω16 []), [some ⟨.view, .ints (flat ps)⟩, some ⟨.dead, .vals []⟩, some ⟨.row 32 2, .ints (flat o)⟩]⟩
def re_rvd : Nat × (List Pt) → Ex := fun _ => .exit 0
def rs_rvd (ps : List Pt) : Nat × (List Pt) → St := fun (m, o) => ⟨(ω3 ß 2 (revP ps).length (revP ps).length :: ω17 []), [some ⟨.view, .ints (flat ps)⟩, some ⟨.dead, .vals []⟩, some ⟨.row 32 2, .ints (flat (revP ps))⟩]⟩
set_option maxRecDepth 100000 in
theorem tr_rvd (ps : List Pt) (m : Nat) (o : List Pt) : bodyL Try.prog ERv 30 12 noL 1 c_rvd k_rvd 16 (s_rvd ps (m, o)) = brT (decide (0 ≤ (↑m : Int) - 1)) (.need ((0 : Int) ≤ (↑m : Int) - (1 : Int) ∧ (↑m : Int) - (1 : Int) < (↑ps.length : Int)) (.need ((0 : Nat) + ((↑m : Int) - (1 : Int)).toNat * (2 : Nat) + (2 : Nat) ≤ (flat ps).length) (.need ((o.length + (1 : Nat)) * (16 : Nat) ≤ (140737488355328 : Nat) ∧ o.length + (1 : Nat) ≤ (2000000 : Nat)) (.need ((0 : Nat) + o.length * (2 : Nat) ≤ (flat o).length) (.leaf .normal ⟨(ß 0 (ps.length) (ps.length) :: topV :: topV :: ß 4 (o.length + 1) (o.length + 1) :: .int .i64 (ŵ ((↑m : Int) - 1 - 1)) :: ω16 []), [some ⟨.view, .ints (flat ps)⟩, some deadB, some deadB, some ⟨.row 32 2, .vals [.int .i64 ((flat ps).getD (0 + ((↑m : Int) - 1).toNat * 2) 0), .int .i64 ((flat ps).getD (0 + ((↑m : Int) - 1).toNat * 2 + 1) 0)]⟩, some ⟨.row 32 2, .ints (List.take (o.length * 2) (List.drop 0 (flat o)) ++ [(flat ps).getD (0 + ((↑m : Int) - 1).toNat * 2) 0, (flat ps).getD (0 + ((↑m : Int) - 1).toNat * 2 + 1) 0])⟩]⟩))))) (.leaf (.exit 0) ⟨(ω3 ß 2 (o.length) (o.length) :: ω17 []), [some ⟨.view, .ints (flat ps)⟩, some deadB, some ⟨.row 32 2, .ints (flat o)⟩]⟩) := by kernel_rfl
set_option maxRecDepth 100000 in
theorem nl_rvd : loopsOf c_rvd = [] := by kernel_rfl
def inv_rvd (ps : List Pt) : Nat × (List Pt) → Prop := fun (m, o) => m ≤ ps.length ∧ o = (ps.drop m).reverse
def me_rvd (ps : List Pt) : Nat × (List Pt) → Nat := fun (m, o) => m
def Round_rvd (ps : List Pt) : Prop := ∀ xx : Nat × (List Pt), inv_rvd ps xx → (bodyL Try.prog ERv 30 12 noL 1 c_rvd k_rvd 16 (s_rvd ps xx)).ok (RoundEnd 2 (s_rvd ps) (inv_rvd ps) (me_rvd ps) re_rvd (rs_rvd ps) xx) (fun _ _ => False)
def e_rvd (s : St) (k : Ex → St → Tree) : Option Tree := match Nat.beq s.tmps.length 21, pickL s.tmps [0, 3, 4], s.mem with
  | true, [ß 0 n _, ß 1 z _, .int .i64 i0], [some ⟨.view, .ints xs⟩, some ⟨.row 32 2, .vals []⟩] => some (needs [i0 = (n : Int) - 1, z = 0, xs.length = n * 2, n ≤ 100000] (k (.exit 0) ⟨(ω3 ß 2 (revP (ptsA n xs)).length (revP (ptsA n xs)).length :: ω17 []), [some ⟨.view, .ints xs⟩, some ⟨.dead, .vals []⟩, some ⟨.row 32 2, .ints (flat (revP (ptsA n xs)))⟩]⟩))
  | _, _, _ => none
set_option maxRecDepth 100000 in
theorem round_rvs (ps : List Pt) (h : ps.length ≤ 1000000000) : Round_rvs ps := by
  rintro ⟨i, X⟩ ⟨h1, h2⟩
  rw [tr_rvs]
  have hl := h2.1
  refine brT_ok.2 ⟨fun hlt => ?_, fun hge => ?_⟩
  · have hlt := of_decide_eq_true hlt
    have hi : 2 * i + 1 < ps.length := by omega
    have j1 : ((ps.length : Int) - 1 - (i : Int)).toNat = ps.length - 1 - i := by omega
    have w : ŵ ((ps.length : Int) - 1 - (i : Int) - 1) = (ps.length : Int) - 1 - ((i + 1 : Nat) : Int) := by rw [wr (by omega)]; omega
    have f1 := flat_set X i (by omega) (X.getD (ps.length - 1 - i) (0, 0)).1 (X.getD (ps.length - 1 - i) (0, 0)).2
    have f2 := flat_set (X.set i ((X.getD (ps.length - 1 - i) (0, 0)).1, (X.getD (ps.length - 1 - i) (0, 0)).2)) (ps.length - 1 - i) (by rw [List.length_set]; omega) (X.getD i (0, 0)).1 (X.getD i (0, 0)).2
    simp only [j1, w, Int.toNat_natCast, Nat.zero_add, flat_get0, flat_get1, f1]
    simp only [f2, flat_length, List.length_set, wsucc (n := ps.length) (i := i) (by omega) h]
    refine ⟨by omega, by omega, by omega, by omega, by omega, by omega, by omega, by omega, ?_⟩
    refine ⟨(i + 1, (X.set i (X.getD (ps.length - 1 - i) (0, 0))).set (ps.length - 1 - i) (X.getD i (0, 0))), [], ⟨by omega, rv_step h2 hi⟩, ?_, rfl, by simp only [rs_rvs], ?_⟩
    · show ps.length + 1 - (i + 1) < ps.length + 1 - i; omega
    · repeat' (first | exact True.intro | exact rfl | exact fun _ => rfl | (simp; done) | refine And.intro ?_ ?_)
  · have hge := of_decide_eq_false hge
    obtain rfl := rv_end h2 (by omega)
    refine ⟨rfl, [], ?_⟩
    simp only [rs_rvs, revP]
    repeat' (first | exact True.intro | exact rfl | exact fun _ => rfl | (simp; done) | refine And.intro ?_ ?_)
set_option maxRecDepth 100000 in
theorem lg_rvs : LoopE Try.prog e_rvs c_rvs := by
  intro s k t F H hlt ht
  unfold e_rvs at hlt
  split at hlt
  rotate_left
  · cases hlt
  rename_i hlen hpick hmem
  obtain ⟨tmps, mem⟩ := s
  simp only at hlen hpick hmem
  subst hmem
  obtain rfl := Option.some.inj hlt
  obtain ⟨⟨rfl, rfl, h1, h2, _⟩, ht2⟩ := needs_ok ht
  clear ht hlt
  obtain ⟨ps, rfl, rfl⟩ := even_flat h1
  rw [ptsA_flat] at ht2
  refine ⟨_, _, ht2, loop_run mixed ERv_ok (s_rvs ps) (inv_rvs ps) (me_rvs ps) re_rvs (rs_rvs ps) k_rvs (fun _ => rfl) (noLoops nl_rvs) (round_rvs ps h2) (x := (0, ps)) ⟨by omega, rfl, fun k hk => by rw [if_neg (by omega)]⟩ (π := []) rfl ?_⟩
  refine ⟨rfl, rfl, ?_, wvs_spread' [0, 2, 3] hlen rfl ?_⟩
  · repeat' (first | exact True.intro | exact rfl | exact wv_top _ _ | exact fun _ => rfl | assumption | exact Eq.symm (by assumption) | exact vI0 rfl | refine And.intro ?_ ?_)
  · rw [hpick]
    repeat' (first | exact True.intro | exact rfl | exact wv_top _ _ | exact fun _ => rfl | assumption | exact Eq.symm (by assumption) | exact vI0 rfl | refine And.intro ?_ ?_)
theorem rvd_step {ps : List Pt} {m : Nat} (h : m < ps.length) : (ps.drop (m + 1)).reverse ++ [ps.getD m (0, 0)] = (ps.drop m).reverse := by
  rw [drop_cons h (0, 0), List.reverse_cons]
set_option maxRecDepth 100000 in
theorem round_rvd (ps : List Pt) (h : ps.length ≤ 100000) : Round_rvd ps := by
  rintro ⟨m, o⟩ ⟨h1, rfl⟩
  rw [tr_rvd]
  have hl : (ps.drop m).reverse.length = ps.length - m := by simp
  refine brT_ok.2 ⟨fun hlt => ?_, fun hge => ?_⟩
  · have hlt := of_decide_eq_true hlt
    obtain ⟨m, rfl⟩ : ∃ k, m = k + 1 := ⟨m - 1, by omega⟩
    have j1 : (((m + 1 : Nat) : Int) - 1).toNat = m := by omega
    have w : ŵ (((m + 1 : Nat) : Int) - 1 - 1) = (m : Int) - 1 := by rw [wr (by omega)]; omega
    have hs := rvd_step (ps := ps) (m := m) (by omega)
    have fs : flat (ps.drop (m + 1)).reverse ++ [(ps.getD m (0, 0)).1, (ps.getD m (0, 0)).2] = flat (ps.drop m).reverse := by
      rw [flat_snoc, ← hs]
    simp only [j1, w, Nat.zero_add, flat_get0, flat_get1, flat_length, flatR, fs]
    refine ⟨by omega, by omega, ⟨by omega, by omega⟩, by omega, (m, (ps.drop m).reverse), [some 4], ⟨by omega, rfl⟩, ?_, rfl, by simp only [rs_rvd], ?_⟩
    · show m < m + 1; omega
    · have e : (ps.drop (m + 1)).reverse.length + 1 = (ps.drop m).reverse.length := by rw [← hs]; simp
      rw [e]
      repeat' (first | exact True.intro | exact rfl | exact fun _ => rfl | (simp; done) | refine And.intro ?_ ?_)
  · have hge := of_decide_eq_false hge
    obtain rfl : m = 0 := by omega
    refine ⟨rfl, [some 2], ?_⟩
    simp only [rs_rvd, revP, List.drop_zero]
    repeat' (first | exact True.intro | exact rfl | exact fun _ => rfl | (simp; done) | refine And.intro ?_ ?_)
set_option maxRecDepth 100000 in
theorem lg_rvd : LoopE Try.prog e_rvd c_rvd := by
  intro s k t F H hlt ht
  unfold e_rvd at hlt
  split at hlt
  rotate_left
  · cases hlt
  rename_i hlen hpick hmem
  obtain ⟨tmps, mem⟩ := s
  simp only at hlen hpick hmem
  subst hmem
  obtain rfl := Option.some.inj hlt
  obtain ⟨⟨rfl, rfl, h1, h3, _⟩, ht2⟩ := needs_ok ht
  clear ht hlt
  obtain ⟨ps, rfl, rfl⟩ := even_flat h1
  rw [ptsA_flat] at ht2
  refine ⟨_, _, ht2, loop_run2 mixed ERv_ok (s_rvd ps) (inv_rvd ps) (me_rvd ps) re_rvd (rs_rvd ps) k_rvd (fun _ => rfl) (noLoops nl_rvd) (round_rvd ps h3) (x := (ps.length, [])) ⟨Nat.le_refl _, by rw [List.drop_length]; rfl⟩ (π := [some 1]) rfl ?_⟩
  refine ⟨rfl, rfl, ?_, wvs_spread' [0, 3, 4] hlen rfl ?_⟩
  · repeat' (first | exact True.intro | exact rfl | exact wv_top _ _ | exact fun _ => rfl | assumption | exact Eq.symm (by assumption) | exact vI0 rfl | refine And.intro ?_ ?_)
  · rw [hpick]
    repeat' (first | exact True.intro | exact rfl | exact wv_top _ _ | exact fun _ => rfl | assumption | exact Eq.symm (by assumption) | exact vI0 rfl | refine And.intro ?_ ?_)
theorem Lr_rvs {fn : Func} (hf : Try.prog.funcs[43]? = some fn) : LoopsGood Try.prog (lt1 e_rvs) 0 (codeOf fn) := by
  obtain rfl := fn_is Try.func43 hf
  exact lt1_good lg_rvs
theorem Lr_rvd {fn : Func} (hf : Try.prog.funcs[71]? = some fn) : LoopsGood Try.prog (lt1 e_rvd) 0 (codeOf fn) := by
  obtain rfl := fn_is Try.func71 hf
  exact lt1_good lg_rvd
def LRv : FuncId → LT := fun f => match f with
  | 43 => lt1 e_rvs
  | 71 => lt1 e_rvd
  | _ => noL
def ERw : Env := mkE B0 (fun _ _ => none) LRv
theorem ERw_ok : EnvOk Try.prog ERw := mkEOk B0_ok (fun _ _ _ _ _ h => (by cases h)) (by
  intro f fn hf
  unfold LRv
  split
  all_goals first | with_reducible exact Lr_rvs hf | with_reducible exact Lr_rvd hf | exact noL_good)
set_option maxRecDepth 100000 in
theorem tr_rvF (ps : List Pt) : bodyM Try.prog ERw (runM Try.prog ERw 30 12) 30 43 [ß 0 ps.length ps.length] [some ⟨.row 32 2, .ints (flat ps)⟩] .fin = .need ((0 : Int) = (0 : Int)) (.need (ŵ ((↑ps.length : Int) - (1 : Int)) = (↑ps.length : Int) - (1 : Int) - (↑(0 : Nat) : Int)) (.need ((flat ps).length = ps.length * (2 : Nat)) (.need (ps.length ≤ (1000000000 : Nat)) (.fin (.tuple #[]) [some ⟨.row 32 2, .ints (flat (revP (ptsA ps.length (flat ps))))⟩])))) := by kernel_rfl
set_option maxRecDepth 100000 in
theorem tr_rdF (ps : List Pt) : bodyX Try.prog ERw 30 12 71 [.row ps.length (.ints (flat ps))] = .need (ŵ ((↑ps.length : Int) - (1 : Int)) = (↑ps.length : Int) - (1 : Int)) (.need ((0 : Nat) = (0 : Nat)) (.need ((flat ps).length = ps.length * (2 : Nat)) (.need (ps.length ≤ (100000 : Nat)) (.fin (ß 2 ((revP (ptsA ps.length (flat ps))).length) ((revP (ptsA ps.length (flat ps))).length)) [some ⟨.view, .ints (flat ps)⟩, some deadB, some ⟨.row 32 2, .ints (flat (revP (ptsA ps.length (flat ps))))⟩])))) := by kernel_rfl
def rvW : WSpec := fun e sz l xs rest => match Nat.beq e 32 && Nat.beq sz 2, rest with
  | true, [] => some (.tuple #[], flat (revP (ptsA l xs)), [xs.length = l * 2, l ≤ 1000000000])
  | _, _ => none
theorem rvW_ok : WSpecOk Try.prog 43 rvW := by
  intro e sz l xs rest v ys C h hC
  unfold rvW at h
  split at h
  rotate_left
  · cases h
  rename_i he
  simp only [Bool.and_eq_true] at he
  obtain rfl := Nat.eq_of_beq_eq_true he.1
  obtain rfl := Nat.eq_of_beq_eq_true he.2
  obtain ⟨rfl, rfl, rfl⟩ : Value.tuple #[] = v ∧ flat (revP (ptsA l xs)) = ys ∧ [xs.length = l * 2, l ≤ 1000000000] = C := by simpa using h
  obtain ⟨h1, h2, _⟩ := hC
  obtain ⟨ps, rfl, rfl⟩ := even_flat h1
  refine ⟨ERw, 30, 12, ERw_ok, rfl, ?_⟩
  rw [tr_rvF]
  simp only [ptsA_flat]
  exact ⟨trivial, by rw [wr (by omega)]; omega, flat_length ps, h2, rfl, _, rfl, rfl, rfl⟩
theorem resR_rvd {ps : List Pt} (h : ps.length ≤ 100000) : ResR Try.prog 71 [.row ps.length (.ints (flat ps))] (rowP (revP ps)) (blkP (revP ps)) := by
  refine bodyX_resR mixed ERw_ok (m := 30) (n := 12) rfl ?_
  rw [tr_rdF]
  simp only [ptsA_flat]
  exact ⟨by rw [wr (by omega)], trivial, flat_length ps, h, some 2, ⟨rfl, rfl, rfl⟩, rfl, rfl, rfl⟩
set_option maxRecDepth 100000 in
theorem grow_any (n : Int) (h : 0 < n ∧ n ≤ 1000) (w : World) : Calls Try.prog 77 #[.slice none 0 0, .int .i64 n] w fun e w' => ∃ v' p, e = .returned v' ∧ Below w.heap.size w w' ∧
    ∀ (ρ : Nat → Option Pl) (name : Nat), ρ name = some p → VR ρ (.slice (some ⟨name, 0, none⟩) 0 0) v' ∧ BlkOk ρ (fun k => k < w.heap.size) w' name ⟨.row 32 2, .ints []⟩ := by
  have h1 : decide (n < 0) = false := decide_eq_false (by omega)
  have h2 : decide (0 < n) = true := decide_eq_true (by omega)
  have hb : Try.t32.bytes = 16 := rfl
  have hc : Builtin.nextslicecap n.toNat 0 = n.toNat := nextslicecap_zero (by omega)
  have hge : n.toNat ≤ (Question.appendCap n.toNat 0 32).cut (w.tape w.drawn (Question.appendCap n.toNat 0 32)) := grownCap_ge w n.toNat 0 32
  have HG := Lib.hid hge
  clear hge
  go_enter Try.func77, Try.ntmps77
  go_wp2_with fail
  all_goals (try (exfalso; first | omega | (rw [hb] at *; omega) | (rw [hc, hb] at *; omega)))
  have hge := HG.out
  clear HG
  go_ret
  refine ⟨_, rfl, Below.drew (na (nr _) _), w.heap.size, 0, some ((Question.appendCap n.toNat 0 32).cut (w.tape w.drawn (Question.appendCap n.toNat 0 32))), fun ρ name hn => ⟨.slice (f := 0) hn (.inl rfl) (Nat.zero_le _) (fun k hk _ => by simpa using hk), .inr ⟨w.heap.size, _, hn, Nat.lt_irrefl _, _, heap_alloc_new w _, ?_, fun k v hk => by simp [Blk.cells, Cs.list] at hk⟩⟩⟩
  rw [Array.size_append, size_zeroCells, size_zeroCells]
  simp only [List.size_toArray, List.length_cons, List.length_nil]
  omega
set_option maxRecDepth 100000 in
theorem resR_grw (n : Int) (h : 0 < n ∧ n ≤ 1000) : ResR Try.prog 77 [.v (.slice none 0 0), .v (.int .i64 n)] (ß 0 0 0) ⟨.row 32 2, .ints []⟩ := by
  refine ⟨(entersB_res (by kernel_rfl)).1, (entersB_res (by kernel_rfl)).2, rfl, fun d hd => ?_, fun w args hd => ?_⟩
  · rcases List.mem_cons.1 hd with rfl | hd
    · exact rfl
    · rw [List.mem_singleton.1 hd]
      exact rfl
  · obtain ⟨h1, h2⟩ := hd
    obtain ⟨x0, x1, rfl⟩ : ∃ x0 x1, args = #[x0, x1] := by
      have h3 : args.size = 2 := by simpa using h1.symm
      match args, h3 with
      | ⟨[x0, x1]⟩, _ => exact ⟨x0, x1, rfl⟩
    obtain ⟨_, rfl⟩ := h2 0 _ x0 rfl rfl
    obtain ⟨_, rfl⟩ := h2 1 _ x1 rfl rfl
    exact grow_any n h w
def RGw : TabR := fun f ds => match f, ds with
  | 77, [.v (.slice none 0 0), .v (.int .i64 n)] => some (ß 0 0 0, ⟨.row 32 2, .ints []⟩, [0 < n ∧ n ≤ 1000])
  | _, _ => none
theorem RGw_ok : TabROk Try.prog RGw := by
  intro f ds v b C h hC
  unfold RGw at h
  (try split at h)
  all_goals first
    | (obtain ⟨rfl, rfl, rfl⟩ : _ ∧ _ ∧ _ := by simpa using h
       exact resR_grw _ hC.1)
    | cases h
def ECt : Env := mkE B0 RGw (fun _ => noL)
theorem ECt_ok : EnvOk Try.prog ECt := mkEOk B0_ok RGw_ok (fun _ _ _ => noL_good)
set_option maxRecDepth 100000 in
theorem tr_cat (l1 l2 : Nat) (y1 y2 : List Int) : bodyM Try.prog ECt (runM Try.prog ECt 30 12) 30 44 [ß 2 2 2] [some ⟨.view, .ints y1⟩, some ⟨.view, .ints y2⟩, some ⟨.view, .vals [ß 0 l1 l1, ß 1 l2 l2]⟩] .fin = .need ((0 : Int) ≤ (0 : Int) ∧ (0 : Int) < (↑(2 : Nat) : Int)) (brT (decide (ŵ (0 + (↑l1 : Int)) < 0)) (.bad) (.need ((0 : Int) ≤ ŵ ((0 : Int) + (1 : Int)) ∧ ŵ ((0 : Int) + (1 : Int)) < (↑(2 : Nat) : Int)) (brT (decide (ŵ (ŵ (0 + (↑l1 : Int)) + (↑l2 : Int)) < 0)) (.bad) (.need ((0 : Int) < ŵ (ŵ ((0 : Int) + (↑l1 : Int)) + (↑l2 : Int)) ∧ ŵ (ŵ ((0 : Int) + (↑l1 : Int)) + (↑l2 : Int)) ≤ (1000 : Int)) (.need ((0 : Int) ≤ (0 : Int) ∧ (0 : Int) < (↑(2 : Nat) : Int)) (.need (((0 : Nat) + (l1, Cs.ints (List.take (l1 * Try.prog.types[(32 : Nat)].size) (List.drop 0 y1)), [(0 : Nat) + l1 * Try.prog.types[(32 : Nat)].size ≤ y1.length]).fst) * (16 : Nat) ≤ (140737488355328 : Nat) ∧ (0 : Nat) + (l1, Cs.ints (List.take (l1 * Try.prog.types[(32 : Nat)].size) (List.drop 0 y1)), [(0 : Nat) + l1 * Try.prog.types[(32 : Nat)].size ≤ y1.length]).fst ≤ (2000000 : Nat)) (.need ((0 : Nat) + l1 * (2 : Nat) ≤ y1.length) (.need ((0 : Nat) ≤ (0 : Nat)) (.need ((0 : Int) ≤ ŵ ((0 : Int) + (1 : Int)) ∧ ŵ ((0 : Int) + (1 : Int)) < (↑(2 : Nat) : Int)) (.need (((0 : Nat) + (l1, Cs.ints (List.take (l1 * Try.prog.types[(32 : Nat)].size) (List.drop 0 y1)), [(0 : Nat) + l1 * Try.prog.types[(32 : Nat)].size ≤ y1.length]).fst + (l2, Cs.ints (List.take (l2 * Try.prog.types[(32 : Nat)].size) (List.drop 0 y2)), [(0 : Nat) + l2 * Try.prog.types[(32 : Nat)].size ≤ y2.length]).fst) * (16 : Nat) ≤ (140737488355328 : Nat) ∧ (0 : Nat) + (l1, Cs.ints (List.take (l1 * Try.prog.types[(32 : Nat)].size) (List.drop 0 y1)), [(0 : Nat) + l1 * Try.prog.types[(32 : Nat)].size ≤ y1.length]).fst + (l2, Cs.ints (List.take (l2 * Try.prog.types[(32 : Nat)].size) (List.drop 0 y2)), [(0 : Nat) + l2 * Try.prog.types[(32 : Nat)].size ≤ y2.length]).fst ≤ (2000000 : Nat)) (.need ((0 : Nat) + l2 * (2 : Nat) ≤ y2.length) (.need ((0 : Nat) + ((0 : Nat) + (l1, Cs.ints (List.take (l1 * Try.prog.types[(32 : Nat)].size) (List.drop 0 y1)), [(0 : Nat) + l1 * Try.prog.types[(32 : Nat)].size ≤ y1.length]).fst) * (2 : Nat) ≤ (List.take (0 : Nat) (List.drop 0 []) ++ List.take (l1 * (2 : Nat)) (List.drop 0 y1)).length) (.fin (ß 5 (0 + (l1, Cs.ints (List.take (l1 * Try.prog.types[32].size) (List.drop 0 y1)), [0 + l1 * Try.prog.types[32].size ≤ y1.length]).fst + (l2, Cs.ints (List.take (l2 * Try.prog.types[32].size) (List.drop 0 y2)), [0 + l2 * Try.prog.types[32].size ≤ y2.length]).fst) (0 + (l1, Cs.ints (List.take (l1 * Try.prog.types[32].size) (List.drop 0 y1)), [0 + l1 * Try.prog.types[32].size ≤ y1.length]).fst + (l2, Cs.ints (List.take (l2 * Try.prog.types[32].size) (List.drop 0 y2)), [0 + l2 * Try.prog.types[32].size ≤ y2.length]).fst)) [some ⟨.view, .ints (y1)⟩, some ⟨.view, .ints (y2)⟩, some ⟨.view, .vals [ß 0 (l1) (l1), ß 1 (l2) (l2)]⟩, some deadB, some deadB, some ⟨.row 32 2, .ints (List.take ((0 + (l1, Cs.ints (List.take (l1 * Try.prog.types[32].size) (List.drop 0 y1)), [0 + l1 * Try.prog.types[32].size ≤ y1.length]).fst) * 2) (List.drop 0 (List.take 0 (List.drop 0 []) ++ List.take (l1 * 2) (List.drop 0 y1))) ++ List.take (l2 * 2) (List.drop 0 y2))⟩]))))))))))))) := by kernel_rfl
theorem two_open {w : World} {l1 l2 : Nat} {y1 y2 : List Int} {x1 x2 : Value} (h1 : DOk w (.row l1 (.ints y1)) x1) (h2 : DOk w (.row l2 (.ints y2)) x2) {g f : Nat} (hg : g < w.heap.size) (c1 : w.cell? ⟨g, f, none⟩ = some x1) (c2 : w.cell? ⟨g, f + 1, none⟩ = some x2) (B : Nat → Prop) :
    ∃ ρ : Nat → Option Pl, ρ 2 = some (g, f, none) ∧ MemOk (fun _ => none) ρ B (fun n => [some (⟨.view, .ints y1⟩ : Blk), some ⟨.view, .ints y2⟩, some ⟨.view, .vals [ß 0 l1 l1, ß 1 l2 l2]⟩].getD n none) w := by
  obtain ⟨ρ, ha, hm⟩ := args_open (w := w) (ds := [.row l1 (.ints y1), .row l2 (.ints y2)]) (args := #[x1, x2]) ⟨rfl, fun i d y hd hy => by
    match i, hd, hy with
    | 0, hd, hy =>
      obtain rfl : DArg.row l1 (.ints y1) = d := by simpa using hd
      obtain rfl : x1 = y := by simpa using hy
      exact h1
    | 1, hd, hy =>
      obtain rfl : DArg.row l2 (.ints y2) = d := by simpa using hd
      obtain rfl : x2 = y := by simpa using hy
      exact h2
    | i + 2, hd, hy => simp at hd⟩ B
  have hn : ρ 2 = none := hm.fresh 2 rfl
  have v0 : VR ρ (ß 0 l1 l1) x1 := ha.2 0 _ _ rfl rfl
  have v1 : VR ρ (ß 1 l2 l2) x2 := ha.2 1 _ _ rfl rfl
  have hext : Ext ρ (addPl ρ 2 (g, f, none)) := addPl_ext hn
  refine ⟨addPl ρ 2 (g, f, none), addPl_same _ _ _, fun n p hp => by simp at hp, fun n hn' => ?_, fun n b hb => ?_, fun n n' b b' p p' hb hown => ?_⟩
  · have h3 : 3 ≤ n := by
      rcases Nat.lt_or_ge n 3 with h | h
      · match n, h with
        | 0, _ => simp at hn'
        | 1, _ => simp at hn'
        | 2, _ => simp at hn'
      · exact h
    rw [addPl_ne (by omega)]
    refine hm.fresh n ?_
    match n, h3 with
    | n + 3, _ => rfl
  · match n, hb with
    | 0, hb =>
      obtain rfl : (⟨.view, .ints y1⟩ : Blk) = b := by simpa using hb
      exact (hm.ok 0 _ rfl).keep hext (Nat.le_refl _) fun _ _ _ _ => rfl
    | 1, hb =>
      obtain rfl : (⟨.view, .ints y2⟩ : Blk) = b := by simpa using hb
      exact (hm.ok 1 _ rfl).keep hext (Nat.le_refl _) fun _ _ _ _ => rfl
    | 2, hb =>
      obtain rfl : (⟨.view, .vals [ß 0 l1 l1, ß 1 l2 l2]⟩ : Blk) = b := by simpa using hb
      refine .inr ⟨g, f, none, addPl_same _ _ _, .inr rfl, hg, fun k v hk => ?_⟩
      match k, hk with
      | 0, hk =>
        obtain rfl : ß 0 l1 l1 = v := by simpa [Blk.cells, Cs.list] using hk
        exact ⟨x1, c1, v0.ext hext⟩
      | 1, hk =>
        obtain rfl : ß 1 l2 l2 = v := by simpa [Blk.cells, Cs.list] using hk
        exact ⟨x2, c2, v1.ext hext⟩
      | k + 2, hk => simp [Blk.cells, Cs.list] at hk
    | n + 3, hb => simp at hb
  · exfalso
    match n, hb with
    | 0, hb =>
      obtain rfl : (⟨.view, .ints y1⟩ : Blk) = b := by simpa using hb
      cases hown
    | 1, hb =>
      obtain rfl : (⟨.view, .ints y2⟩ : Blk) = b := by simpa using hb
      cases hown
    | 2, hb =>
      obtain rfl : (⟨.view, .vals [ß 0 l1 l1, ß 1 l2 l2]⟩ : Blk) = b := by simpa using hb
      cases hown
    | n + 3, hb => simp at hb
theorem two_call {P : Program} (hm : P.follows .mixedOrders = true) {E : Env} (hE : EnvOk P E) {m n : Nat} {f : FuncId} {l1 l2 : Nat} {y1 y2 : List Int} {v : Value} {b : Blk} (hb : isRow b = true)
    (h : (bodyM P E (runM P E m n) m f [ß 2 2 2] [some ⟨.view, .ints y1⟩, some ⟨.view, .ints y2⟩, some ⟨.view, .vals [ß 0 l1 l1, ß 1 l2 l2]⟩] .fin).ok (fun _ _ => False) (fun u mem => RowIs v b u mem))
    (w : World) {x1 x2 : Value} (h1 : DOk w (.row l1 (.ints y1)) x1) (h2 : DOk w (.row l2 (.ints y2)) x2) {g fo c : Nat} (hg : g < w.heap.size) (c1 : w.cell? ⟨g, fo, none⟩ = some x1) (c2 : w.cell? ⟨g, fo + 1, none⟩ = some x2) (hc : 2 ≤ c) :
    Calls P f #[.slice (some ⟨g, fo, none⟩) 2 c] w fun e w' => ∃ v' p, e = .returned v' ∧ Below w.heap.size w w' ∧ ∀ ρ name, ρ name = some p → VR ρ (atName name v) v' ∧ BlkOk ρ (fun k => k < w.heap.size) w' name b := by
  obtain ⟨u, mem', ⟨src, hrv, hsrc⟩, hent, hdet⟩ := bodyM_ok hE hm (runM_ok hm hE m n) m f _ _ _ _ _ h
  obtain ⟨kd, cs⟩ := b
  cases kd with
  | row e sz =>
    obtain ⟨ρ, hρ, hmem⟩ := two_open h1 h2 hg c1 c2 (fun k => k < w.heap.size)
    refine (hdet ⟨w, fun _ => none, fun k => k < w.heap.size, fun _ h => h, [], none⟩ ρ #[.slice (some ⟨g, fo, none⟩) 2 c] w ⟨rfl, fun i a x ha hx => ?_⟩ hmem (BelowK.refl _ _)).mono ?_
    · match i, ha, hx with
      | 0, ha, hx =>
        obtain rfl : ß 2 2 2 = a := by simpa using ha
        obtain rfl : Value.slice (some ⟨g, fo, none⟩) 2 c = x := by simpa using hx
        exact .slice (o := 0) hρ (.inr rfl) hc (fun k hk => by simp at hk)
      | i + 1, ha, hx => simp at ha
    rintro e' w' ⟨v', ρ', rfl, _, g2, g3, g4⟩
    cases src with
    | none => exact ⟨v', (0, 1, some 0), rfl, g3.to, fun ρ2 name hp => ⟨rv_ok (ρ := ρ') (src := none) hp hrv g2, .inl ⟨_, hp, rfl, rfl⟩⟩⟩
    | some k =>
      simp only at hsrc
      split at hsrc
      rotate_left
      · exact hsrc.elim
      rename_i b' hb'
      obtain ⟨kd', cs'⟩ := b'
      cases kd' with
      | row e2 sz2 =>
        obtain ⟨rfl, rfl, hc⟩ := hsrc
        obtain ⟨d1, d2⟩ := rc_list hc
        rcases g4.ok k _ hb' with ⟨p, h1, h2, h3⟩ | ⟨g, cap, h1, h2, arr, h3, h4, h5⟩
        · exact ⟨v', p, rfl, g3.to, fun ρ2 name hp => ⟨rv_ok (ρ := ρ') (src := some k) (hp.trans h1.symm) hrv g2, .inl ⟨p, hp, h2, h3⟩⟩⟩
        · refine ⟨v', _, rfl, g3.to, fun ρ2 name hp => ⟨rv_ok (ρ := ρ') (src := some k) (hp.trans h1.symm) hrv g2, .inr ⟨g, cap, hp, h2, arr, h3, h4, ?_⟩⟩⟩
          intro i x hx
          obtain ⟨x', k1, k2⟩ := h5 i x (by show cs'.list[i]? = some x; rw [d1]; exact hx)
          refine ⟨x', k1, ?_⟩
          have hat := plain_of_atom (d2 x (List.mem_of_getElem? hx))
          rw [k2.plain hat]
          exact .lit hat
      | _ => exact hsrc.elim
  | _ => cases hb
abbrev catB (l1 l2 : Nat) (y1 y2 : List Int) : Blk := ⟨.row 32 2, .ints (y1.take (l1 * 2) ++ y2.take (l2 * 2))⟩
theorem cat_row {l1 l2 : Nat} {y1 y2 : List Int} (h1 : l1 * 2 ≤ y1.length) (h2 : l2 * 2 ≤ y2.length) (h0 : 0 < l1 + l2) (h3 : l1 + l2 ≤ 1000) : (bodyM Try.prog ECt (runM Try.prog ECt 30 12) 30 44 [ß 2 2 2] [some ⟨.view, .ints y1⟩, some ⟨.view, .ints y2⟩, some ⟨.view, .vals [ß 0 l1 l1, ß 1 l2 l2]⟩] .fin).ok (fun _ _ => False) (fun u mem => RowIs (ß 0 (l1 + l2) (l1 + l2)) (catB l1 l2 y1 y2) u mem) := by
  rw [tr_cat]
  have e1 : ŵ (0 + (l1 : Int)) = (l1 : Int) := by rw [wr (by omega)]; omega
  have e2 : ŵ ((l1 : Int) + (l2 : Int)) = (l1 : Int) + l2 := wr (by omega)
  have e3 : ŵ ((0 : Int) + 1) = 1 := by rw [wr (by omega)]; rfl
  have t1 : (y1.take (l1 * 2)).length = l1 * 2 := by rw [List.length_take]; omega
  simp only [e1, e2, e3, List.drop_zero, List.take_zero, List.nil_append, Nat.zero_add, List.take_take, Nat.min_self, t1]
  refine ⟨⟨by omega, by omega⟩, brT_ok.2 ⟨fun q => ?_, fun _ => ⟨⟨by omega, by omega⟩, brT_ok.2 ⟨fun q => ?_, fun _ => ⟨⟨by omega, by omega⟩, ⟨by omega, by omega⟩, ⟨by omega, by omega⟩, h1, by omega, ⟨by omega, by omega⟩, ⟨by omega, by omega⟩, h2, by omega, some 5, ⟨rfl, rfl, rfl⟩, rfl, rfl, rfl⟩⟩⟩⟩⟩
  · have := of_decide_eq_true q; omega
  · have := of_decide_eq_true q; omega
def rowI : DArg → Option (Nat × List Int)
  | .row l (.ints y) => some (l, y)
  | _ => none
theorem rowI_spec {d : DArg} {l : Nat} {y : List Int} (h : rowI d = some (l, y)) : d = .row l (.ints y) := by
  unfold rowI at h
  split at h
  · obtain ⟨rfl, rfl⟩ : _ ∧ _ := by simpa using h
    rfl
  · cases h
def catG (name : Nat) (args : List Value) : Rd Eff := match args with
  | [.slice (some ⟨nb, 0, none⟩) 2 _] => .blk nb fun b => match b with
    | some ⟨.row _ 1, .vals [s1, s2]⟩ => (rdArg s1).bind fun d1 => (rdArg s2).bind fun d2 => (match rowI d1, rowI d2 with
      | some (l1, y1), some (l2, y2) => .ret ⟨.slice (some ⟨name, 0, none⟩) (l1 + l2) (l1 + l2), [(name, catB l1 l2 y1 y2)], [l1 * 2 ≤ y1.length, l2 * 2 ≤ y2.length, 0 < l1 + l2, l1 + l2 ≤ 1000]⟩
      | _, _ => .fail)
    | _ => .fail
  | _ => .fail
set_option maxRecDepth 100000 in
theorem catG_sound {J : TabJ} (hJ : GSound Try.prog J.g) : GSound Try.prog (consR 44 catG J).g := by
  intro h name args s eff hr hn
  simp only [consR] at hr
  split at hr
  rotate_left
  · exact hJ h name args s eff hr hn
  rename_i heq
  obtain rfl := Nat.eq_of_beq_eq_true heq
  refine ⟨(entersB_res (by kernel_rfl)).1, fun B ρ0 ρ w args' ha hm hB hcond => ?_⟩
  unfold catG at hr
  split at hr
  rotate_left
  · simp [Rd.run] at hr
  rename_i nb c
  simp only [Rd.run] at hr
  split at hr
  rotate_left
  · simp [Rd.run] at hr
  rename_i e s1 s2 hb
  obtain ⟨d1, hd1, hr1⟩ := bind_some hr
  obtain ⟨d2, hd2, hr2⟩ := bind_some hr1
  clear hr hr1
  split at hr2
  rotate_left
  · simp [Rd.run] at hr2
  rename_i l1 y1 l2 y2 r1 r2
  obtain rfl := rowI_spec r1
  obtain rfl := rowI_spec r2
  obtain rfl : (⟨.slice (some ⟨name, 0, none⟩) (l1 + l2) (l1 + l2), [(name, catB l1 l2 y1 y2)], [l1 * 2 ≤ y1.length, l2 * 2 ≤ y2.length, 0 < l1 + l2, l1 + l2 ≤ 1000]⟩ : Eff) = eff := by simpa [Rd.run] using hr2
  obtain ⟨k1, k2, k3, k4, _⟩ := hcond
  obtain ⟨hsz, hval⟩ := ha
  obtain ⟨x0, rfl⟩ : ∃ x0, args' = #[x0] := by
    have h2 : args'.size = 1 := by simpa using hsz.symm
    match args', h2 with
    | ⟨[x0]⟩, _ => exact ⟨x0, rfl⟩
  have v0 := hval 0 _ x0 rfl rfl
  rcases v0.slice_inv with ⟨g, f, cp, c', j1, jok, j2, j3, j4⟩ | ⟨hl0, _⟩ | ⟨hl0, _⟩
  rotate_left
  · omega
  · omega
  rcases hm.ok nb _ hb with ⟨p, q1, q2, q3⟩ | ⟨g2, cap, q1, q2, cs', q3, q4, q5⟩
  · rw [q1] at j1
    obtain rfl : p = (g, f, cp) := by simpa using j1
    exact absurd ⟨q2, 0, q3⟩ jok.not
  rw [q1] at j1
  obtain ⟨rfl, rfl, rfl⟩ : g2 = g ∧ 0 = f ∧ some cap = cp := by simpa using j1
  subst j2
  obtain ⟨x1, a1, a2⟩ := q5 0 s1 rfl
  obtain ⟨x2, b1, b2⟩ := q5 1 s2 rfl
  have hg : g2 < w.heap.size := (Array.getElem?_eq_some_iff.1 q3).1
  have cell : ∀ k x, cs'[k]? = some x → w.cell? ⟨g2, 0 + k, none⟩ = some x := fun k x hx => by
    simp only [World.cell?, Nat.zero_add, q3, Option.isSome_none, Bool.false_eq_true, if_false, hx]
  refine (two_call mixed ECt_ok rfl (cat_row k1 k2 k3 k4) w ((rdArg_ok hd1).2 a2 hm) ((rdArg_ok hd2).2 b2 hm) hg (cell 0 _ a1) (cell 1 _ b1) j3).mono ?_
  rintro e' w' ⟨v', p, rfl, hbel, hrow⟩
  obtain ⟨g1, g3⟩ := hrow (addPl ρ name p) name (addPl_same _ _ _)
  refine ⟨v', addPl ρ name p, rfl, addPl_ext (hm.fresh name hn), g1, BelowK.of hbel hB, ?_⟩
  rw [upd_one]
  exact hm.newRow hB hbel hn rfl g3
def RHu : TabR := fun f ds => match f, ds with
  | 42, [.row m (.ints xs)] => some (rowP (chn [] (ptsA m xs)), blkP (chn [] (ptsA m xs)), [m * 2 ≤ xs.length, allV (ptsA m xs) = true, m ≤ 1000])
  | 70, [.row m (.ints xs)] => some (rowP (chn [] (ptsA m xs)), blkP (chn [] (ptsA m xs)), [m * 2 ≤ xs.length, allV (ptsA m xs) = true, m ≤ 1000])
  | 71, [.row m (.ints xs)] => some (rowP (revP (ptsA m xs)), blkP (revP (ptsA m xs)), [m * 2 ≤ xs.length, m ≤ 100000])
  | f, ds => RSq f ds
theorem RHu_ok : TabROk Try.prog RHu := by
  intro f ds v b C h hC
  unfold RHu at h
  (try split at h)
  all_goals first
    | (obtain ⟨rfl, rfl, rfl⟩ : _ ∧ _ ∧ _ := by simpa using h
       obtain ⟨_, h2⟩ := ptsA_spec hC.1
       have h1 := resR_pts1 (pre := []) (post := []) hC.1 (resR_iCn hC.2.1 (by rw [h2]; exact hC.2.2.1))
       simp only [List.nil_append, List.append_nil] at h1
       with_reducible exact h1)
    | (obtain ⟨rfl, rfl, rfl⟩ : _ ∧ _ ∧ _ := by simpa using h
       obtain ⟨_, h2⟩ := ptsA_spec hC.1
       have h1 := resR_pts1 (pre := []) (post := []) hC.1 (resR_sCn hC.2.1 (by rw [h2]; exact hC.2.2.1))
       simp only [List.nil_append, List.append_nil] at h1
       with_reducible exact h1)
    | (obtain ⟨rfl, rfl, rfl⟩ : _ ∧ _ ∧ _ := by simpa using h
       obtain ⟨_, h2⟩ := ptsA_spec hC.1
       have h1 := resR_pts1 (pre := []) (post := []) hC.1 (resR_rvd (by rw [h2]; exact hC.2.1))
       simp only [List.nil_append, List.append_nil] at h1
       with_reducible exact h1)
    | exact RSq_ok _ _ _ _ _ h hC
def JRv : TabJ := consJ 43 (fun _ => wrG rvW) noJ
theorem JRv_ok : GSound Try.prog JRv.g := consJ_wr mixed (failG_sound Try.prog) (entersB_res (by kernel_rfl)).1 rvW_ok
def JHu : TabJ := consR 44 catG JRv
theorem JHu_ok : GSound Try.prog JHu.g := catG_sound JRv_ok
def EHu : Env := withT (mkE T3 RHu (fun _ => noL)) JHu
theorem EHu_ok : EnvOk Try.prog EHu := withT_ok (mkEOk T3_ok RHu_ok (fun _ _ _ => noL_good)) JHu_ok
def EHvs : Env := mkE T3 RHu (fun _ => noL)
theorem EHvs_ok : EnvOk Try.prog EHvs := mkEOk T3_ok RHu_ok (fun _ _ _ => noL_good)
abbrev zsHu_0 (ps : List Pt) := (ptsA (srtL (ptsA ps.length (List.drop 0 (flat ps)))).length (List.drop 0 (flat (srtL (ptsA ps.length (List.drop 0 (flat ps)))))))
abbrev zsHu_1 (ps : List Pt) := (chn [] (ptsA (revP (ptsA (srtL (ptsA ps.length (List.drop 0 (flat ps)))).length (List.drop 0 (flat (srtL (ptsA ps.length (List.drop 0 (flat ps)))))))).length (List.drop 0 (flat (revP (ptsA (srtL (ptsA ps.length (List.drop 0 (flat ps)))).length (List.drop 0 (flat (srtL (ptsA ps.length (List.drop 0 (flat ps))))))))))))
abbrev zsHu_2 (ps : List Pt) := (chn [] (ptsA (revP (zsHu_0 ps)).length (List.drop 0 (flat (revP (zsHu_0 ps))))))
abbrev zsHu_3 (ps : List Pt) := (ptsA (srtL (ptsA ps.length (List.drop 0 (flat ps)))).length (List.drop 0 (flat (srtL (ptsA ps.length (List.drop 0 (flat ps)))))))
abbrev zsHu_4 (ps : List Pt) := (bndI (some (IntKind.i64, ŵ ((↑(zsHu_2 ps).length : Int) - (1 : Int)))) (↑(zsHu_2 ps).length : Int))
abbrev zsHu_5 (ps : List Pt) := (bndI (some (IntKind.i64, ŵ ((↑(zsHu_1 ps).length : Int) - 1))) (↑(zsHu_1 ps).length : Int))
set_option maxRecDepth 100000 in
theorem tr_sHu (ps : List Pt) : bodyX Try.prog EHvs 30 12 38 [.row ps.length (.ints (flat ps))] = .need (ps.length * (2 : Nat) ≤ (List.drop 0 (flat ps)).length) (.need (ps.length ≤ (1000 : Nat)) (brT (decide ((↑(srtL (ptsA ps.length (List.drop 0 (flat ps)))).length : Int) < 3)) (.fin (ß 1 ((srtL (ptsA ps.length (List.drop 0 (flat ps)))).length) ((srtL (ptsA ps.length (List.drop 0 (flat ps)))).length)) [some ⟨.view, .ints (flat ps)⟩, some ⟨.row 32 2, .ints (flat (srtL (ptsA ps.length (List.drop 0 (flat ps)))))⟩]) (.need ((srtL (ptsA ps.length (List.drop 0 (flat ps)))).length * (2 : Nat) ≤ (List.drop 0 (flat (srtL (ptsA ps.length (List.drop 0 (flat ps)))))).length) (.need (allV (zsHu_0 ps) = true) (.need ((srtL (ptsA ps.length (List.drop 0 (flat ps)))).length ≤ (1000 : Nat)) (.need ((srtL (ptsA ps.length (List.drop 0 (flat ps)))).length * (2 : Nat) ≤ (List.drop 0 (flat (srtL (ptsA ps.length (List.drop 0 (flat ps)))))).length) (.need ((srtL (ptsA ps.length (List.drop 0 (flat ps)))).length ≤ (100000 : Nat)) (.need ((revP (zsHu_0 ps)).length * (2 : Nat) ≤ (List.drop 0 (flat (revP (zsHu_0 ps)))).length) (.need (allV (ptsA (revP (zsHu_0 ps)).length (List.drop 0 (flat (revP (zsHu_0 ps))))) = true) (.need ((revP (zsHu_0 ps)).length ≤ (1000 : Nat)) (.need ((0 : Int) ≤ bndI none (0 : Int) ∧ bndI none (0 : Int) ≤ bndI (some (IntKind.i64, ŵ ((↑(chn [] (zsHu_0 ps)).length : Int) - (1 : Int)))) (↑(chn [] (zsHu_0 ps)).length : Int) ∧ bndI (some (IntKind.i64, ŵ ((↑(chn [] (zsHu_0 ps)).length : Int) - (1 : Int)))) (↑(chn [] (zsHu_0 ps)).length : Int) ≤ (↑(chn [] (zsHu_0 ps)).length : Int)) (.need ((0 : Int) ≤ bndI none (0 : Int) ∧ bndI none (0 : Int) ≤ bndI (some (IntKind.i64, ŵ ((↑(zsHu_2 ps).length : Int) - (1 : Int)))) (↑(zsHu_2 ps).length : Int) ∧ bndI (some (IntKind.i64, ŵ ((↑(zsHu_2 ps).length : Int) - (1 : Int)))) (↑(zsHu_2 ps).length : Int) ≤ (↑(zsHu_2 ps).length : Int)) (.need (((bndI (some (IntKind.i64, ŵ ((↑(chn [] (zsHu_0 ps)).length : Int) - (1 : Int)))) (↑(chn [] (zsHu_0 ps)).length : Int)).toNat - (0 : Nat) + ((zsHu_4 ps).toNat - (bndI none (0 : Int)).toNat, Cs.ints (List.take (((zsHu_4 ps).toNat - (bndI none (0 : Int)).toNat) * Try.prog.types[(32 : Nat)].size) (List.drop ((0 : Nat) + (bndI none (0 : Int)).toNat * Try.prog.types[(32 : Nat)].size) (flat (zsHu_2 ps)))), [(0 : Nat) + (bndI none (0 : Int)).toNat * Try.prog.types[(32 : Nat)].size + ((zsHu_4 ps).toNat - (bndI none (0 : Int)).toNat) * Try.prog.types[(32 : Nat)].size ≤ (flat (zsHu_2 ps)).length]).fst) * (16 : Nat) ≤ (140737488355328 : Nat) ∧ (bndI (some (IntKind.i64, ŵ ((↑(chn [] (zsHu_0 ps)).length : Int) - (1 : Int)))) (↑(chn [] (zsHu_0 ps)).length : Int)).toNat - (0 : Nat) + ((zsHu_4 ps).toNat - (bndI none (0 : Int)).toNat, Cs.ints (List.take (((zsHu_4 ps).toNat - (bndI none (0 : Int)).toNat) * Try.prog.types[(32 : Nat)].size) (List.drop ((0 : Nat) + (bndI none (0 : Int)).toNat * Try.prog.types[(32 : Nat)].size) (flat (zsHu_2 ps)))), [(0 : Nat) + (bndI none (0 : Int)).toNat * Try.prog.types[(32 : Nat)].size + ((zsHu_4 ps).toNat - (bndI none (0 : Int)).toNat) * Try.prog.types[(32 : Nat)].size ≤ (flat (zsHu_2 ps)).length]).fst ≤ (2000000 : Nat)) (.need ((0 : Nat) + ((zsHu_4 ps).toNat - (0 : Nat)) * (2 : Nat) ≤ (flat (zsHu_2 ps)).length) (.need ((0 : Nat) + ((bndI (some (IntKind.i64, ŵ ((↑(chn [] (zsHu_0 ps)).length : Int) - (1 : Int)))) (↑(chn [] (zsHu_0 ps)).length : Int)).toNat - (0 : Nat)) * (2 : Nat) ≤ (flat (chn [] (zsHu_0 ps))).length) (.fin (ß 5 ((bndI (some (IntKind.i64, ŵ ((↑(chn [] (zsHu_3 ps)).length : Int) - 1))) (↑(chn [] (zsHu_3 ps)).length : Int)).toNat - 0 + ((zsHu_5 ps).toNat - (bndI none 0).toNat, Cs.ints (List.take (((zsHu_5 ps).toNat - (bndI none 0).toNat) * Try.prog.types[32].size) (List.drop (0 + (bndI none 0).toNat * Try.prog.types[32].size) (flat (zsHu_1 ps)))), [0 + (bndI none 0).toNat * Try.prog.types[32].size + ((zsHu_5 ps).toNat - (bndI none 0).toNat) * Try.prog.types[32].size ≤ (flat (zsHu_1 ps)).length]).fst) ((bndI (some (IntKind.i64, ŵ ((↑(chn [] (zsHu_3 ps)).length : Int) - 1))) (↑(chn [] (zsHu_3 ps)).length : Int)).toNat - 0 + ((zsHu_5 ps).toNat - (bndI none 0).toNat, Cs.ints (List.take (((zsHu_5 ps).toNat - (bndI none 0).toNat) * Try.prog.types[32].size) (List.drop (0 + (bndI none 0).toNat * Try.prog.types[32].size) (flat (zsHu_1 ps)))), [0 + (bndI none 0).toNat * Try.prog.types[32].size + ((zsHu_5 ps).toNat - (bndI none 0).toNat) * Try.prog.types[32].size ≤ (flat (zsHu_1 ps)).length]).fst)) [some ⟨.view, .ints (flat ps)⟩, some ⟨.row 32 2, .ints (flat (srtL (ptsA ps.length (List.drop 0 (flat ps)))))⟩, some deadB, some ⟨.row 32 2, .ints (flat (revP (zsHu_3 ps)))⟩, some ⟨.row 32 2, .ints (flat (zsHu_1 ps))⟩, some ⟨.row 32 2, .ints (List.take (((bndI (some (IntKind.i64, ŵ ((↑(chn [] (zsHu_3 ps)).length : Int) - 1))) (↑(chn [] (zsHu_3 ps)).length : Int)).toNat - 0) * 2) (List.drop 0 (flat (chn [] (zsHu_3 ps)))) ++ List.take (((zsHu_5 ps).toNat - 0) * 2) (List.drop 0 (flat (zsHu_1 ps))))⟩])))))))))))))))) := by kernel_rfl
abbrev ziHu_0 (ps : List Pt) := (spV (ptsA ps.length (List.drop 0 (flat ps))))
abbrev ziHu_1 (ps : List Pt) := (spV (ptsA ps.length (List.drop 0 (flat ps))))
abbrev ziHu_2 (ps : List Pt) := (↑(chn [] (ptsA (ziHu_0 ps).length (List.drop 0 (flat (revP (ptsA (ziHu_0 ps).length (flat (ziHu_0 ps)))))))).length : Int)
abbrev ziHu_3 (ps : List Pt) := ((bndI (some (IntKind.i64, ŵ ((↑(chn [] (ptsA (ziHu_1 ps).length (List.drop 0 (flat (revP (ptsA (ziHu_1 ps).length (flat (ziHu_1 ps)))))))).length : Int) - 1))) (↑(chn [] (ptsA (ziHu_1 ps).length (List.drop 0 (flat (revP (ptsA (ziHu_1 ps).length (flat (ziHu_1 ps)))))))).length : Int)).toNat - 0)
abbrev ziHu_4 (ps : List Pt) := (bndI (some (IntKind.i64, ŵ ((↑(chn [] (ptsA (ziHu_1 ps).length (List.drop 0 (flat (ziHu_1 ps))))).length : Int) - 1))) (↑(chn [] (ptsA (ziHu_1 ps).length (List.drop 0 (flat (ziHu_1 ps))))).length : Int))
abbrev ziHu_5 (ps : List Pt) := (↑(chn [] (ptsA (ziHu_0 ps).length (List.drop 0 (flat (ziHu_0 ps))))).length : Int)
set_option maxRecDepth 100000 in
theorem tr_iHu (ps : List Pt) : bodyX Try.prog EHu 30 12 17 [.row ps.length (.ints (flat ps))] = .need (ps.length * (2 : Nat) ≤ (List.drop 0 (flat ps)).length) (.need (ps.length ≤ (1000000000 : Nat)) (brT (decide ((↑(ziHu_1 ps).length : Int) < 2)) (.fin (ß 1 ((ziHu_1 ps).length) ((ziHu_1 ps).length)) [some ⟨.view, .ints (flat ps)⟩, some ⟨.row 32 2, .ints (flat (ziHu_1 ps))⟩]) (.need ((ziHu_0 ps).length * (2 : Nat) ≤ (List.drop 0 (flat (ziHu_0 ps))).length) (.need (allV (ptsA (ziHu_0 ps).length (List.drop 0 (flat (ziHu_0 ps)))) = true) (.need ((ziHu_0 ps).length ≤ (1000 : Nat)) (.need ((flat (ziHu_0 ps)).length = (ziHu_0 ps).length * (2 : Nat)) (.need ((ziHu_0 ps).length ≤ (1000000000 : Nat)) (.need ((ziHu_0 ps).length * (2 : Nat) ≤ (List.drop 0 (flat (revP (ptsA (ziHu_0 ps).length (flat (ziHu_0 ps)))))).length) (.need (allV (ptsA (ziHu_0 ps).length (List.drop 0 (flat (revP (ptsA (ziHu_0 ps).length (flat (ziHu_0 ps))))))) = true) (.need ((ziHu_0 ps).length ≤ (1000 : Nat)) (.need ((0 : Int) ≤ bndI none (0 : Int) ∧ bndI none (0 : Int) ≤ bndI (some (IntKind.i64, ŵ ((ziHu_5 ps) - (1 : Int)))) (ziHu_5 ps) ∧ bndI (some (IntKind.i64, ŵ ((ziHu_5 ps) - (1 : Int)))) (ziHu_5 ps) ≤ (ziHu_5 ps)) (.need ((0 : Int) ≤ bndI none (0 : Int) ∧ bndI none (0 : Int) ≤ bndI (some (IntKind.i64, ŵ ((ziHu_2 ps) - (1 : Int)))) (ziHu_2 ps) ∧ bndI (some (IntKind.i64, ŵ ((ziHu_2 ps) - (1 : Int)))) (ziHu_2 ps) ≤ (ziHu_2 ps)) (.need (((bndI (some (IntKind.i64, ŵ ((ziHu_5 ps) - (1 : Int)))) (ziHu_5 ps)).toNat - (0 : Nat)) * (2 : Nat) ≤ (List.drop 0 (flat (chn [] (ptsA (ziHu_0 ps).length (List.drop 0 (flat (ziHu_0 ps))))))).length) (.need (((bndI (some (IntKind.i64, ŵ ((ziHu_2 ps) - (1 : Int)))) (ziHu_2 ps)).toNat - (0 : Nat)) * (2 : Nat) ≤ (List.drop 0 (flat (chn [] (ptsA (ziHu_0 ps).length (List.drop 0 (flat (revP (ptsA (ziHu_0 ps).length (flat (ziHu_0 ps)))))))))).length) (.need ((0 : Nat) < (bndI (some (IntKind.i64, ŵ ((ziHu_5 ps) - (1 : Int)))) (ziHu_5 ps)).toNat - (0 : Nat) + ((bndI (some (IntKind.i64, ŵ ((ziHu_2 ps) - (1 : Int)))) (ziHu_2 ps)).toNat - (0 : Nat))) (.need ((bndI (some (IntKind.i64, ŵ ((ziHu_5 ps) - (1 : Int)))) (ziHu_5 ps)).toNat - (0 : Nat) + ((bndI (some (IntKind.i64, ŵ ((ziHu_2 ps) - (1 : Int)))) (ziHu_2 ps)).toNat - (0 : Nat)) ≤ (1000 : Nat)) (.fin (ß 5 ((ziHu_4 ps).toNat - 0 + (ziHu_3 ps)) ((ziHu_4 ps).toNat - 0 + (ziHu_3 ps))) [some ⟨.view, .ints (flat ps)⟩, some ⟨.row 32 2, .ints (flat (revP (ptsA (ziHu_1 ps).length (flat (ziHu_1 ps)))))⟩, some ⟨.row 32 2, .ints (flat (chn [] (ptsA (ziHu_1 ps).length (List.drop 0 (flat (ziHu_1 ps))))))⟩, some ⟨.row 32 2, .ints (flat (chn [] (ptsA (ziHu_1 ps).length (List.drop 0 (flat (revP (ptsA (ziHu_1 ps).length (flat (ziHu_1 ps)))))))))⟩, some ⟨.row 23 1, .vals [ß 2 ((ziHu_4 ps).toNat - 0) ((ziHu_4 ps).toNat - 0), ß 3 (ziHu_3 ps) (ziHu_3 ps)]⟩, some ⟨.row 32 2, .ints (List.take (((ziHu_4 ps).toNat - 0) * 2) (List.drop 0 (flat (chn [] (ptsA (ziHu_1 ps).length (List.drop 0 (flat (ziHu_1 ps))))))) ++ List.take ((ziHu_3 ps) * 2) (List.drop 0 (flat (chn [] (ptsA (ziHu_1 ps).length (List.drop 0 (flat (revP (ptsA (ziHu_1 ps).length (flat (ziHu_1 ps)))))))))))⟩]))))))))))))))))) := by kernel_rfl
theorem allV_srt {ps : List Pt} (h : allV ps = true) : allV (srtL ps) = true := List.all_eq_true.2 fun z hz => List.all_eq_true.1 h z ((srtL_mem ps z).1 hz)
theorem srtL_le (ps : List Pt) : (srtL ps).length ≤ ps.length := by
  have := srtO_le ps []
  simpa [srtL] using this
theorem resR_sHu {ps : List Pt} (hv : allV ps = true) (h : ps.length ≤ 1000) : ResR Try.prog 38 [.row ps.length (.ints (flat ps))] (rowP (hulL (srtL ps))) (blkP (hulL (srtL ps))) := by
  refine bodyX_resR mixed EHvs_ok (m := 30) (n := 12) rfl ?_
  rw [tr_sHu]
  try delta zB2 zB4 zR2 zI zsHu_0 zsHu_1 zsHu_2 zsHu_3 zsHu_4 zsHu_5
  have hs := allV_srt hv
  have hle := srtL_le ps
  simp only [List.drop_zero, ptsA_flat, flat_length, bnd_some, bnd_none, Int.toNat_zero, Nat.sub_zero, Nat.zero_mul, Nat.zero_add, Nat.add_zero]
  generalize srtL ps = s at *
  have c1 := chn_len s []
  have c2 := chn_len (revP s) []
  have r1 := revP_len s
  simp only [List.length_nil, Nat.zero_add] at c1 c2
  refine ⟨by omega, by omega, brT_ok.2 ⟨fun q => ?_, fun q => ?_⟩⟩
  · have q := of_decide_eq_true q
    have e : hulL s = s := by unfold hulL; rw [if_pos (by omega)]
    rw [e]
    exact ⟨some 1, ⟨rfl, rfl, rfl⟩, rfl, rfl, rfl⟩
  · have q := of_decide_eq_false q
    have p1 := chn_pos (ps := s) (st := []) (.inr (by omega))
    have p2 := chn_pos (ps := revP s) (st := []) (.inr (by omega))
    have hr := allV_rev hs
    have e : hulL s = (chn [] s).take ((chn [] s).length - 1) ++ (chn [] (revP s)).take ((chn [] (revP s)).length - 1) := by unfold hulL; rw [if_neg (by omega)]
    rw [e]
    have hr2 := r1
    generalize revP s = t at *
    generalize chn [] s = u at *
    generalize chn [] t = v at *
    have w1 : ŵ ((u.length : Int) - 1) = ((u.length - 1 : Nat) : Int) := by rw [wr (by omega)]; omega
    have w2 : ŵ ((v.length : Int) - 1) = ((v.length - 1 : Nat) : Int) := by rw [wr (by omega)]; omega
    simp only [w1, w2, Int.toNat_natCast]
    simp only [flat_take, ← flat_append]
    have hl : (u.take (u.length - 1) ++ v.take (v.length - 1)).length = u.length - 1 + (v.length - 1) := by simp
    refine ⟨by omega, hs, by omega, by omega, by omega, by omega, hr, by omega, ⟨by omega, by omega, by omega⟩, ⟨by omega, by omega, by omega⟩, ⟨by omega, by omega⟩, by omega, by omega, some 5, ⟨rfl, rfl, hl.symm⟩, rfl, rfl, rfl⟩
def hulV (ps : List Pt) : List Pt := hulL (spV ps)
theorem spV_all (ps : List Pt) : allV (spV ps) = true := by
  unfold spV
  rcases h : okL ps with _ | _
  · rfl
  · exact allV_srt (okL_20 h).1
theorem resR_iHu (ps : List Pt) (h : Big ps) : ResR Try.prog 17 [.row ps.length (.ints (flat ps))] (rowP (hulV ps)) (blkP (hulV ps)) := by
  refine bodyX_resR mixed EHu_ok (m := 30) (n := 12) rfl ?_
  rw [tr_iHu]
  try delta zB2 zB4 zR2 zI ziHu_0 ziHu_1 ziHu_2 ziHu_3 ziHu_4 ziHu_5
  unfold Big at h
  unfold hulV
  have hs := spV_all ps
  have hle := spV_len ps
  simp only [List.drop_zero, ptsA_flat, flat_length, bnd_some, bnd_none, Int.toNat_zero, Nat.sub_zero, Nat.zero_mul, Nat.zero_add, Nat.add_zero]
  generalize spV ps = s at *
  have c1 := chn_len s []
  have c2 := chn_len (revP s) []
  have r1 := revP_len s
  have er : ptsA s.length (flat (revP s)) = revP s := by rw [← r1, ptsA_flat]
  simp only [List.length_nil, Nat.zero_add] at c1 c2
  simp only [er]
  refine ⟨by omega, by omega, brT_ok.2 ⟨fun q => ?_, fun q => ?_⟩⟩
  · have q := of_decide_eq_true q
    have e : hulL s = s := by unfold hulL; rw [if_pos (by omega)]
    rw [e]
    exact ⟨some 1, ⟨rfl, rfl, rfl⟩, rfl, rfl, rfl⟩
  · have q := of_decide_eq_false q
    have p1 := chn_pos (ps := s) (st := []) (.inr (by omega))
    have p2 := chn_pos (ps := revP s) (st := []) (.inr (by omega))
    have hr := allV_rev hs
    have e : hulL s = (chn [] s).take ((chn [] s).length - 1) ++ (chn [] (revP s)).take ((chn [] (revP s)).length - 1) := by
      unfold hulL
      split
      · exact (hul_two (by omega)).symm
      · rfl
    have hpos : 0 < (chn [] s).length - 1 + ((chn [] (revP s)).length - 1) := by
      have := chn_ge (s := s) (by omega)
      omega
    rw [e]
    generalize revP s = t at *
    generalize chn [] s = u at *
    generalize chn [] t = v at *
    have w1 : ŵ ((u.length : Int) - 1) = ((u.length - 1 : Nat) : Int) := by rw [wr (by omega)]; omega
    have w2 : ŵ ((v.length : Int) - 1) = ((v.length - 1 : Nat) : Int) := by rw [wr (by omega)]; omega
    simp only [w1, w2, Int.toNat_natCast]
    simp only [flat_take, ← flat_append]
    have hl : (u.take (u.length - 1) ++ v.take (v.length - 1)).length = u.length - 1 + (v.length - 1) := by simp
    refine ⟨by omega, hs, by omega, trivial, by omega, by omega, hr, by omega, ⟨by omega, by omega, by omega⟩, ⟨by omega, by omega, by omega⟩, by omega, by omega, hpos, by omega, some 5, ⟨rfl, rfl, hl.symm⟩, rfl, rfl, rfl⟩
def RHv : TabR := fun f ds => match f, ds with
  | 38, [.row m (.ints xs)] => some (rowP (hulL (srtL (ptsA m xs))), blkP (hulL (srtL (ptsA m xs))), [m * 2 ≤ xs.length, allV (ptsA m xs) = true, m ≤ 1000])
  | 17, [.row m (.ints xs)] => some (rowP (hulV (ptsA m xs)), blkP (hulV (ptsA m xs)), [m * 2 ≤ xs.length, m ≤ 1000000000])
  | f, ds => RSq f ds
theorem RHv_ok : TabROk Try.prog RHv := by
  intro f ds v b C h hC
  unfold RHv at h
  (try split at h)
  all_goals first
    | (obtain ⟨rfl, rfl, rfl⟩ : _ ∧ _ ∧ _ := by simpa using h
       obtain ⟨_, h2⟩ := ptsA_spec hC.1
       have h1 := resR_pts1 (pre := []) (post := []) hC.1 (resR_sHu hC.2.1 (by rw [h2]; exact hC.2.2.1))
       simp only [List.nil_append, List.append_nil] at h1
       with_reducible exact h1)
    | (obtain ⟨rfl, rfl, rfl⟩ : _ ∧ _ ∧ _ := by simpa using h
       obtain ⟨_, h2⟩ := ptsA_spec hC.1
       have h1 := resR_pts1 (pre := []) (post := []) hC.1 (resR_iHu _ (by unfold Big; rw [h2]; exact hC.2.1))
       simp only [List.nil_append, List.append_nil] at h1
       with_reducible exact h1)
    | exact RSq_ok _ _ _ _ _ h hC
theorem hulV_no {ps : List Pt} (h : okL ps = false) : hulV ps = [] := by
  unfold hulV spV
  rw [h]
  rfl
theorem hulV_yes {ps : List Pt} (h : okL ps = true) : hulV ps = hulL (srtL ps) := by
  unfold hulV spV
  rw [h]
  rfl
def RHw : TabR := fun f ds => match f, ds with
  | f, ds => RHv f ds
theorem RHw_ok : TabROk Try.prog RHw := by
  intro f ds v b C h hC
  unfold RHw at h
  (try split at h)
  all_goals first
    | (obtain ⟨rfl, rfl, rfl⟩ : _ ∧ _ ∧ _ := by simpa using h
       obtain ⟨_, h2⟩ := ptsA_spec hC.1
       have h1 := resR_pts1 (pre := []) (post := []) hC.1 (resR_sHv _ (by unfold Big; rw [h2]; exact hC.2.1))
       simp only [List.nil_append, List.append_nil] at h1
       with_reducible exact h1)
    | exact RHv_ok _ _ _ _ _ h hC
theorem hulV_len (ps : List Pt) : (hulV ps).length ≤ 40 := hulL_len (spV_len ps)
end Go.Proofs.Ytbfoheblcoakiaa
