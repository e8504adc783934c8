/-
  Texts that the proof needs, merged. Written by an AI agent.
-/
import Derived.Orders
import Derived.Below
import Derived.OrdersIn
import Derived.Deep.LoopGhost
import Derived.WalkKit
import Derived.Laws.CopyRow
import Derived.Laws.AppendOwn
import Derived.Laws.Slices
import Derived.Laws.MakeOwn
import Derived.Test.YtbhdhejefpdjfaaRows
import Derived.ProofKit
import Derived.OpenShut
import Derived.Carry
import Derived.IntWalk
import Derived.Test.YtbhdhejefpdjfaaProg
import Derived.WalkSpells
import Derived.WalkLawsBesides
import Derived.Lib.Hide
import Derived.Deep.QuietTactic
import Derived.BigQuiet
import Derived.KernelRfl
import Derived.Deep.RegionHeld3
import Derived.LoopTactic
import Derived.Laws.StructEq
import Derived.Laws.Tables
import Derived.RangeFuncNested
import Derived.RangeFuncLeaves
import Derived.Deep.Slices
import Derived.Deep.Fields
import Derived.ChangeSame
import Derived.Deep.DeepCutAuto
import Derived.Shelf.SlSortCmp.WholeK
import Derived.Sort.Grow
import Derived.Shelf.SlSortCmp.NoneTotal
import Derived.Test.YtbhdhejefpdjfaaZConvexDiagonals4
namespace Go.Proofs.Ytbhdhejefpdjfaa
set_option linter.all false
open Go.RowKit
def RCe : TabR := fun f ds => match f, ds with
  | 63, [.v (.agg ⟨[.int .i64 a, .int .i64 b, .int .i64 c, .int .i64 d]⟩), .v (.agg ⟨[.int .i64 e, .int .i64 f, .int .i64 g, .int .i64 h]⟩)] => some (rowP (ceS a b c d e f g h), blkP (ceS a b c d e f g h), [ptB a b = true, ptB c d = true, ptB e f = true, ptB g h = true])
  | 51, [.v (.agg ⟨[.int .i64 a, .int .i64 b, .int .i64 c, .int .i64 d]⟩), .v (.agg ⟨[.int .i64 e, .int .i64 f, .int .i64 g, .int .i64 h]⟩)] => some (rowP (ceI a b c d e f g h), blkP (ceI a b c d e f g h), [ptB a b = true, ptB c d = true, ptB e f = true, ptB g h = true])
  | 37, [.row m (.ints xs)] => some (rowP (srtL (ptsA m xs)), blkP (srtL (ptsA m xs)), [m * 2 ≤ xs.length, m ≤ 1000])
  | _, _ => none
theorem RCe_ok : TabROk Try.prog RCe := by
  intro f ds v b C h hC
  unfold RCe at h
  (try split at h)
  all_goals first
    | (obtain ⟨rfl, rfl, rfl⟩ : _ ∧ _ ∧ _ := by simpa using h
       with_reducible refine resR_sCe ?_ ?_ ?_ ?_
       · exact hC.1
       · exact hC.2.1
       · exact hC.2.2.1
       · exact hC.2.2.2.1)
    | (obtain ⟨rfl, rfl, rfl⟩ : _ ∧ _ ∧ _ := by simpa using h
       with_reducible refine resR_iCe ?_ ?_ ?_ ?_
       · exact hC.1
       · exact hC.2.1
       · exact hC.2.2.1
       · exact hC.2.2.2.1)
    | (obtain ⟨rfl, rfl, rfl⟩ : _ ∧ _ ∧ _ := by simpa using h
       obtain ⟨_, h2⟩ := ptsA_spec hC.1
       exact resR_pts1 (pre := []) (post := []) hC.1 (resR_srt _ (by rw [h2]; exact hC.2.1)))
    | cases h
def ECe : Env := mkE TOl RCe (fun _ => noL)
theorem ECe_ok : EnvOk Try.prog ECe := mkEOk TOl_ok RCe_ok (fun _ _ _ => noL_good)
set_option maxRecDepth 100000 in
theorem tr_sRel (a b c d e f g h : Int) : bodyV Try.prog ECe 30 12 54 [.v (.agg #[iv a, iv b, iv c, iv d]), .v (.agg #[iv e, iv f, iv g, iv h])] = .need (ptB a b = true) (.need (ptB c d = true) (.need (ptB e f = true) (.need (ptB g h = true) (brT (decide (1 < (↑(ceS a b c d e f g h).length : Int))) (.fin (.int .i64 (3)) []) (brT ((↑(ceS a b c d e f g h).length : Int) == 1) (.fin (.int .i64 (1)) []) (.need (ptB a b = true) (.need (ptB c d = true) (.need (ptB e f = true) (.need (ptB a b = true) (.need (ptB c d = true) (.need (ptB g h = true) (brT (decide (IntKind.i64.wrap (cmpI (crossI a b c d e f) 0 * cmpI (crossI a b c d g h) 0) < 0)) (.need (ptB e f = true) (.need (ptB g h = true) (.need (ptB a b = true) (.need (ptB e f = true) (.need (ptB g h = true) (.need (ptB c d = true) (brT (decide (IntKind.i64.wrap (cmpI (crossI e f g h a b) 0 * cmpI (crossI e f g h c d) 0) < 0)) (.fin (.int .i64 (2)) []) (.fin (.int .i64 (0)) [])))))))) (.fin (.int .i64 (0)) []))))))))))))) := by kernel_rfl
set_option maxRecDepth 100000 in
theorem tr_iRel (a b c d e f g h : Int) : bodyV Try.prog ECe 30 12 41 [.v (.agg #[iv a, iv b, iv c, iv d]), .v (.agg #[iv e, iv f, iv g, iv h])] = brT (!segB a b c d) (.fin (.int .i64 (-1)) []) (brT (!segB e f g h) (.fin (.int .i64 (-1)) []) (.need (ptB a b = true) (.need (ptB c d = true) (.need (ptB e f = true) (.need (ptB g h = true) (brT ((↑(ceI a b c d e f g h).length : Int) == 0) (.need (ptB a b = true) (.need (ptB c d = true) (.need (ptB e f = true) (.need (ptB a b = true) (.need (ptB c d = true) (.need (ptB g h = true) (brT (decide (IntKind.i64.wrap (cmpI (crossI a b c d e f) 0 * cmpI (crossI a b c d g h) 0) < 0)) (.need (ptB e f = true) (.need (ptB g h = true) (.need (ptB a b = true) (.need (ptB e f = true) (.need (ptB g h = true) (.need (ptB c d = true) (brT (decide (IntKind.i64.wrap (cmpI (crossI e f g h a b) 0 * cmpI (crossI e f g h c d) 0) < 0)) (.fin (.int .i64 (2)) []) (.fin (.int .i64 (0)) [])))))))) (.fin (.int .i64 (0)) [])))))))) (brT ((↑(ceI a b c d e f g h).length : Int) == 1) (.fin (.int .i64 (1)) []) (.fin (.int .i64 (3)) [])))))))) := by kernel_rfl
/-- Are the ends of the second segment on different sides of the first one? -/
def dvB (a b c d e f g h : Int) : Bool := decide (IntKind.i64.wrap (cmpI (crossI a b c d e f) 0 * cmpI (crossI a b c d g h) 0) < 0)
def relN (n : Nat) (x : Bool) : Int := if 1 < n then 3 else if n = 1 then 1 else bif x then 2 else 0
/-- How two segments of valid points meet. -/
def relA (a b c d e f g h : Int) : Int := relN (ceS a b c d e f g h).length (dvB a b c d e f g h && dvB e f g h a b c d)
def relV (a b c d e f g h : Int) : Int := bif segB a b c d && segB e f g h then relA a b c d e f g h else -1
theorem segB_pt {a b c d : Int} (h : segB a b c d = true) : ptB a b = true ∧ ptB c d = true := by
  unfold segB at h
  simp only [Bool.and_eq_true] at h
  exact h.1
theorem res_sRel {a b c d e f g h : Int} (h1 : ptB a b = true) (h2 : ptB c d = true) (h3 : ptB e f = true) (h4 : ptB g h = true) : Res Try.prog 54 [.v (.agg #[iv a, iv b, iv c, iv d]), .v (.agg #[iv e, iv f, iv g, iv h])] (iv (relA a b c d e f g h)) := by
  refine bodyV_res mixed ECe_ok (m := 30) (n := 12) rfl ?_
  rw [tr_sRel]
  simp only [brT_ok, Tree.ok, h1, h2, h3, h4, true_and, decide_eq_true_eq, decide_eq_false_iff_not, beq_iff_eq, beq_eq_false_iff_ne]
  unfold relA relN dvB
  refine ⟨fun g1 => ?_, fun g1 => ⟨fun g2 => ?_, fun g2 => ⟨fun g3 => ⟨fun g4 => ?_, fun g4 => ?_⟩, fun g3 => ?_⟩⟩⟩
  · rw [if_pos (by omega)]
  · rw [if_neg (by omega), if_pos (by omega)]
  all_goals
    rw [if_neg (by omega), if_neg (by omega)]
    simp [g3]
  all_goals simp [g4]
theorem res_iRel (a b c d e f g h : Int) : Res Try.prog 41 [.v (.agg #[iv a, iv b, iv c, iv d]), .v (.agg #[iv e, iv f, iv g, iv h])] (iv (relV a b c d e f g h)) := by
  refine bodyV_res mixed ECe_ok (m := 30) (n := 12) rfl ?_
  rw [tr_iRel]
  unfold relV
  rcases s1 : segB a b c d with _ | _
  · simp [brT_ok, Tree.ok]
  rcases s2 : segB e f g h with _ | _
  · simp [brT_ok, Tree.ok]
  obtain ⟨h1, h2⟩ := segB_pt s1
  obtain ⟨h3, h4⟩ := segB_pt s2
  have hl := (ce_same a b c d e f g h).1
  simp only [brT_ok, Tree.ok, h1, h2, h3, h4, true_and, decide_eq_true_eq, decide_eq_false_iff_not, beq_iff_eq, beq_eq_false_iff_ne, Bool.not_true, Bool.and_self, cond_true, hl]
  unfold relA relN dvB
  repeat' (first | refine And.intro ?_ ?_ | intro _)
  all_goals first
    | (rw [if_neg (by omega), if_pos (by omega)]; done)
    | (rw [if_pos (by omega)]; done)
    | (rw [if_neg (by omega), if_neg (by omega)]; simp [*]; done)
    | (exfalso; simp_all; done)
def pRlA : List DArg → Option (Value × List Prop)
  | [.v (.agg ⟨[.int .i64 a, .int .i64 b, .int .i64 c, .int .i64 d]⟩), .v (.agg ⟨[.int .i64 e, .int .i64 f, .int .i64 g, .int .i64 h]⟩)] => some (iv (relA a b c d e f g h), [ptB a b = true, ptB c d = true, ptB e f = true, ptB g h = true])
  | _ => none
def pRlV : List DArg → Option (Value × List Prop)
  | [.v (.agg ⟨[.int .i64 a, .int .i64 b, .int .i64 c, .int .i64 d]⟩), .v (.agg ⟨[.int .i64 e, .int .i64 f, .int .i64 g, .int .i64 h]⟩)] => some (iv (relV a b c d e f g h), [])
  | _ => none
def TRa : Tab := fun f ds => match f with
  | 54 => pRlA ds
  | 41 => pRlV ds
  | f => TOl f ds
theorem pRlA_ok {ds : List DArg} {v : Value} {C : List Prop} (h : pRlA ds = some (v, C)) (hC : AllP C) : Res Try.prog 54 ds v := by
  unfold pRlA at h
  split at h
  · obtain ⟨rfl, rfl⟩ : _ ∧ _ := by simpa using h
    exact res_sRel hC.1 hC.2.1 hC.2.2.1 hC.2.2.2.1
  · cases h
theorem pRlV_i {ds : List DArg} {v : Value} {C : List Prop} (h : pRlV ds = some (v, C)) : Res Try.prog 41 ds v := by
  unfold pRlV at h
  split at h
  · obtain ⟨rfl, rfl⟩ : _ ∧ _ := by simpa using h
    exact res_iRel _ _ _ _ _ _ _ _
  · cases h
theorem TRa_ok : TabOk Try.prog TRa := by
  intro f ds v C h hC
  unfold TRa at h
  (try split at h)
  all_goals first | with_reducible exact pRlA_ok h hC | with_reducible exact pRlV_i h | exact TOl_ok _ _ _ _ h hC
def TRb : Tab := fun f ds => match f with
  | f => TRa f ds
theorem TRb_ok : TabOk Try.prog TRb := by
  intro f ds v C h hC
  unfold TRb at h
  (try split at h)
  all_goals first | with_reducible exact pRlV_s h | exact TRa_ok _ _ _ _ h hC
end Go.Proofs.Ytbhdhejefpdjfaa
namespace Go.Proofs.Ytbhdhejefpdjfaa
set_option linter.all false
open Go.RowKit
theorem addT_mem {o : List Pt} {p z : Pt} {b : Bool} : z ∈ addT o p b ↔ z ∈ o ∨ (b = true ∧ z = p) := by
  unfold addT
  cases b
  · simp
  · simp [insP_mem]
theorem addT_asc {o : List Pt} (h : Asc o) (p : Pt) (b : Bool) : Asc (addT o p b) := by
  unfold addT
  cases b
  · exact h
  · exact insP_asc p h
theorem ce_asc (a b c d e f g h : Int) : Asc (ceS a b c d e f g h) := addT_asc (addT_asc (addT_asc (addT_asc List.Pairwise.nil _ _) _ _) _ _) _ _
theorem ce_mem {a b c d e f g h : Int} {z : Pt} : z ∈ ceS a b c d e f g h ↔ onB a b c d e f g h z.1 z.2 = true ∧ (z = (a, b) ∨ z = (c, d) ∨ z = (e, f) ∨ z = (g, h)) := by
  unfold ceS
  simp only [addT_mem, List.not_mem_nil, false_or]
  constructor
  · rintro (((⟨h1, rfl⟩ | ⟨h1, rfl⟩) | ⟨h1, rfl⟩) | ⟨h1, rfl⟩)
    · exact ⟨h1, .inl rfl⟩
    · exact ⟨h1, .inr (.inl rfl)⟩
    · exact ⟨h1, .inr (.inr (.inl rfl))⟩
    · exact ⟨h1, .inr (.inr (.inr rfl))⟩
  · rintro ⟨h1, rfl | rfl | rfl | rfl⟩
    · exact .inl (.inl (.inl ⟨h1, rfl⟩))
    · exact .inl (.inl (.inr ⟨h1, rfl⟩))
    · exact .inl (.inr ⟨h1, rfl⟩)
    · exact .inr ⟨h1, rfl⟩
theorem onB_comm (a b c d e f g h x y : Int) : onB a b c d e f g h x y = onB e f g h a b c d x y := Bool.and_comm ..
theorem ce_comm (a b c d e f g h : Int) : ceS a b c d e f g h = ceS e f g h a b c d := by
  refine asc_ext (ce_asc ..) (ce_asc ..) fun z => ?_
  rw [ce_mem, ce_mem, onB_comm]
  refine and_congr_right fun _ => ?_
  constructor
  · rintro (h | h | h | h) <;> simp [h]
  · rintro (h | h | h | h) <;> simp [h]
theorem relA_comm (a b c d e f g h : Int) : relA a b c d e f g h = relA e f g h a b c d := by
  unfold relA
  rw [ce_comm a b c d e f g h, Bool.and_comm]
theorem hasB_a (a b c d : Int) : hasB a b c d a b = true := by
  unfold hasB
  simp
theorem hasB_b (a b c d : Int) : hasB a b c d c d = true := by
  unfold hasB
  simp
end Go.Proofs.Ytbhdhejefpdjfaa
namespace Go.Proofs.Ytbhdhejefpdjfaa
set_option linter.all false
open Go.RowKit
theorem room_fz (ro : Option Nat) (n : Nat) : (fz ro).room n := fun _ h => by cases h
theorem wpIn_n {ro : Option Nat} {n n' : Nat} {P : Program} {c : Code} {Q : Exit → Act → World → Prop} {a : Act} {w : World} (h : c.wpIn (fz ro) n P Q a w) : c.wpIn (fz ro) n' P Q a w := fun b k cs h1 h2 _ => h b k cs h1 h2 (room_fz _ _)
/-- Names that are looked at alone. -/
def vwK : BK → BK
  | .dead => .dead
  | _ => .view
def vwB (t : Bool) (b : Option Blk) : Option Blk :=
  match b, t with
  | some b, true => some ⟨vwK b.kind, b.cs⟩
  | b, _ => b
def toView (l : List Nat) : Nat → List (Option Blk) → List (Option Blk)
  | _, [] => []
  | k, b :: r => vwB (l.contains k) b :: toView l (k + 1) r
def viewS (l : List Nat) (s : St) : St := { tmps := s.tmps, mem := toView l 0 s.mem }
theorem toView_get (l : List Nat) : ∀ (r : List (Option Blk)) (k i : Nat), (toView l k r).getD i none = vwB (l.contains (k + i)) (r.getD i none)
  | [], k, i => by simp [toView, vwB]
  | b :: r, k, i => by
    cases i with
    | zero => simp [toView]
    | succ i =>
      have := toView_get l r (k + 1) i
      rw [show k + 1 + i = k + (i + 1) by omega] at this
      simpa [toView] using this
theorem viewS_blk (l : List Nat) (s : St) (n : Nat) : (viewS l s).fs.blk n = vwB (l.contains n) (s.fs.blk n) := by
  have := toView_get l s.mem 0 n
  rw [Nat.zero_add] at this
  exact this
theorem vwB_some {t : Bool} {b : Option Blk} {c : Blk} (h : vwB t b = some c) : ∃ b', b = some b' ∧ ((c = b' ∧ t = false) ∨ (c = ⟨vwK b'.kind, b'.cs⟩ ∧ t = true)) := by
  unfold vwB at h
  split at h
  · exact ⟨_, rfl, .inr ⟨by simpa using h.symm, rfl⟩⟩
  · rename_i hn
    cases b with
    | none => cases h
    | some b' =>
      cases t with
      | true => exact absurd rfl (hn b' rfl)
      | false => exact ⟨b', rfl, .inl ⟨by simpa using h.symm, rfl⟩⟩
theorem vwK_own (k : BK) (cs : Cs) : (Blk.own ⟨vwK k, cs⟩) = false := by cases k <;> rfl
theorem vwK_live {k : BK} {cs cs' : Cs} (h : Blk.live ⟨vwK k, cs⟩ = true) : Blk.live ⟨k, cs'⟩ = true := by cases k <;> first | rfl | exact h
theorem BlkOk.view {ρ : Nat → Option Pl} {B : Nat → Prop} {w : World} {n : Nat} {b : Blk} (h : BlkOk ρ B w n b) : BlkOk ρ B w n ⟨vwK b.kind, b.cs⟩ := by
  obtain ⟨kd, cs⟩ := b
  have cell : ∀ (g k : Nat) (arr : Array Value) (e z v), w.heap[g]? = some (.cells arr e z) → arr[k]? = some v → w.cell? ⟨g, 0 + k, none⟩ = some v := fun g k arr e z v h1 h2 => by
    rw [Nat.zero_add]
    simp only [World.cell?, h1]
    exact h2
  cases kd with
  | dead => trivial
  | view => exact h
  | box =>
    obtain ⟨g, h1, h2, cs', e, h3, h4, h5⟩ := h
    refine .inr ⟨g, 0, none, h1, .inl rfl, heap_lt h3, fun k v hv => ?_⟩
    obtain ⟨v', k1, k2⟩ := h5 k v hv
    exact ⟨v', cell _ _ _ _ _ _ h3 k1, k2⟩
  | row e sz =>
    rcases h with ⟨p, h1, h2, h3⟩ | ⟨g, cap, h1, h2, cs', h3, h4, h5⟩
    · exact .inl ⟨p, h1, h2, 0, h3⟩
    · refine .inr ⟨g, 0, some cap, h1, .inl rfl, heap_lt h3, fun k v hv => ?_⟩
      obtain ⟨v', k1, k2⟩ := h5 k v hv
      exact ⟨v', cell _ _ _ _ _ _ h3 k1, k2⟩
theorem view_conc {l : List Nat} {s : St} {w0 : Start} {a : Act} {w : World} (hc : Conc w0 s.fs a w) : Conc w0 (viewS l s).fs a w := by
  obtain ⟨c1, c2, c3, ρ, ht, hm⟩ := hc
  refine ⟨c1, c2, c3, ρ, ht, hm.ext, fun n hn => ?_, fun n b hn => ?_, fun n n' b b' p p' hn ho hn' hl hne => ?_⟩
  · rw [viewS_blk] at hn
    refine hm.fresh n ?_
    rcases hb : s.fs.blk n with _ | b
    · rfl
    · rw [hb] at hn
      cases hc : l.contains n <;> rw [hc] at hn <;> cases hn
  · rw [viewS_blk] at hn
    obtain ⟨b', h1, ⟨rfl, _⟩ | ⟨rfl, _⟩⟩ := vwB_some hn
    · exact hm.ok n _ h1
    · exact (hm.ok n _ h1).view
  · rw [viewS_blk] at hn hn'
    obtain ⟨c, h1, h2⟩ := vwB_some hn
    obtain ⟨c', h1', h2'⟩ := vwB_some hn'
    have hc : b = c := by
      rcases h2 with ⟨h2, _⟩ | ⟨rfl, _⟩
      · exact h2
      · rw [vwK_own] at ho; cases ho
    have hl' : c'.live = true := by
      rcases h2' with ⟨rfl, _⟩ | ⟨rfl, _⟩
      · exact hl
      · exact vwK_live hl
    exact hm.sep n n' c c' p p' h1 (by rw [← hc]; exact ho) h1' hl' hne
/-- A piece of code that only goes straight on, from one state to another. -/
def DetA (P : Program) (c : Code) (s s' : St) : Prop := ∀ w0 a w, Conc w0 s.fs a w → c.wpIn (fz w0.ro) 3 P (fun e a w => e = .normal ∧ Conc w0 s'.fs a w) a w
/-- Regions one after the other. -/
def asT (P : Program) (J : TabJ) (callM : CallM) : Code → (St → Tree) → St → Tree
  | .skip, k, s => k s
  | .region _ ops draw, k, s => match draw with
    | true => .bad
    | false => seqT P J callM ops.toList s.mem.length (fun s' => forceS s' k) 0 ops.toList { tmps := s.tmps, mem := s.mem ++ List.replicate (countB alStd ops.toList) none }
  | .seq x y, k, s => asT P J callM x (asT P J callM y k) s
  | _, _, _ => .bad
theorem asT_det {P : Program} {J : TabJ} {callM : CallM} (hJ : GSound P J.g) (hcallM : CallMOk P callM) {F : Ex → St → Prop} {H : Value → List (Option Blk) → Prop} : ∀ (c : Code) (k : St → Tree) (s : St), (asT P J callM c k s).ok F H → ∃ s', (k s').ok F H ∧ DetA P c s s' := by
  intro c
  induction c with
  | skip => intro k s h; exact ⟨s, h, fun w0 a w hc => wpIn_skip ⟨rfl, hc⟩⟩
  | region id ops draw =>
    intro k s h
    cases draw with
    | true => exact h.elim
    | false =>
      obtain ⟨s', h1, h2⟩ := seqT_ok hJ hcallM ops.toList 0 _ (fun j => by simp) h
      rw [forceS_eq] at h1
      refine ⟨s', h1, fun w0 a w hc => wpIn_region ?_⟩
      have := h2 w0 a w (fun e a w => e = Exit.normal ∧ Conc w0 s'.fs a w) (by rw [St.pad_fs]; exact hc) fun a' w' hcc => ⟨rfl, hcc⟩
      rw [List.range_eq_range']
      simpa using this
  | seq x y ihx ihy =>
    intro k s h
    obtain ⟨s1, h1, h2⟩ := ihx _ s h
    obtain ⟨s2, h3, h4⟩ := ihy _ s1 h1
    refine ⟨s2, h3, fun w0 a w hc => wpIn_seq (wpIn_mono (h2 w0 a w hc) ?_)⟩
    rintro e a' w' ⟨rfl, hcc⟩
    exact h4 w0 a' w' hcc
  | _ => intro k s h; exact h.elim
/-- Slots set, one after the other. -/
def putL : List (Nat × Value) → List Value → List Value
  | [], t => t
  | (p, v) :: r, t => putL r (t.set p v)
theorem putL_ok {ρ : Nat → Option Pl} : ∀ (l : List (Nat × Value)) (T : List Value) (t : Array Value), T.length = t.size → (∀ j, VR ρ (T.getD j undef) (t.getD j undef)) → (∀ q ∈ l, plainV q.2 = true) →
    (putL l T).length = (l.foldl (fun t q => t.setIfInBounds q.1 q.2) t).size ∧ (∀ j, VR ρ ((putL l T).getD j undef) ((l.foldl (fun t q => t.setIfInBounds q.1 q.2) t).getD j undef))
  | [], T, t, h1, h2, _ => ⟨h1, h2⟩
  | (p, v) :: r, T, t, h1, h2, h3 => by
    refine putL_ok r (T.set p v) (t.setIfInBounds p v) (by simpa using h1) (fun j => ?_) fun q hq => h3 q (List.mem_cons_of_mem _ hq)
    by_cases hj : p = j
    · subst hj
      by_cases hlt : p < T.length
      · have e1 : (T.set p v).getD p undef = v := by simp [hlt]
        have e2 : (t.setIfInBounds p v).getD p undef = v := by
          have : p < t.size := by omega
          simp [this]
        rw [e1, e2]
        exact .lit (h3 _ (List.mem_cons_self ..))
      · have e1 : (T.set p v).getD p undef = T.getD p undef := by simp [List.getElem?_eq_none (by simpa using Nat.le_of_not_lt hlt : (T.set p v).length ≤ p), List.getElem?_eq_none (Nat.le_of_not_lt hlt)]
        have e2 : (t.setIfInBounds p v).getD p undef = t.getD p undef := by
          have : ¬ p < t.size := by omega
          simp [this]
        rw [e1, e2]
        exact h2 p
    · have e1 : (T.set p v).getD j undef = T.getD j undef := by simp [hj]
      have e2 : (t.setIfInBounds p v).getD j undef = t.getD j undef := by simp [Array.getElem?_setIfInBounds_ne hj]
      rw [e1, e2]
      exact h2 j
/-- What holds no cells. -/
def nonC (w : World) (k : Nat) : Prop := ∃ o, w.heap[k]? = some o ∧ o.isCells = false
/-- Where names lie. -/
def gsOf (s : FS) (ρ : Nat → Option Pl) (Kn : List Nat) (g : Nat) : Prop := ∃ n ∈ Kn, ∃ b p, s.blk n = some b ∧ b.live = true ∧ ρ n = some p ∧ ¬ nilPl p ∧ p.1 = g
def KpG (G : Nat → Prop) (W W' : World) : Prop := W.heap.size ≤ W'.heap.size ∧ ∀ g, G g → W'.heap[g]? = W.heap[g]?
/-- The contract of an iterator: its elements are enc 0, .., enc (len - 1), in this order; a round may say 'no more'. -/
def Iter (P : Program) (gf : FuncId) (lb : Array Value) (len : Nat) (enc : Nat → List Value) (G : Nat → Prop) (w : World) : Prop :=
  ∀ (l : Nat) (J : Nat → World → Prop) (Jx : World → Prop) (W : World), (∀ g, G g → W.heap[g]? = w.heap[g]?) → w.heap.size ≤ W.heap.size →
    (∀ i W1 W2, J i W1 → W1.grownBy W2 none → J i W2) → (∀ W1 W2, Jx W1 → W1.grownBy W2 none → Jx W2) →
    (∀ i W1, J i W1 → i < len → YieldAt Fence.wide 2 P l (enc i).toArray W1 fun e W2 => (e = .returned (.bool true) ∧ J (i + 1) W2 ∧ KpG G W1 W2) ∨ (e = .returned (.bool false) ∧ Jx W2)) →
    J 0 W → CallsIn Fence.wide 2 P gf (#[.func (.yield l) #[] #[]] ++ lb) W fun e W2 => (∃ v, e = .returned v) ∧ (J len W2 ∨ Jx W2)
theorem BelowK.less {K K' : Nat → Prop} {w w' : World} (h : BelowK K w w') (hk : ∀ k, K' k → K k) : BelowK K' w w' := ⟨h.os, h.tape, h.output, h.size, fun k hk' => h.block k (hk k hk')⟩
theorem BelowK.putObj {K : Nat → Prop} {w w' : World} (h : BelowK K w w') {l : Nat} (o : Obj) (hl : ¬ K l) : BelowK K w (w'.putObj l o) := h.trans ⟨rfl, rfl, rfl, by simp, fun k hk => World.putObj_heap_other (fun e => hl (by rw [← e]; exact hk))⟩
theorem BelowK.grown {K : Nat → Prop} {w w' w'' : World} (h : BelowK K w w') (hK : ∀ k, K k → k < w.heap.size) (hg : w'.grownBy w'' none) : BelowK K w w'' := h.trans ⟨hg.os, hg.tape, hg.output, hg.size, fun k hk => hg.block k (Nat.lt_of_lt_of_le (hK k hk) h.size) (by simp)⟩
theorem Conc.grown {w0 : Start} {s : FS} {a : Act} {w w' : World} (h : Conc w0 s a w) (hg : w.grownBy w' none) : Conc w0 s a w' := by
  obtain ⟨c1, c2, c3, ρ, ht, hm⟩ := h
  exact ⟨c1, c2, c3.grown w0.kpl hg, ρ, ht, hm.grown hg.size fun k o ho _ => hg.block k (heap_lt ho) (by simp)⟩
theorem Conc.putObj {w0 : Start} {s : FS} {a : Act} {w : World} (h : Conc w0 s a w) {l : Nat} {o : Obj} (o' : Obj) (hl : ¬ w0.kp l) (ho : w.heap[l]? = some o) (hc : o.isCells = false) : Conc w0 s a (w.putObj l o') := by
  obtain ⟨c1, c2, c3, ρ, ht, hm⟩ := h
  refine ⟨c1, c2, c3.putObj o' hl, ρ, ht, hm.grown (by simp) fun k o2 ho2 hc2 => World.putObj_heap_other fun e => ?_⟩
  rw [e, ho] at ho2
  cases ho2
  rw [hc] at hc2
  cases hc2
/-- The jump by which a round leaves. -/
def exCode : Ex → Code
  | .normal => .skip
  | .exit id => .exit id
  | .ret => .ret
/-- What a round must come to. -/
def RoundOk (P : Program) (assign body : Code) (pv : Nat → List (Nat × Value)) (St_of : Nat → St) (Good : Nat → Prop) (re : Ex) (rs : St) (N M : Nat) (keep : Ex → List Nat) (i : Nat) : Prop :=
  ∃ s1 e' s', DetA P assign { tmps := putL (pv i) (St_of i).tmps, mem := (St_of i).mem } s1 ∧ Det P body s1 e' s' ∧ match e' with
    | .normal => Good (i + 1) ∧ ∃ π, WS N π (cutS M (keep .normal) { tmps := (St_of i).tmps, mem := s'.mem }) (St_of (i + 1))
    | e => e = re ∧ ∃ π, WS N π (cutS M (keep e) { tmps := (St_of i).tmps, mem := s'.mem }) rs
section
variable {P : Program} {ps : List Nat} {assign body : Code} {enc : Nat → List Value} {St_of : Nat → St} {Good : Nat → Prop} {re : Ex} {rs : St} {N M len : Nat} {keep : Ex → List Nat}
/-- The record of the loop. -/
def recOf (fn : FuncId) (tmps : Array Value) (ps : List Nat) (assign body : Code) (D : Nat) (st : LoopState) (pe : Option Code) : Loop := { state := st, pending := pe, fn := fn, tmps := tmps, params := ps.toArray, assign := assign, body := body, defers := D }
/-- One round of a loop over a function. -/
theorem range_round (hps : ∀ i, (enc i).length = ps.length) (hpl : ∀ i, (enc i).all plainV = true) (hround : ∀ i, Good i → i < len → RoundOk P assign body (fun i => ps.zip (enc i)) St_of Good re rs N M keep i)
    {w2 : Start} {a : Act} {fn : FuncId} {D l : Nat} {X : World → Prop} (hX : ∀ W W', X W → (∀ k, nonC W k → k ≠ l → W'.heap[k]? = W.heap[k]?) → X W') (hl : w2.heap.size ≤ l) {G : Nat → Prop} (hG : ∀ g, G g → w2.kp g)
    (hdom : ∀ n, N ≤ n → w2.ρ0 n = none) (hdomM : ∀ n, M ≤ n → w2.ρ0 n = none)
    {i : Nat} {W : World} (hg : Good i) (hlt : i < len) (hc : Conc w2 (St_of i).fs a W) (hL : W.heap[l]? = some (.loop (recOf fn a.tmps ps assign body D .ready none))) (hXW : X W) :
    YieldAt Fence.wide 2 P l (enc i).toArray W fun e W2 =>
      (e = .returned (.bool true) ∧ (Good (i + 1) ∧ Conc w2 (St_of (i + 1)).fs a W2 ∧ W2.heap[l]? = some (.loop (recOf fn a.tmps ps assign body D .ready none)) ∧ X W2) ∧ KpG G W W2) ∨
      (e = .returned (.bool false) ∧ ∃ e', e' ≠ .normal ∧ e' = re ∧ Conc w2 rs.fs a W2 ∧ W2.heap[l]? = some (.loop (recOf fn a.tmps ps assign body D .done (some (exCode e')))) ∧ X W2) := by
  obtain ⟨s1, e', s', hA, hB, hend⟩ := hround i hg hlt
  have hy := run_yield (P := P) (args := (enc i).toArray) hL (by simp [recOf, hps i])
  refine ⟨fn, _, assign, body, hy, roundIn_of_wpIn trivial ?_⟩
  obtain ⟨c1, c2, c3, ρ, ht, hm⟩ := hc
  have hkl : ¬ w2.kp l := fun h => by have := w2.kpl l h; omega
  have hlW : l < W.heap.size := heap_lt hL
  -- the assignment
  let wa : Start := ⟨W, ρ, fun k => k < W.heap.size ∧ (w2.kp k ∨ nonC W k), fun k h => h.1, [], some l⟩
  have hma : MemOk ρ ρ wa.kp (St_of i).fs.blk W := hm.rebase.other fun n b p cs e z hn ho hp hnp hh hk => by
    rcases hk.2 with h | ⟨o, h1, h2⟩
    · exact h
    · rw [hh] at h1
      cases h1
      cases h2
  obtain ⟨q1, q2⟩ := putL_ok (ρ := ρ) (ps.zip (enc i)) (St_of i).tmps a.tmps c2.symm (fun j => ht j) (fun q hq => by
    have := List.all_eq_true.1 (hpl i) q.2 (List.of_mem_zip (show (q.1, q.2) ∈ ps.zip (enc i) from hq)).2
    exact this)
  have efold : ((recOf fn a.tmps ps assign body D .ready none).params.zip (enc i).toArray).foldl (fun tmps (t, v) => tmps.setIfInBounds t v) a.tmps = (ps.zip (enc i)).foldl (fun t q => t.setIfInBounds q.1 q.2) a.tmps := by
    simp [recOf, ← Array.foldl_toList]
  have hca : Conc wa (St.fs { tmps := putL (ps.zip (enc i)) (St_of i).tmps, mem := (St_of i).mem }) { tmps := ((recOf fn a.tmps ps assign body D .ready none).params.zip (enc i).toArray).foldl (fun tmps (t, v) => tmps.setIfInBounds t v) a.tmps, defers := [] } W := by
    rw [efold]
    exact ⟨rfl, q1.symm, BelowK.refl _ _, ρ, q2, hma⟩
  refine wpIn_n (wpIn_mono (hA wa _ W hca) ?_)
  rintro e a1 W1 ⟨rfl, d1, d2, d3, ρ1, dt, dm⟩
  have hkl1 : wa.kp l := ⟨hlW, .inr ⟨_, hL, rfl⟩⟩
  have hL1 : W1.heap[l]? = some (.loop (recOf fn a.tmps ps assign body D .ready none)) := (d3.block l hkl1).trans hL
  refine ⟨_, run_beginRound hL1 rfl, ?_⟩
  have hl1 : l < W1.heap.size := heap_lt hL1
  generalize hW2 : W1.putObj l (.loop { recOf fn a.tmps ps assign body D .ready none with state := .busy }) = W2
  have hL2 : W2.heap[l]? = some (.loop (recOf fn a.tmps ps assign body D .busy none)) := by rw [← hW2]; exact World.putObj_heap_same hl1
  have hoth : ∀ k, k ≠ l → W2.heap[k]? = W1.heap[k]? := fun k hk => by rw [← hW2]; exact World.putObj_heap_other hk
  have hsz2 : W2.heap.size = W1.heap.size := by rw [← hW2]; simp
  -- the body
  let wb : Start := ⟨W2, ρ1, fun k => k < W2.heap.size ∧ (w2.kp k ∨ nonC W2 k), fun k h => h.1, [], some l⟩
  have dm2 : MemOk wa.ρ0 ρ1 wa.kp s1.fs.blk W2 := dm.grown (by omega) fun k o ho hc => hoth k fun e => by
    rw [e, hL1] at ho
    cases ho
    cases hc
  have hmb : MemOk ρ1 ρ1 wb.kp s1.fs.blk W2 := dm2.rebase.other fun n b p cs e z hn ho hp hnp hh hk => by
    rcases hk.2 with h | ⟨o, h1, h2⟩
    · refine ⟨Nat.lt_of_lt_of_le (w2.kpl _ h) ?_, .inl h⟩
      exact Nat.le_trans c3.size (Nat.le_refl _)
    · rw [hh] at h1
      cases h1
      cases h2
  have hcb : Conc wb s1.fs a1 W2 := ⟨d1, d2, BelowK.refl _ _, ρ1, dt, hmb⟩
  have hrec : RecOk wb := fun k hk => by
    obtain rfl : l = k := by simpa [wb] using hk
    exact ⟨⟨by show l < W2.heap.size; omega, .inr ⟨_, hL2, rfl⟩⟩, _, hL2⟩
  have hext1 : Ext ρ ρ1 := dm.ext
  refine wpIn_n (wpIn_mono (hB wb a1 W2 (Con.of hrec hcb)) ?_)
  rintro e a3 W3 ⟨rfl, _, w3, hl3, f1, f2, f3, ρ3, ft, fm⟩
  -- back to the loop's own start
  have hb3 : BelowK wb.kp W2 W3 := ⟨f3.os.trans hl3.bel.os, f3.tape.trans hl3.bel.tape, f3.output.trans hl3.bel.output, Nat.le_trans hl3.bel.size f3.size, fun k hk => (f3.block k (hl3.kp k hk)).trans (hl3.bel.block k hk)⟩
  have hL3 : W3.heap[l]? = some (.loop (recOf fn a.tmps ps assign body D .busy none)) := (hb3.block l (hrec l rfl).1).trans hL2
  have hext3 : Ext ρ1 ρ3 := by have := fm.ext; rwa [hl3.ρ0] at this
  have kp1 : ∀ k, w2.kp k → wa.kp k := fun k hk => ⟨Nat.lt_of_lt_of_le (w2.kpl k hk) c3.size, .inl hk⟩
  have sz1 : W.heap.size ≤ W2.heap.size := by rw [hsz2]; exact d3.size
  have kp2 : ∀ k, w2.kp k → wb.kp k := fun k hk => ⟨Nat.lt_of_lt_of_le (w2.kpl k hk) (Nat.le_trans c3.size sz1), .inl hk⟩
  have keep3 : ∀ k, w2.kp k → W3.heap[k]? = W.heap[k]? := fun k hk =>
    (hb3.block k (kp2 k hk)).trans ((hoth k fun e => hkl (by rw [← e]; exact hk)).trans (d3.block k (kp1 k hk)))
  have hbel : BelowK w2.kp w2.toWorld W3 := c3.trans ⟨hb3.os.trans ((by rw [← hW2]; rfl : W2.os = W1.os).trans d3.os), hb3.tape.trans ((by rw [← hW2]; rfl : W2.tape = W1.tape).trans d3.tape), hb3.output.trans ((by rw [← hW2]; rfl : W2.output = W1.output).trans d3.output), Nat.le_trans sz1 hb3.size, keep3⟩
  have hback : Conc w2 (St.fs { tmps := (St_of i).tmps, mem := s'.mem }) a W3 :=
    ⟨c1, c2, hbel, ρ3, fun t => ((ht t).ext hext1).ext hext3, MemOk.less ⟨hm.ext.trans (hext1.trans hext3), fm.fresh, fm.ok, fm.sep⟩ fun k hk => hl3.kp k (kp2 k hk)⟩
  have hX3 : X W3 := hX W W3 hXW fun k hk hne => by
    obtain ⟨o, h1, h2⟩ := hk
    have e1 : W1.heap[k]? = W.heap[k]? := d3.block k ⟨heap_lt h1, .inr ⟨o, h1, h2⟩⟩
    have e2 : W2.heap[k]? = W.heap[k]? := (hoth k hne).trans e1
    exact (hb3.block k ⟨heap_lt (e2.trans h1), .inr ⟨o, e2.trans h1, h2⟩⟩).trans e2
  have fin : ∀ (pe : Option Code) (st : LoopState), X (W3.putObj l (.loop (recOf fn a.tmps ps assign body D st pe))) := fun pe st => hX W3 _ hX3 fun k _ hne => World.putObj_heap_other hne
  have hl3' : l < W3.heap.size := heap_lt hL3
  cases e' with
  | normal =>
    obtain ⟨g1, π, g2⟩ := hend
    have hn := weak_conc g2 hdom (cut_conc hdomM hback)
    refine ⟨_, _, run_endRound none hL3, .inl ⟨rfl, ⟨g1, ?_, ?_, ?_⟩, ?_⟩⟩
    · exact hn.putObj _ hkl hL3 rfl
    · exact World.putObj_heap_same hl3'
    · exact fin none .ready
    · exact ⟨by rw [World.putObj_size]; exact Nat.le_trans sz1 hb3.size, fun g hgg => (World.putObj_heap_other (fun e => hkl (by rw [← e]; exact hG g hgg))).trans (keep3 g (hG g hgg))⟩
  | exit id =>
    obtain ⟨g1, π, g2⟩ := hend
    have hn := weak_conc g2 hdom (cut_conc hdomM hback)
    exact ⟨_, _, run_endRound (some (.exit id)) hL3, .inr ⟨rfl, .exit id, by simp, g1, hn.putObj _ hkl hL3 rfl, World.putObj_heap_same hl3', fin (some (.exit id)) .done⟩⟩
  | ret =>
    obtain ⟨g1, π, g2⟩ := hend
    have hn := weak_conc g2 hdom (cut_conc hdomM hback)
    exact ⟨_, _, run_endRound (some .ret) hL3, .inr ⟨rfl, .ret, by simp, g1, hn.putObj _ hkl hL3 rfl, World.putObj_heap_same hl3', fin (some .ret) .done⟩⟩
set_option maxHeartbeats 1000000 in
/-- A loop over a function whose iterator has its contract, from its head to its end. -/
theorem range_det (hps : ∀ i, (enc i).length = ps.length) (hpl : ∀ i, (enc i).all plainV = true) (hround : ∀ i, Good i → i < len → RoundOk P assign body (fun i => ps.zip (enc i)) St_of Good re rs N M keep i)
    {gt : Tmp} {Kn : List Nat} {gf : FuncId} {cap : List Value} (hent : enters P gf) (hT : (St_of 0).tmps.getD gt undef = .func (.func gf) #[] cap.toArray)
    (hK : ∀ n ∈ Kn, ∀ b, (St_of 0).fs.blk n = some b → b.own = false)
    (hiter : ∀ (ρ0 ρ : Nat → Option Pl) (B : Nat → Prop) (w : World) (lb : Array Value), VRs ρ cap lb → MemOk ρ0 ρ B (St_of 0).fs.blk w → Iter P gf lb len enc (gsOf (St_of 0).fs ρ Kn) w)
    {kf : List Nat} (hfin : Good len → re = .normal ∧ ∃ π, WS N π (cutS M kf (St_of len)) rs) {s : St} {π : List (Option Nat)} (hN : s.mem.length = N) (hNM : N ≤ M) (hs : WS N π (viewS Kn s) (St_of 0)) (hg0 : Good 0) :
    Det P (.rangeFunc (.tmp gt) ps.toArray assign body) s re rs := by
  rintro w0 a w ⟨hr, w1, hlat, hc⟩
  have hr1 := hr.later hlat
  have hρ : ∀ n, N ≤ n → w1.ρ0 n = none := fun n hn => conc_dom hc n (by omega)
  have hρM : ∀ n, M ≤ n → w1.ρ0 n = none := fun n hn => hρ n (by omega)
  have c0 : Conc w1 (St_of 0).fs a w := weak_conc hs hρ (view_conc hc)
  obtain ⟨d1, d2, d3, ρ, ht, hm⟩ := c0
  have hGl : ∀ g, gsOf (St_of 0).fs ρ Kn g → g < w.heap.size := by
    rintro g ⟨n, hn, b, p, h1, h2, h3, h4, rfl⟩
    exact ((hm.ok n b h1).real h2 h3 h4).1
  have hlb0 := ht gt
  rw [show (St_of 0).fs.tmp gt = .func (.func gf) #[] cap.toArray from hT] at hlb0
  obtain ⟨f', lb, hgv, hf', hlb⟩ := hlb0.func_inv
  have hf0 : f' = #[] := Array.eq_empty_of_size_eq_zero (by simpa using hf'.1.symm)
  rw [hf0] at hgv
  have hit := hiter w1.ρ0 ρ w1.kp w lb (by simpa using hlb) hm
  generalize hGd : gsOf (St_of 0).fs ρ Kn = G at hGl hit
  let w2 : Start := ⟨w, w1.ρ0, fun k => k < w.heap.size ∧ (w1.kp k ∨ G k ∨ nonC w k), fun k h => h.1, w1.df, w1.ro⟩
  have l12 : Later w1 w2 := ⟨rfl, rfl, fun k hk => ⟨Nat.lt_of_lt_of_le (w1.kpl k hk) d3.size, .inl hk⟩, d3, [], rfl, List.nodup_nil, fun D hD => by cases hD⟩
  have hm2 : MemOk w1.ρ0 ρ w2.kp (St_of 0).fs.blk w := hm.other fun n b p cs e z hn ho hp hnp hh hk => by
    rcases hk.2 with h | h | ⟨o, h1, h2⟩
    · exact h
    · exfalso
      rw [← hGd] at h
      obtain ⟨n', hn', b', p', h1, h2, h3, h4, h5⟩ := h
      have hne : n ≠ n' := fun e => by
        subst e
        have := hK n hn' b hn
        rw [ho] at this
        cases this
      exact hm.sep n n' b b' p p' hn ho h1 h2 hne hp h3 hnp h4 h5.symm
    · rw [hh] at h1
      cases h1
      cases h2
  have c2 : Conc w2 (St_of 0).fs a w := ⟨d1, d2, BelowK.refl _ _, ρ, ht, hm2⟩
  have hkl : ∀ l, w.heap.size ≤ l → ¬ w2.kp l := fun l hl h => by have := h.1; omega
  -- behind the loop
  have final : ∀ (mk : List Nat) (W : World), Conc w2 rs.fs a W → mk.Nodup → (∀ D ∈ mk, w.heap.size ≤ D ∧ W.heap[D]? = some (.deferred (some []))) → Con w1 rs.fs { a with defers := mk.map mkDf ++ a.defers } W := by
    rintro mk W ⟨e1, e2, e3, ρ', et, em⟩ hnd hmk
    let w3 : Start := ⟨W, w1.ρ0, fun k => k < W.heap.size ∧ (w2.kp k ∨ k ∈ mk), fun k h => h.1, mk.map mkDf ++ w1.df, w1.ro⟩
    have l23 : Later w2 w3 := ⟨rfl, rfl, fun k hk => ⟨Nat.lt_of_lt_of_le (w2.kpl k hk) e3.size, .inl hk⟩, e3, mk, rfl, hnd, fun D hD => ⟨hkl D (hmk D hD).1, (hmk D hD).1, ⟨heap_lt (hmk D hD).2, .inr hD⟩, (hmk D hD).2⟩⟩
    refine ⟨hr1, w3, l12.trans l23, by show _ = mk.map mkDf ++ w1.df; rw [← show a.defers = w1.df from e1], e2, BelowK.refl _ _, ρ', et, em.other fun n b p cs e z hn ho hp hnp hh hk => ?_⟩
    rcases hk.2 with h | h
    · exact h
    · rw [(hmk _ h).2] at hh
      cases hh
  -- the iterator's call
  have calls : ∀ (mk : List Nat) (l D : Nat) (fn : FuncId) (W1 : World), w.heap.size ≤ l → w.grownBy W1 none → W1.heap[l]? = some (.loop (recOf fn a.tmps ps assign body D .ready none)) → mk.Nodup → (∀ D ∈ mk, w.heap.size ≤ D ∧ D ≠ l ∧ W1.heap[D]? = some (.deferred (some []))) →
      CallsIn (fz w1.ro) 2 P gf (#[.func (.yield l) #[] #[]] ++ lb) W1 (rangePost (fz w1.ro) 3 P l (fun e a w => e = re.out ∧ Con w1 rs.fs a w) { a with defers := mk.map mkDf ++ a.defers }) := by
    intro mk l D fn W1 hl hW hL hnd hmk
    have hXk : ∀ W W' : World, (∀ D ∈ mk, W.heap[D]? = some (.deferred (some []))) → (∀ k, nonC W k → k ≠ l → W'.heap[k]? = W.heap[k]?) → ∀ D ∈ mk, W'.heap[D]? = some (.deferred (some [])) := fun W W' h hk D' hD' => (hk D' ⟨_, h D' hD', rfl⟩ (hmk D' hD').2.1).trans (h D' hD')
    have base := hit l (fun i W => Good i ∧ Conc w2 (St_of i).fs a W ∧ W.heap[l]? = some (.loop (recOf fn a.tmps ps assign body D .ready none)) ∧ ∀ D ∈ mk, W.heap[D]? = some (.deferred (some [])))
      (fun W => ∃ e', e' ≠ .normal ∧ e' = re ∧ Conc w2 rs.fs a W ∧ W.heap[l]? = some (.loop (recOf fn a.tmps ps assign body D .done (some (exCode e')))) ∧ ∀ D ∈ mk, W.heap[D]? = some (.deferred (some []))) W1
      (fun g hg => hW.block g (hGl g hg) (by simp)) hW.size
      (fun i W W' ⟨g, c, hl', hx⟩ hgr => ⟨g, c.grown hgr, (hgr.block l (heap_lt hl') (by simp)).trans hl', hXk W W' hx fun k ⟨o, hk, _⟩ _ => hgr.block k (heap_lt hk) (by simp)⟩)
      (fun W W' ⟨e', q1, q2, c, hl', hx⟩ hgr => ⟨e', q1, q2, c.grown hgr, (hgr.block l (heap_lt hl') (by simp)).trans hl', hXk W W' hx fun k ⟨o, hk, _⟩ _ => hgr.block k (heap_lt hk) (by simp)⟩)
      (fun i W ⟨g, c, hl', hx⟩ hlt => range_round (w2 := w2) (G := G) (X := fun W => ∀ D ∈ mk, W.heap[D]? = some (.deferred (some []))) hps hpl hround hXk hl (fun g hg => ⟨hGl g hg, .inr (.inl hg)⟩) hρ hρM g hlt c hl' hx)
      ⟨hg0, c2.grown hW, hL, fun D hD => (hmk D hD).2.2⟩
    have base' : CallsIn (fz w1.ro) 2 P gf (#[.func (.yield l) #[] #[]] ++ lb) W1 _ := base
    refine base'.mono ?_
    rintro e W2 ⟨⟨v, rfl⟩, ⟨g, c, hl', hx⟩ | ⟨e', hne, he, c, hl', hx⟩⟩
    · obtain ⟨hre, π', g2⟩ := hfin g
      refine ⟨none, _, run_endLoop hl' (by simp [recOf]), by rw [hre]; rfl, final mk _ ((weak_conc (w0 := w2) g2 hρ (cut_conc (w0 := w2) hρM c)).putObj _ (hkl l hl) hl' rfl) hnd fun D' hD' => ⟨(hmk D' hD').1, (World.putObj_heap_other (hmk D' hD').2.1).trans (hx D' hD')⟩⟩
    · have fin2 := final mk _ (c.putObj (.loop { recOf fn a.tmps ps assign body D .done (some (exCode e')) with state := .exhausted }) (hkl l hl) hl' rfl) hnd fun D' hD' => ⟨(hmk D' hD').1, (World.putObj_heap_other (hmk D' hD').2.1).trans (hx D' hD')⟩
      refine ⟨some (exCode e'), _, run_endLoop hl' (by simp [recOf]), ?_⟩
      cases e' with
      | normal => exact absurd rfl hne
      | exit id => exact wpIn_exit ⟨by rw [← he]; rfl, fin2⟩
      | ret => exact wpIn_ret ⟨by rw [← he]; rfl, fin2⟩
  have hg : a.eval (.tmp gt) = .func (.func gf) #[] lb := hgv
  have main : (Code.rangeFunc (.tmp gt) ps.toArray assign body).wpIn (fz w1.ro) 3 P (fun e a w => e = re.out ∧ Con w1 rs.fs a w) a w := by
    refine wpIn_rangeFunc fun fn hfn => ?_
    have hres : ∀ (l : Nat) (W : World), (resolve a.eval (rangeCall (.tmp gt) l) 0).run P W = .ok { target := .fn (.func gf) lb, args := #[.func (.yield l) #[] #[]] } W := fun l W => by
      simp only [resolve, hg]
      simp [go_sem]
    have hinv : ∀ (l : Nat) (W : World), (invoke (.fn (.func gf) lb) #[.func (.yield l) #[] #[]]).run P W = .ok (.enter gf (#[.func (.yield l) #[] #[]] ++ lb)) W := fun l W => by
      simp only [invoke]
      exact hent _ _
    have close : ∀ (mk : List Nat) (l D : Nat) (W1 : World), (Instr.enterLoop fn a.tmps ps.toArray assign body w1.ro).run P w = .ok (l, mk.map mkDf) W1 →
        CallsIn (fz w1.ro) 2 P gf (#[.func (.yield l) #[] #[]] ++ lb) W1 (rangePost (fz w1.ro) 3 P l (fun e a w => e = re.out ∧ Con w1 rs.fs a w) { a with defers := mk.map mkDf ++ a.defers }) →
        ∃ (l : Nat) (mark : List Deferred) (w₁ : World) (d : Deferred) (w₁' : World) (f : FuncId) (args : Array Value) (w₂ : World),
          (Instr.enterLoop fn a.tmps ps.toArray assign body (fz w1.ro).round).run P w = .ok (l, mark) w₁ ∧
          (resolve a.eval (rangeCall (.tmp gt) l) 0).run P w₁ = .ok d w₁' ∧
          (∀ f', Target.leads P w₁' d.target d.args = some f' → (fz w1.ro).fn f') ∧
          (invoke d.target d.args).run P w₁' = .ok (.enter f args) w₂ ∧
          ((fz w1.ro).depth.isSome = true → 1 ≤ 3) ∧
          CallsIn (fz w1.ro) (3 - 1) P f args w₂ (rangePost (fz w1.ro) 3 P l (fun e a w => e = re.out ∧ Con w1 rs.fs a w) { a with defers := mark ++ a.defers }) :=
      fun mk l D W1 h1 h2 => ⟨l, mk.map mkDf, W1, _, W1, gf, _, W1, h1, hres l W1, fun _ _ => trivial, hinv l W1, fun h => (by cases h), h2⟩
    rcases hro : w1.ro with _ | l₀
    · have hgr : w.grownBy ((w.alloc (.deferred (some []))).alloc (.loop (recOf fn a.tmps ps assign body w.heap.size .ready none))) none :=
        ⟨rfl, rfl, rfl, by simp; omega, fun k hk _ => (Below.heap_alloc _ _ k (by simp; omega)).trans (Below.heap_alloc _ _ k hk)⟩
      have hL := World.alloc_heap_new (w.alloc (.deferred (some []))) (.loop (recOf fn a.tmps ps assign body w.heap.size .ready none))
      rw [World.size_alloc] at hL
      have hD : ((w.alloc (.deferred (some []))).alloc (.loop (recOf fn a.tmps ps assign body w.heap.size .ready none))).heap[w.heap.size]? = some (.deferred (some [])) :=
        (Below.heap_alloc _ _ _ (by simp)).trans (World.alloc_heap_new w _)
      have hent1 : (Instr.enterLoop fn a.tmps ps.toArray assign body w1.ro).run P w = .ok (w.heap.size + 1, [w.heap.size].map mkDf) ((w.alloc (.deferred (some []))).alloc (.loop (recOf fn a.tmps ps assign body w.heap.size .ready none))) := by
        rw [hro]
        exact run_enterLoop_outer _ _ _ _ _
      generalize (w.alloc (.deferred (some []))).alloc (.loop (recOf fn a.tmps ps assign body w.heap.size .ready none)) = W1 at hgr hL hD hent1
      have := close [w.heap.size] (w.heap.size + 1) w.heap.size W1 hent1 (calls [w.heap.size] (w.heap.size + 1) w.heap.size fn W1 (by omega) hgr hL (by simp) (by
        intro D hD'
        obtain rfl : D = w.heap.size := by simpa using hD'
        exact ⟨Nat.le_refl _, by omega, hD⟩))
      rwa [hro] at this
    · obtain ⟨hk, r₀, hr₀⟩ := hr1 l₀ hro
      have hr₀ : w.heap[l₀]? = some (.loop r₀) := (d3.block l₀ hk).trans hr₀
      have hgr : w.grownBy (w.alloc (.loop (recOf fn a.tmps ps assign body r₀.defers .ready none))) none := World.grownBy_alloc w _ none
      have hL := World.alloc_heap_new w (.loop (recOf fn a.tmps ps assign body r₀.defers .ready none))
      have hent1 : (Instr.enterLoop fn a.tmps ps.toArray assign body w1.ro).run P w = .ok (w.heap.size, ([] : List Nat).map mkDf) (w.alloc (.loop (recOf fn a.tmps ps assign body r₀.defers .ready none))) := by
        rw [hro]
        exact run_enterLoop_inner hr₀ _ _ _ _ _
      generalize w.alloc (.loop (recOf fn a.tmps ps assign body r₀.defers .ready none)) = W1 at hgr hL hent1
      have := close [] w.heap.size r₀.defers W1 hent1 (calls [] w.heap.size r₀.defers fn W1 (Nat.le_refl _) hgr hL List.nodup_nil (fun D hD => by cases hD))
      rwa [hro] at this
  have := wpIn_mono main fun e a w ⟨he, hc⟩ => (⟨he, hc.later hr hlat⟩ : e = re.out ∧ Con w0 rs.fs a w)
  rwa [hlat.ro] at this
end
/-- A round on a state: what is set, the assignment, the body; the slots are as they were behind it. -/
def bodyR (P : Program) (E : Env) (m n : Nat) (lt : LT) (rt : RT) (asg bod : Code) (pv : List (Nat × Value)) (keep : Ex → List Nat) (M : Nat) (s : St) : Tree :=
  asT P E.J (runM P E m n) asg (fun s1 => runN P E.R E.J (asK P E (runM P E m n)) (runM P E m n) lt rt m bod 0 (fun e s' => .leaf e (cutS M (keep e) { tmps := s.tmps, mem := s'.mem })) s1) { tmps := putL pv s.tmps, mem := s.mem }
/-- The end of a round. -/
def RoundEndR (N : Nat) (St_of : Nat → St) (Good : Nat → Prop) (re : Ex) (rs : St) (i : Nat) (e : Ex) (s : St) : Prop :=
  match e with
  | .normal => Good (i + 1) ∧ ∃ π, WS N π s (St_of (i + 1))
  | e => e = re ∧ ∃ π, WS N π s rs
theorem bodyR_ok {P : Program} (hm : P.follows .mixedOrders = true) {E : Env} (hE : EnvOk P E) {m n : Nat} {lt : LT} {rt : RT} {asg bod : Code} {pv : Nat → List (Nat × Value)} {St_of : Nat → St} {Good : Nat → Prop} {re : Ex} {rs : St} {N M i : Nat} {keep : Ex → List Nat}
    (hL : LoopsGood P lt 0 bod) (hR : RangesGood P rt bod) (h : (bodyR P E m n lt rt asg bod (pv i) keep M (St_of i)).ok (RoundEndR N St_of Good re rs i) (fun _ _ => False)) : RoundOk P asg bod pv St_of Good re rs N M keep i := by
  obtain ⟨s1, h1, h2⟩ := asT_det hE.J (runM_ok hm hE m n) asg _ _ h
  obtain ⟨e', s', h3, h4⟩ := runN_det hE.R hE.J (asK_ok hE (runM_ok hm hE m n)) (runM_ok hm hE m n) hm bod 0 hL hR _ _ _ s1 h1
  refine ⟨s1, e', s', h2, h4, ?_⟩
  unfold Tree.ok RoundEndR at h3
  cases e' <;> exact h3
/-- An entry for a loop over a function is sound. -/
def RangeE (P : Program) (e : St → (Ex → St → Tree) → Option Tree) (c : Code) : Prop := ∀ s k t F H, e s k = some t → t.ok F H → ∃ e' s', (k e' s').ok F H ∧ Det P c s e' s'
def slotR : Code → Nat
  | .rangeFunc f _ _ _ => slotOf f
  | _ => 0
/-- Code with one such loop. -/
def rt1 (t : Nat) (e : St → (Ex → St → Tree) → Option Tree) : RT := fun j s k => match Nat.beq j t with
  | true => e s k
  | false => none
theorem rt1_good {P : Program} {e : St → (Ex → St → Tree) → Option Tree} {t : Nat} {c : Code} (hs : (rangesOf c).map slotR = [t]) (h : RangeE P e ((rangesOf c).getD 0 .skip)) : RangesGood P (rt1 t e) c := by
  intro d hd f ps x y hdd s k tr F H hlt ht
  unfold rt1 at hlt
  split at hlt
  rotate_left
  · cases hlt
  have hlen : (rangesOf c).length = 1 := by have := congrArg List.length hs; simpa using this
  obtain ⟨r, hr⟩ := List.length_eq_one_iff.1 hlen
  rw [hr] at hd h
  obtain rfl : d = r := by simpa using hd
  exact h s k tr F H hlt ht
/-- Do the operations from m on come behind all others, one after the other? -/
def lastOk (m : Nat) (T : List (List Nat)) (n : Nat) : Bool := (List.range n).all fun j => Nat.blt j m || (List.range j).all fun i => (T.getD j []).contains i
/-- The first m operations of a drawn region, run. -/
def thenT (P : Program) (m : Nat) (ops : List Oper) (s : St) (k : St → Tree) : Tree :=
  match stepsOf (aop P failG) ops.toArray (nameOf alAll ops s.mem.length) 0 (ops.take m) { tmps := s.tmps, mem := s.mem ++ List.replicate (countB alAll ops) none } with
  | none => .bad
  | some (l, s') => match validT ops.toArray (ancOf ops) && clashAll (ancOf ops) 0 ((ops.take m).zip l) && lastOk m (ancOf ops) ops.length && Nat.ble m ops.length with
    | false => .bad
    | true => needs (condsOf l) (k s')
theorem thenT_ok {P : Program} (hm : P.follows .mixedOrders = true) {m : Nat} {ops : List Oper} {s : St} {k : St → Tree} {F : Ex → St → Prop} {H : Value → List (Option Blk) → Prop} (h : (thenT P m ops s k).ok F H) :
    ∃ s', (k s').ok F H ∧ ∀ (w0 : Start) (a : Act) (w : World) (Q : Exit → Act → World → Prop) (id : Nat), Conc w0 s.fs a w → (∀ a' w', Conc w0 s'.fs a' w' → wpOpsIn (fz w0.ro) 3 P ops.toArray Q (List.range' m (ops.length - m)) a' w') → (Code.region id ops.toArray true).wpIn (fz w0.ro) 3 P Q a w := by
  unfold thenT at h
  split at h
  · exact h.elim
  rename_i l s1 hst
  split at h
  · exact h.elim
  rename_i hchk
  simp only [Bool.and_eq_true] at hchk
  obtain ⟨⟨⟨hv, hcl⟩, hla⟩, hml⟩ := hchk
  have hml := Nat.le_of_ble_eq_true hml
  obtain ⟨hC, hk⟩ := needs_ok h
  refine ⟨s1, hk, fun w0 a w Q id hc hQ => ?_⟩
  have htl : (ops.take m).length = m := by simp [hml]
  obtain ⟨h1, h2, h3⟩ := stepsOf_spec (s0 := s.fs) (eff := fun i => ((l[i]?).map (·.1)).getD skipE) (ops.take m) 0 _ _ _ hst (fun j o h => by
    rw [List.getElem?_take] at h
    split at h
    · simpa using h
    · cases h) (fun j x hx => by simp [hx]) (by rw [St.pad_fs]; rfl)
  have hget : ∀ j o, j < m → ops.toArray[j]? = some o → (ops.take m)[j]? = some o := fun j o hj ho => by
    rw [List.getElem?_take, if_pos hj]
    simpa using ho
  have hrun : ∀ i o, i < m → ops.toArray[i]? = some o → (gop (aop P failG) ops.toArray (nameOf alAll ops s.mem.length i) o).run (sAt (dstOf ops.toArray) (fun i => ((l[i]?).map (·.1)).getD skipE) s.fs (fun _ => true) i) = some (((l[i]?).map (·.1)).getD skipE) ∧ (((l[i]?).map (·.1)).getD skipE).cond := by
    intro i o hi ho
    obtain ⟨x, k1, k2, _, _⟩ := h3 i o (hget i o hi ho)
    rw [Nat.zero_add] at k2
    rw [k2, k1]
    exact ⟨rfl, condsOf_get hC i x k1⟩
  refine region_then (aop_sound (failG_sound P)) hm hv (m := m) (by simpa using hml) (nm := nameOf alAll ops s.mem.length) hrun (fun i j oi oj hij hj hoi hoj hcl' => ?_) (fun j hj1 hj2 i hi => ?_) hc (fun a' w' hcc => ?_)
  · obtain ⟨x, k1, _, k3, k4⟩ := h3 i oi (hget i oi (by omega) hoi)
    obtain ⟨y, m1, _, m3, m4⟩ := h3 j oj (hget j oj hj hoj)
    rw [Nat.zero_add] at k3 k4 m3 m4
    have := clashAll_get ((ops.take m).zip l) 0 hcl i j (oi, x) (oj, y) hij (by rw [List.getElem?_zip_eq_some]; exact ⟨hget i oi (by omega) hoi, k1⟩) (by rw [List.getElem?_zip_eq_some]; exact ⟨hget j oj hj hoj, m1⟩)
      (by simp only [k3, k4, m3, m4]; simpa [k1, m1] using hcl')
    simpa using this
  · have := List.all_eq_true.1 hla j (by simpa using hj2)
    have hb : Nat.blt j m = false := by
      rcases hb : Nat.blt j m with _ | _
      · rfl
      · have := Nat.le_of_ble_eq_true hb
        omega
    rw [hb, Bool.false_or] at this
    have := List.all_eq_true.1 this i (by simpa using hi)
    simpa using this
  · have := hQ a' w' (by rw [h2, Nat.zero_add, htl]; exact hcc)
    simpa using this
/-- The parts of such a loop. -/
def asgOf : Code → Code
  | .rangeFunc _ _ a _ => a
  | _ => .skip
def bodOf : Code → Code
  | .rangeFunc _ _ _ b => b
  | _ => .skip
end Go.Proofs.Ytbhdhejefpdjfaa
namespace Go.Proofs.Ytbhdhejefpdjfaa
set_option linter.all false
open Go.RowKit
def seqL : Code → Code
  | .seq x _ => x
  | _ => .skip
def seqR : Code → Code
  | .seq _ y => y
  | _ => .skip
def inBlk : Code → Code
  | .block _ c => c
  | _ => .skip
def inLop : Code → Code
  | .loop c => c
  | _ => .skip
def rgOps : Code → List Oper
  | .region _ ops _ => ops.toList
  | _ => []
noncomputable def edC : Code := codeOf Try.f42
noncomputable def edB : Code := inLop (inBlk (seqR edC))
noncomputable def ed0 : Code := seqL edC
noncomputable def ed1 : Code := seqL edB
noncomputable def ed2 : Code := seqL (inBlk (seqL (seqR (seqR edB))))
noncomputable def ed3 : List Oper := rgOps (seqL (seqR (inBlk (seqL (seqR (seqR edB))))))
noncomputable def ed4 : Code := seqR (seqR (seqR edB))
theorem ed_is : codeOf Try.f42 = .seq ed0 (.block 0 (.loop (.seq ed1 (.seq (.cond (.tmp 8) .skip (.exit 0)) (.seq (.block 1 (.seq ed2 (.seq (.region 3 ed3.toArray true) (.cond (.tmp 25) .ret .skip)))) ed4))))) := by kernel_rfl
def edM (ps : List Pt) : List (Option Blk) := [some ⟨.view, .vals [.slice (some ⟨1, 0, none⟩) ps.length ps.length]⟩, some ⟨.view, .ints (flat ps)⟩]
def edS (l : Nat) (ps : List Pt) : St := ⟨.func (.yield l) #[] #[] :: .pointer (some ⟨0, 0, none⟩) :: List.replicate 25 undef, edM ps⟩
def edI (l : Nat) (ps : List Pt) (i : Nat) : St := ⟨[.func (.yield l) #[] #[], .pointer (some ⟨0, 0, none⟩), topV, topV, topV, .slice (some ⟨1, 0, none⟩) ps.length ps.length, .int .i64 ps.length, .int .i64 i, topV, topV, topV, topV, topV, topV, topV, topV, topV, topV, topV, topV, topV, topV, topV, topV, topV, topV, topV], edM ps⟩
set_option maxRecDepth 100000 in
theorem tr_ed0 (l : Nat) (ps : List Pt) : asT Try.prog noJ (runM Try.prog (tabE B0) 30 12) ed0 (.leaf .normal) (edS l ps) = .leaf .normal ⟨[.func (Fn.yield l) #[] #[], .pointer (some ⟨0, 0, none⟩), .tuple #[], .tuple #[], .tuple #[], .slice (some ⟨1, 0, none⟩) (ps.length) (ps.length), .int .i64 ((↑ps.length : Int)), .int .i64 (0), .tuple #[], .tuple #[], .tuple #[], .tuple #[], .tuple #[], .tuple #[], .tuple #[], .tuple #[], .tuple #[], .tuple #[], .tuple #[], .tuple #[], .tuple #[], .tuple #[], .tuple #[], .tuple #[], .tuple #[], .tuple #[], .tuple #[]], [some ⟨.view, .vals [.slice (some ⟨1, 0, none⟩) (ps.length) (ps.length)]⟩, some ⟨.view, .ints (flat ps)⟩]⟩ := by kernel_rfl
set_option maxRecDepth 100000 in
theorem tr_ed1 (l : Nat) (ps : List Pt) (i : Nat) : asT Try.prog noJ (runM Try.prog (tabE B0) 30 12) ed1 (.leaf .normal) (edI l ps i) = .leaf .normal ⟨[.func (Fn.yield l) #[] #[], .pointer (some ⟨0, 0, none⟩), topV, topV, topV, .slice (some ⟨1, 0, none⟩) (ps.length) (ps.length), .int .i64 ((↑ps.length : Int)), .int .i64 ((↑i : Int)), .bool (decide ((↑i : Int) < (↑ps.length : Int))), topV, topV, topV, topV, topV, topV, topV, topV, topV, topV, topV, topV, topV, topV, topV, topV, topV, topV], [some ⟨.view, .vals [.slice (some ⟨1, 0, none⟩) (ps.length) (ps.length)]⟩, some ⟨.view, .ints (flat ps)⟩]⟩ := by kernel_rfl
set_option maxRecDepth 100000 in
theorem tr_ed2 (l : Nat) (ps : List Pt) (i : Nat) : asT Try.prog noJ (runM Try.prog (tabE B0) 30 12) ed2 (fun s => thenT Try.prog 12 ed3 s (.leaf .normal)) (edI l ps i) = .need ((0 : Int) ≤ (↑i : Int) ∧ (↑i : Int) < (↑ps.length : Int)) (.need ((0 : Nat) + (↑i : Int).toNat * (2 : Nat) + (2 : Nat) ≤ (flat ps).length) (.need (¬(↑ps.length : Int) = (0 : Int)) (.need ((0 : Int) ≤ (IntKind.i64.wrap ((↑i : Int) + (1 : Int))).tmod (↑ps.length : Int) ∧ (IntKind.i64.wrap ((↑i : Int) + (1 : Int))).tmod (↑ps.length : Int) < (↑ps.length : Int)) (.need ((0 : Nat) + ((IntKind.i64.wrap ((↑i : Int) + (1 : Int))).tmod (↑ps.length : Int)).toNat * (2 : Nat) + (2 : Nat) ≤ (flat ps).length) (.leaf .normal ⟨[.func (Fn.yield l) #[] #[], .pointer (some ⟨0, 0, none⟩), topV, .int .i64 ((↑i : Int)), .pointer (some ⟨2, 0, none⟩), .slice (some ⟨1, 0, none⟩) (ps.length) (ps.length), .int .i64 ((↑ps.length : Int)), .int .i64 ((↑i : Int)), topV, .int .i64 ((↑i : Int)), .pointer (some ⟨1, 0 + (↑i : Int).toNat * 2, none⟩), .agg #[.int .i64 ((flat ps).getD (0 + (↑i : Int).toNat * 2) 0), .int .i64 ((flat ps).getD (0 + (↑i : Int).toNat * 2 + 1) 0)], .func (Fn.yield l) #[] #[], .int .i64 ((↑i : Int)), .agg #[.int .i64 ((flat ps).getD (0 + (↑i : Int).toNat * 2) 0), .int .i64 ((flat ps).getD (0 + (↑i : Int).toNat * 2 + 1) 0)], .slice (some ⟨1, 0, none⟩) (ps.length) (ps.length), .int .i64 ((↑i : Int)), .int .i64 (IntKind.i64.wrap ((↑i : Int) + 1)), .slice (some ⟨1, 0, none⟩) (ps.length) (ps.length), .int .i64 ((↑ps.length : Int)), .int .i64 ((IntKind.i64.wrap ((↑i : Int) + 1)).tmod (↑ps.length : Int)), .pointer (some ⟨1, 0 + ((IntKind.i64.wrap ((↑i : Int) + 1)).tmod (↑ps.length : Int)).toNat * 2, none⟩), .agg #[.int .i64 ((flat ps).getD (0 + ((IntKind.i64.wrap ((↑i : Int) + 1)).tmod (↑ps.length : Int)).toNat * 2) 0), .int .i64 ((flat ps).getD (0 + ((IntKind.i64.wrap ((↑i : Int) + 1)).tmod (↑ps.length : Int)).toNat * 2 + 1) 0)], .agg #[.int .i64 ((flat ps).getD (0 + (↑i : Int).toNat * 2) 0), .int .i64 ((flat ps).getD (0 + (↑i : Int).toNat * 2 + 1) 0), .int .i64 ((flat ps).getD (0 + ((IntKind.i64.wrap ((↑i : Int) + 1)).tmod (↑ps.length : Int)).toNat * 2) 0), .int .i64 ((flat ps).getD (0 + ((IntKind.i64.wrap ((↑i : Int) + 1)).tmod (↑ps.length : Int)).toNat * 2 + 1) 0)], topV, topV, topV], [some ⟨.view, .vals [.slice (some ⟨1, 0, none⟩) (ps.length) (ps.length)]⟩, some ⟨.view, .ints (flat ps)⟩, some ⟨.box, .vals [.int .i64 ((flat ps).getD (0 + (↑i : Int).toNat * 2) 0), .int .i64 ((flat ps).getD (0 + (↑i : Int).toNat * 2 + 1) 0)]⟩, none]⟩))))) := by kernel_rfl
def edY (l : Nat) (ps : List Pt) (i : Nat) (b : Bool) : St := ⟨[.func (.yield l) #[] #[], .pointer (some ⟨0, 0, none⟩), topV, topV, topV, .slice (some ⟨1, 0, none⟩) ps.length ps.length, .int .i64 ps.length, .int .i64 i, topV, topV, topV, topV, topV, topV, topV, topV, topV, topV, topV, topV, topV, topV, topV, topV, .bool b, topV, topV], edM ps⟩
set_option maxRecDepth 100000 in
theorem tr_ed5 (l : Nat) (ps : List Pt) (i : Nat) (b : Bool) : seqT Try.prog noJ (runM Try.prog (tabE B0) 30 12) ed3 2 (.leaf .normal) 13 (ed3.drop 13) (edY l ps i b) = .leaf .normal ⟨[.func (Fn.yield l) #[] #[], .pointer (some ⟨0, 0, none⟩), topV, topV, topV, .slice (some ⟨1, 0, none⟩) (ps.length) (ps.length), .int .i64 ((↑ps.length : Int)), .int .i64 ((↑i : Int)), topV, topV, topV, topV, topV, topV, topV, topV, topV, topV, topV, topV, topV, topV, topV, topV, .bool (b), .bool (!b), topV], [some ⟨.view, .vals [.slice (some ⟨1, 0, none⟩) (ps.length) (ps.length)]⟩, some ⟨.view, .ints (flat ps)⟩]⟩ := by kernel_rfl
/-- The state behind the first operations of the call of yield. -/
def edA (ps : List Pt) (i : Nat) : Value := .agg #[.int .i64 ((flat ps).getD (0 + (↑i : Int).toNat * 2) 0), .int .i64 ((flat ps).getD (0 + (↑i : Int).toNat * 2 + 1) 0), .int .i64 ((flat ps).getD (0 + ((IntKind.i64.wrap ((↑i : Int) + 1)).tmod (↑ps.length : Int)).toNat * 2) 0), .int .i64 ((flat ps).getD (0 + ((IntKind.i64.wrap ((↑i : Int) + 1)).tmod (↑ps.length : Int)).toNat * 2 + 1) 0)]
def edZ (b : Bool) : St := ⟨[topV, topV, topV, topV, topV, topV, topV, topV, topV, topV, topV, topV, topV, topV, topV, topV, topV, topV, topV, topV, topV, topV, topV, topV, .bool b, topV, topV], []⟩
set_option maxRecDepth 100000 in
theorem tr_edZ (b : Bool) : seqT Try.prog noJ (runM Try.prog (tabE B0) 30 12) ed3 0 (.leaf .normal) 13 (ed3.drop 13) (edZ b) = .leaf .normal ⟨[topV, topV, topV, topV, topV, topV, topV, topV, topV, topV, topV, topV, topV, topV, topV, topV, topV, topV, topV, topV, topV, topV, topV, topV, .bool (b), .bool (!b), topV], []⟩ := by kernel_rfl
set_option maxRecDepth 100000 in
theorem tr_ed4 (l : Nat) (ps : List Pt) (i : Nat) : asT Try.prog noJ (runM Try.prog (tabE B0) 30 12) ed4 (.leaf .normal) (edI l ps i) = .leaf .normal ⟨[.func (Fn.yield l) #[] #[], .pointer (some ⟨0, 0, none⟩), topV, topV, topV, .slice (some ⟨1, 0, none⟩) (ps.length) (ps.length), .int .i64 ((↑ps.length : Int)), .int .i64 (IntKind.i64.wrap ((↑i : Int) + 1)), topV, topV, topV, topV, topV, topV, topV, topV, topV, topV, topV, topV, topV, topV, topV, topV, topV, topV, .int .i64 (IntKind.i64.wrap ((↑i : Int) + 1))], [some ⟨.view, .vals [.slice (some ⟨1, 0, none⟩) (ps.length) (ps.length)]⟩, some ⟨.view, .ints (flat ps)⟩]⟩ := by kernel_rfl
/-- The edge from place i on. -/
def edV (ps : List Pt) (i : Nat) : Value := .agg #[.int .i64 (ps.getD i (0, 0)).1, .int .i64 (ps.getD i (0, 0)).2, .int .i64 (ps.getD ((i + 1) % ps.length) (0, 0)).1, .int .i64 (ps.getD ((i + 1) % ps.length) (0, 0)).2]
def encE (ps : List Pt) (i : Nat) : List Value := [.int .i64 i, edV ps i]
theorem edA_is {ps : List Pt} {i : Nat} (h : i < ps.length) (hl : ps.length ≤ 1000000000) : edA ps i = edV ps i := by
  have e1 : ((IntKind.i64.wrap ((i : Int) + 1)).tmod (ps.length : Int)).toNat = (i + 1) % ps.length := by
    rw [wsucc h hl]
    rw [Int.tmod_eq_emod_of_nonneg (by omega)]
    omega
  unfold edA edV
  rw [e1]
  simp only [Nat.zero_add, Int.toNat_natCast, flat_get0, flat_get1]
theorem detA_of {P : Program} {J : TabJ} {callM : CallM} (hJ : GSound P J.g) (hcallM : CallMOk P callM) {c : Code} {s s' : St} (h : asT P J callM c (.leaf .normal) s = .leaf .normal s') : DetA P c s s' := by
  obtain ⟨u, h1, h2⟩ := asT_det (F := fun _ u => u = s') (H := fun _ _ => False) hJ hcallM c (.leaf .normal) s (by rw [h]; rfl)
  obtain rfl : u = s' := h1
  exact h2
theorem MM_ok : CallMOk Try.prog (runM Try.prog (tabE B0) 30 12) := runM_ok mixed (tabE_ok B0_ok) 30 12
/-- The names of the closure's memory. -/
def edF (nb nr : Nat) : Nat → Option (Option Nat)
  | 0 => some (some nb)
  | 1 => some (some nr)
  | _ => none
theorem view_re {ρ : Nat → Option Pl} {B B' : Nat → Prop} {w W : World} {n n' : Nat} {cs cs' : Cs} {f : Nat → Option (Option Nat)} (h : BlkOk ρ B w n ⟨.view, cs⟩) (hf : f n' = some (some n)) (hs : w.heap.size ≤ W.heap.size) (hk : ∀ p, ρ n = some p → ¬ nilPl p → W.heap[p.1]? = w.heap[p.1]?)
    (hv : ∀ (k : Nat) v', cs'.list[k]? = some v' → ∃ v, cs.list[k]? = some v ∧ ∀ x, VR ρ v x → VR (rhoOf ρ f) v' x) : BlkOk (rhoOf ρ f) B' W n' ⟨.view, cs'⟩ := by
  rcases h with ⟨p, h1, h2⟩ | ⟨g, o, cp, h1, hq, h2, h3⟩
  · exact .inl ⟨p, (rhoOf_some hf).trans h1, h2⟩
  · refine .inr ⟨g, o, cp, (rhoOf_some hf).trans h1, hq, by omega, fun k v' hv' => ?_⟩
    obtain ⟨v, k1, k2⟩ := hv k v' hv'
    obtain ⟨x, k3, k4⟩ := h3 k v k1
    exact ⟨x, (World.cell?_of_block (w := w) (a := ⟨g, o + k, none⟩) (hk _ h1 hq.not)).trans k3, k2 x k4⟩
noncomputable def o12 : Oper := (ed3[12]?).getD default
theorem o12_at : ed3.toArray[12]? = some o12 := by kernel_rfl
theorem o12_op : o12.op = .call { callee := .value (.tmp 12), args := #[.tmp 13, .tmp 23], argTypes := #[3, 50] } := by kernel_rfl
theorem o12_dst : o12.dst = some 24 := by kernel_rfl
theorem o12_guard : o12.guard = none := by kernel_rfl
theorem ed3_len : ed3.length = 14 := by kernel_rfl
def wE (ρE : Nat → Option Pl) (W : World) : Start := ⟨W, ρE, fun k => k < W.heap.size, fun _ h => h, [], none⟩
theorem wE_grown {ρE : Nat → Option Pl} {W : World} {s : FS} {a : Act} {w : World} (h : Conc (wE ρE W) s a w) : W.grownBy w none :=
  ⟨h.2.2.1.os, h.2.2.1.tape, h.2.2.1.output, h.2.2.1.size, fun k hk _ => h.2.2.1.block k hk⟩
theorem rep_lt {n k j : Nat} {v : Value} (h : k ≠ j) (hj : j < n) : ((List.replicate n topV).set k v).getD j undef = topV := by
  rw [List.getD_eq_getElem?_getD, List.getElem?_set_ne h, List.getElem?_replicate, if_pos hj]
  rfl
theorem rep_ge {n k j : Nat} {v : Value} (h : k ≠ j) (hj : n ≤ j) : ((List.replicate n topV).set k v).getD j undef = undef := by
  rw [List.getD_eq_getElem?_getD, List.getElem?_set_ne h, List.getElem?_replicate, if_neg (by omega)]
  rfl
set_option maxRecDepth 100000 in
theorem ed_iter (ps : List Pt) (hlen : ps.length ≤ 1000000000) {s : FS} {nb nr c : Nat} {Kn : List Nat} (h0 : s.blk nb = some ⟨.view, .vals [.slice (some ⟨nr, 0, none⟩) ps.length c]⟩) (h1 : s.blk nr = some ⟨.view, .ints (flat ps)⟩) (hb : nb ∈ Kn) (hr : nr ∈ Kn)
    (ρ0 ρ : Nat → Option Pl) (B : Nat → Prop) (w : World) (lb : Array Value) (hlb : VRs ρ [.pointer (some ⟨nb, 0, none⟩)] lb) (hm : MemOk ρ0 ρ B s.blk w) : Iter Try.prog 42 lb ps.length (encE ps) (gsOf s ρ Kn) w := by
  intro l J Jx W hGk hsz hab hJxab hY hJ0
  generalize hρE : rhoOf ρ (edF nb nr) = ρE
  have live : ∀ n b, s.blk n = some b → b.live = true → ∃ p, ρ n = some p := fun n b hn hl => let ⟨p, h, _⟩ := (hm.ok n b hn).place hl; ⟨p, h⟩
  have dom2 : ∀ n, 2 ≤ n → ρE n = none := fun n hn => by
    rw [← hρE]
    match n, hn with
    | n + 2, _ => rfl
  -- the closure's memory in a world that keeps what the iterator looks at
  have keepG : ∀ W' : World, (∀ g, gsOf s ρ Kn g → W'.heap[g]? = w.heap[g]?) → ∀ n b p, n ∈ Kn → s.blk n = some b → b.live = true → ρ n = some p → ¬ nilPl p → W'.heap[p.1]? = w.heap[p.1]? := fun W' hk n b p hn hb hl hp hnp => hk p.1 ⟨n, hn, b, p, hb, hl, hp, hnp, rfl⟩
  have mem : ∀ W' : World, (∀ g, gsOf s ρ Kn g → W'.heap[g]? = w.heap[g]?) → w.heap.size ≤ W'.heap.size → MemOk ρE ρE (fun k => k < W'.heap.size) (fun n => (edM ps).getD n none) W' := by
    intro W' hk hs'
    refine ⟨Ext.refl _, fun n hn => ?_, fun n b hn => ?_, fun n n' b b' p p' hn ho => ?_⟩
    · match n, hn with
      | n + 2, _ => exact dom2 _ (by omega)
    · match n, hn with
      | 0, hn =>
        obtain rfl : (⟨.view, .vals [.slice (some ⟨1, 0, none⟩) ps.length ps.length]⟩ : Blk) = b := by simpa [edM] using hn
        rw [← hρE]
        refine view_re (hm.ok nb _ h0) rfl hs' (fun p hp hnp => keepG W' hk nb _ p hb h0 rfl hp hnp) fun k v' hv' => ?_
        match k, hv' with
        | 0, hv' =>
          obtain rfl : Value.slice (some ⟨1, 0, none⟩) ps.length ps.length = v' := by simpa [Cs.list] using hv'
          exact ⟨_, rfl, fun x hx => wv0_ok (f := edF nb nr) (v := .slice (some ⟨nr, 0, none⟩) ps.length c) ⟨rfl, rfl, rfl⟩ hx⟩
        | k + 1, hv' => simp [Cs.list] at hv'
      | 1, hn =>
        obtain rfl : (⟨.view, .ints (flat ps)⟩ : Blk) = b := by simpa [edM] using hn
        rw [← hρE]
        refine view_re (hm.ok nr _ h1) rfl hs' (fun p hp hnp => keepG W' hk nr _ p hr h1 rfl hp hnp) fun k v' hv' => ⟨v', hv', fun x hx => ?_⟩
        have hat : plainV v' = true := plain_of_atom (allAtoms_spec (c := .ints (flat ps)) rfl v' (List.mem_of_getElem? hv'))
        rw [hx.plain hat]
        exact .lit hat
      | n + 2, hn => simp [edM] at hn
    · match n, hn with
      | 0, hn =>
        obtain rfl : (⟨.view, .vals [.slice (some ⟨1, 0, none⟩) ps.length ps.length]⟩ : Blk) = b := by simpa [edM] using hn
        cases ho
      | 1, hn =>
        obtain rfl : (⟨.view, .ints (flat ps)⟩ : Blk) = b := by simpa [edM] using hn
        cases ho
      | n + 2, hn => simp [edM] at hn
  have ρ0some : ∃ p, ρE 0 = some p := by rw [← hρE]; exact live nb _ h0 rfl
  have ρ1some : ∃ p, ρE 1 = some p := by rw [← hρE]; exact live nr _ h1 rfl
  have only : ∀ (ρ' : Nat → Option Pl) (m : List (Option Blk)), m.length = 2 → Ext ρE ρ' → (∀ n, (fun n => m.getD n none) n = none → ρ' n = none) → ρ' = ρE := by
    intro ρ' m hm2 hext hfr
    funext n
    match n with
    | 0 => obtain ⟨p, hp⟩ := ρ0some; rw [hp]; exact hext _ _ hp
    | 1 => obtain ⟨p, hp⟩ := ρ1some; rw [hp]; exact hext _ _ hp
    | n + 2 => rw [dom2 _ (by omega)]; exact hfr _ (by simp [List.getElem?_eq_none (show m.length ≤ n + 2 by omega)])
  -- the arguments
  obtain ⟨y, rfl⟩ : ∃ y, lb = #[y] := Array.size_eq_one_iff.1 (by simpa using hlb.1.symm)
  have hy : VR ρE (.pointer (some ⟨0, 0, none⟩)) y := by
    rw [← hρE]
    exact wv0_ok (f := edF nb nr) (v := .pointer (some ⟨nb, 0, none⟩)) ⟨rfl, rfl⟩ (hlb.2 0 _ _ rfl rfl)
  have hargs : VRs ρE [.func (.yield l) #[] #[], .pointer (some ⟨0, 0, none⟩)] (#[.func (.yield l) #[] #[]] ++ #[y]) := ⟨by simp, fun i v v' hv hv' => by
    match i, hv, hv' with
    | 0, hv, hv' =>
      obtain rfl : Value.func (.yield l) #[] #[] = v := by simpa using hv
      obtain rfl : Value.func (.yield l) #[] #[] = v' := by simpa using hv'
      exact .lit rfl
    | 1, hv, hv' =>
      obtain rfl : Value.pointer (some ⟨0, 0, none⟩) = v := by simpa using hv
      obtain rfl : y = v' := by simpa using hv'
      exact hy
    | i + 2, hv, _ => simp at hv⟩
  have hstart : Conc (wE ρE W) (edS l ps).fs { tmps := (#[.func (.yield l) #[] #[]] ++ #[y]) ++ Array.replicate (Try.f42.ntmps - (#[Value.func (.yield l) #[] #[]] ++ #[y]).size) undef, defers := [] } W :=
    start_conc (n := Try.f42.ntmps) (w0 := wE ρE W) hargs (mem W hGk hsz) (BelowK.refl _ _) rfl
  have restart : ∀ (u : St) (a : Act) (W' w' : World), u.mem = edM ps → (∀ g, gsOf s ρ Kn g → w'.heap[g]? = w.heap[g]?) → w.heap.size ≤ w'.heap.size → Conc (wE ρE W') u.fs a w' → Conc (wE ρE w') u.fs a w' := by
    rintro u a W' w' hu hk hs' ⟨c1, c2, _, ρ', ct, cm⟩
    obtain rfl := only ρ' u.mem (by rw [hu]; rfl) cm.ext cm.fresh
    refine ⟨c1, c2, BelowK.refl _ _, ρ', ct, ?_⟩
    have := mem w' hk hs'
    show MemOk ρ' ρ' _ (fun n => u.mem.getD n none) w'
    rw [hu]
    exact this
  have glt : ∀ g, gsOf s ρ Kn g → g < w.heap.size := by
    rintro g ⟨n, hn, b, p, q1, q2, q3, q4, rfl⟩
    exact ((hm.ok n b q1).real q2 q3 q4).1
  have keepW : ∀ {W1 W2 : World}, (∀ g, gsOf s ρ Kn g → W1.heap[g]? = w.heap[g]?) ∧ w.heap.size ≤ W1.heap.size → W1.grownBy W2 none → (∀ g, gsOf s ρ Kn g → W2.heap[g]? = w.heap[g]?) ∧ w.heap.size ≤ W2.heap.size := fun {W1 W2} h hg =>
    ⟨fun g hgg => (hg.block g (by have := glt g hgg; omega) (by simp)).trans (h.1 g hgg), Nat.le_trans h.2 hg.size⟩
  have dw : ∀ W' : World, ∀ n, 2 ≤ n → (wE ρE W').ρ0 n = none := fun _ n hn => dom2 n hn
  -- one round of the iterator's own loop
  have body : ∀ (i : Nat) (a : Act) (wr : World), i ≤ ps.length → J i wr → ((∀ g, gsOf s ρ Kn g → wr.heap[g]? = w.heap[g]?) ∧ w.heap.size ≤ wr.heap.size) → Conc (wE ρE wr) (edI l ps i).fs a wr →
      (Code.seq ed1 (.seq (.cond (.tmp 8) .skip (.exit 0)) (.seq (.block 1 (.seq ed2 (.seq (.region 3 ed3.toArray true) (.cond (.tmp 25) .ret .skip)))) ed4))).wpIn (fz none) 3 Try.prog (fun e a w' => match e with
        | .normal => i < ps.length ∧ J (i + 1) w' ∧ ((∀ g, gsOf s ρ Kn g → w'.heap[g]? = w.heap[g]?) ∧ w.heap.size ≤ w'.heap.size) ∧ Conc (wE ρE w') (edI l ps (i + 1)).fs a w'
        | .exit id => id = 0 ∧ J ps.length w' ∧ a.defers = []
        | .ret => Jx w' ∧ a.defers = []
        | _ => False) a wr := by
    intro i a wr hi hJ hk hc
    refine wpIn_seq (wpIn_mono (detA_of (failG_sound _) MM_ok (tr_ed1 l ps i) (wE ρE wr) a wr hc) ?_)
    rintro e a1 w1 ⟨rfl, hc1⟩
    have ev8 := evalO_is (c := .tmp 8) (t := decide ((i : Int) < (ps.length : Int))) hc1 rfl
    have hJ1 := hab _ _ _ hJ (wE_grown hc1)
    refine wpIn_seq ?_
    rcases Nat.lt_or_ge i ps.length with hlt | hge
    rotate_left
    · refine wpIn_cond_false (by rw [ev8]; congr 1; exact decide_eq_false (by omega)) (wpIn_exit ?_)
      obtain rfl : i = ps.length := by omega
      exact ⟨rfl, hJ1, hc1.1⟩
    refine wpIn_cond_true (by rw [ev8]; congr 1; exact decide_eq_true (by omega)) (wpIn_skip ?_)
    show Code.wpIn _ _ _ (.seq (.block 1 _) ed4) _ a1 w1
    have hcI : Conc (wE ρE wr) (edI l ps i).fs a1 w1 := weak_conc (N := 2) (π := []) (by
      refine ⟨rfl, rfl, ?_, ?_⟩ <;> repeat' (first | exact True.intro | exact rfl | exact wv_top _ _ | exact fun _ => rfl | refine And.intro ?_ ?_)) (dw wr) hc1
    obtain ⟨s2, h2, hA2⟩ := asT_det (F := fun e u => e = .normal ∧ u.tmps.getD 12 undef = .func (.yield l) #[] #[] ∧ u.tmps.getD 13 undef = .int .i64 i ∧ u.tmps.getD 23 undef = edA ps i ∧ WS 2 [] u (edI l ps i)) (H := fun _ _ => False) (failG_sound _) MM_ok ed2 (fun s => thenT Try.prog 12 ed3 s (.leaf .normal)) (edI l ps i) (by
      rw [tr_ed2]
      have e1 : (IntKind.i64.wrap ((i : Int) + 1)).tmod (ps.length : Int) = ((i + 1) % ps.length : Nat) := by
        rw [wsucc hlt hlen, Int.tmod_eq_emod_of_nonneg (by omega)]
        omega
      have hmod : (i + 1) % ps.length < ps.length := Nat.mod_lt _ (by omega)
      refine ⟨⟨by omega, by omega⟩, by rw [flat_length]; omega, by omega, by rw [e1]; omega, by rw [e1, flat_length]; omega, rfl, rfl, rfl, rfl, ?_⟩
      refine ⟨rfl, rfl, ?_, ?_⟩ <;> repeat' (first | exact True.intro | exact rfl | exact wv_top _ _ | exact fun _ => rfl | refine And.intro ?_ ?_))
    obtain ⟨s3, ⟨_, t12, t13, t23, hws⟩, rule⟩ := thenT_ok mixed h2
    -- behind the round
    have after : ∀ (b : Bool) (a' : Act) (w' W2 : World), ((∀ g, gsOf s ρ Kn g → W2.heap[g]? = w.heap[g]?) ∧ w.heap.size ≤ W2.heap.size) → Conc (wE ρE wr) (edI l ps i).fs a' w' → Conc (wE ρE W2) (edY l ps i b).fs (a'.put (some 24) (.bool b)) W2 := by
      rintro b a' w' W2 ⟨hk2, hs2⟩ ⟨c1, c2, _, ρ', ct, cm⟩
      obtain rfl := only ρ' (edM ps) rfl cm.ext cm.fresh
      refine ⟨c1, by show (a'.tmps.setIfInBounds 24 (.bool b)).size = (edI l ps i).fs.n; simpa using c2, BelowK.refl _ _, ρ', fun j => ?_, mem W2 hk2 hs2⟩
      have hj := ct j
      by_cases h24 : 24 = j
      · subst h24
        have : 24 < a'.tmps.size := by rw [c2]; exact (by decide : 24 < 27)
        have e1 : (a'.put (some 24) (.bool b)).tmps.getD 24 undef = .bool b := by simp [Act.put, this]
        rw [e1]
        exact .lit rfl
      · have e1 : (a'.put (some 24) (.bool b)).tmps.getD j undef = a'.tmps.getD j undef := by simp [Act.put, Array.getElem?_setIfInBounds_ne h24]
        have e2 : (edY l ps i b).fs.tmp j = (edI l ps i).fs.tmp j := by
          show (edY l ps i b).tmps.getD j undef = (edI l ps i).tmps.getD j undef
          have : (edY l ps i b).tmps = (edI l ps i).tmps.set 24 (.bool b) := rfl
          rw [this]
          simp [h24]
        rw [e1, e2]
        exact hj
    refine wpIn_seq (wpIn_block (wpIn_seq (wpIn_mono (hA2 (wE ρE wr) a1 w1 hcI) ?_)))
    rintro e a2 w2 ⟨rfl, hc2⟩
    refine wpIn_seq (rule (wE ρE wr) a2 w2 _ 3 hc2 fun a' w' hcc => ?_)
    have hJ3 := hab _ _ _ hJ (wE_grown hcc)
    obtain ⟨fn, tmps, asg, bod, hyld, hR⟩ := hY i w' hJ3 hlt
    have hcI' := weak_conc hws (dw wr) hcc
    have v12 : a'.tmps.getD 12 undef = .func (.yield l) #[] #[] := by
      have := hcc.2.2.2
      obtain ⟨ρ', ct, _⟩ := this
      have k := ct 12
      rw [show s3.fs.tmp 12 = .func (.yield l) #[] #[] from t12] at k
      exact k.plain rfl
    have v13 : a'.tmps.getD 13 undef = .int .i64 i := by
      obtain ⟨ρ', ct, _⟩ := hcc.2.2.2
      have k := ct 13
      rw [show s3.fs.tmp 13 = .int .i64 i from t13] at k
      exact k.plain rfl
    have v23 : a'.tmps.getD 23 undef = edA ps i := by
      obtain ⟨ρ', ct, _⟩ := hcc.2.2.2
      have k := ct 23
      rw [show s3.fs.tmp 23 = edA ps i from t23] at k
      exact k.plain rfl
    rw [ed3_len]
    show wpOpsIn _ _ _ _ _ [12, 13] a' w'
    rw [wpOpsIn_cons]
    unfold wpOpIn
    have hwant : Region.wanted o12 (yielded ed3.toArray a'.tmps) = true := by simp [Region.wanted, o12_guard]
    have hex : (execOp a'.eval o12).run Try.prog w' = .ok (.round l fn tmps asg bod) w' := by
      have e12 : a'.eval (.tmp 12) = .func (.yield l) #[] #[] := v12
      have hargs2 : (#[.tmp 13, .tmp 23] : Array Operand).map a'.eval = (encE ps i).toArray := by
        have e13 : a'.eval (.tmp 13) = .int .i64 i := v13
        have e23 : a'.eval (.tmp 23) = edA ps i := v23
        simp [encE, e13, e23, edA_is hlt hlen]
      simp only [execOp, o12_op, resolve, e12, Deferred.ofValue, invoke, Sem.run_bind, Sem.run_pure, Result.andThen_ok, hargs2]
      simpa using hyld
    simp only [o12_at, hwant, if_true]
    refine ⟨fun _ _ => trivial, ?_⟩
    rw [Oper.semAt_eq _ _ _ (fun c hc => by rw [o12_op] at hc; cases hc), hex]
    refine ⟨fun h => (by cases h), RoundIn.mono hR ?_⟩
    have hk3 := keepW hk (wE_grown hcc)
    have rest : ∀ (b : Bool) (W2 : World), ((∀ g, gsOf s ρ Kn g → W2.heap[g]? = w.heap[g]?) ∧ w.heap.size ≤ W2.heap.size) → ∀ Q : Exit → Act → World → Prop, (∀ a4 w4, W2.grownBy w4 none → a4.defers = [] → a4.eval (.tmp 25) = .bool (!b) → Conc (wE ρE W2) (edI l ps i).fs a4 w4 → Q .normal a4 w4) →
        wpOpsIn (fz none) 3 Try.prog ed3.toArray Q [13] (a'.put (some 24) (.bool b)) W2 := by
      intro b W2 hk2 Q hQ
      have hcY := after b a' w' W2 hk2 hcI'
      obtain ⟨s5, h5, r5⟩ := seqT_ok (F := fun e u => e = .normal ∧ u.tmps.getD 25 undef = .bool (!b) ∧ WS 2 [] u (edI l ps i)) (H := fun _ _ => False) (failG_sound _) MM_ok (ops := ed3) (n := 2) (k := .leaf .normal) (ed3.drop 13) 13 (edY l ps i b) (fun j => by rw [List.getElem?_drop]) (by
        rw [tr_ed5]
        refine ⟨rfl, rfl, rfl, rfl, ?_, ?_⟩ <;> repeat' (first | exact True.intro | exact rfl | exact wv_top _ _ | exact fun _ => rfl | refine And.intro ?_ ?_))
      obtain ⟨_, t25, ws5⟩ := h5
      have := r5 (wE ρE W2) _ W2 Q hcY fun a4 w4 hc4 => hQ a4 w4 (wE_grown hc4) hc4.1 (by
        obtain ⟨ρ', ct, _⟩ := hc4.2.2.2
        have k := ct 25
        rw [show s5.fs.tmp 25 = .bool (!b) from t25] at k
        exact k.plain rfl) (weak_conc ws5 (dw W2) hc4)
      have e13 : List.range' 13 (ed3.drop 13).length = [13] := by rw [List.length_drop, ed3_len]; rfl
      rw [e13] at this
      exact this
    rintro e W2 (⟨rfl, hJ2, hK2⟩ | ⟨rfl, hJx⟩)
    · have hk2 : (∀ g, gsOf s ρ Kn g → W2.heap[g]? = w.heap[g]?) ∧ w.heap.size ≤ W2.heap.size := ⟨fun g hg => (hK2.2 g hg).trans (hk3.1 g hg), Nat.le_trans hk3.2 hK2.1⟩
      show wpOpsIn _ _ _ _ _ [13] (a'.put o12.dst (.bool true)) W2
      rw [o12_dst]
      refine rest true W2 hk2 _ fun a4 w4 hg4 hd4 he4 hc4 => ?_
      refine wpIn_cond_false he4 (wpIn_skip ?_)
      show Code.wpIn _ _ _ ed4 _ a4 w4
      refine wpIn_mono (detA_of (failG_sound _) MM_ok (tr_ed4 l ps i) (wE ρE W2) a4 w4 hc4) ?_
      rintro e a5 w5 ⟨rfl, hc5⟩
      have hJ5 := hab _ _ _ hJ2 (wE_grown hc5)
      have hk5 := keepW hk2 (wE_grown hc5)
      have hwi : IntKind.i64.wrap ((i : Int) + 1) = ((i + 1 : Nat) : Int) := wsucc hlt hlen
      refine ⟨hlt, hJ5, hk5, restart _ a5 W2 w5 rfl hk5.1 hk5.2 (weak_conc (N := 2) (π := []) ?_ (dw W2) hc5)⟩
      rw [hwi]
      refine ⟨rfl, rfl, ?_, ?_⟩ <;> repeat' (first | exact True.intro | exact rfl | exact wv_top _ _ | exact fun _ => rfl | refine And.intro ?_ ?_)
    · have hcZ : Conc (wE (fun _ => none) W2) (edZ false).fs (a'.put (some 24) (.bool false)) W2 := by
        have hsz : a'.tmps.size = 27 := hcI'.2.1
        refine ⟨hcI'.1, by show (a'.tmps.setIfInBounds 24 (.bool false)).size = 27; simpa using hsz, BelowK.refl _ _, fun _ => none, fun j => ?_, ⟨Ext.refl _, fun _ _ => rfl, fun n b hn => by simp [edZ, St.fs] at hn, fun n n' b b' p p' hn => by simp [edZ, St.fs] at hn⟩⟩
        by_cases h24 : 24 = j
        · subst h24
          have e1 : (a'.put (some 24) (.bool false)).tmps.getD 24 undef = .bool false := by simp [Act.put, hsz]
          rw [e1]
          exact .lit rfl
        · rcases Nat.lt_or_ge j 27 with hj | hj
          · have e2 : (edZ false).fs.tmp j = topV := by
              exact rep_lt (n := 27) (v := .bool false) h24 hj
            rw [e2]
            exact .top
          · have e2 : (edZ false).fs.tmp j = undef := by
              exact rep_ge (n := 27) (v := .bool false) h24 hj
            have e1 : (a'.put (some 24) (.bool false)).tmps.getD j undef = undef := by
              simp [Act.put, Array.getElem?_setIfInBounds_ne h24, Array.getElem?_eq_none (show a'.tmps.size ≤ j by omega)]
            rw [e1, e2]
            exact .lit rfl
      obtain ⟨s5, ⟨_, t25⟩, r5⟩ := seqT_ok (F := fun e u => e = .normal ∧ u.tmps.getD 25 undef = .bool true) (H := fun _ _ => False) (failG_sound _) MM_ok (ops := ed3) (n := 0) (k := .leaf .normal) (ed3.drop 13) 13 (edZ false) (fun j => by rw [List.getElem?_drop]) (by
        rw [tr_edZ]
        exact ⟨rfl, rfl⟩)
      show wpOpsIn _ _ _ _ _ [13] (a'.put o12.dst (.bool false)) W2
      rw [o12_dst]
      have e13 : List.range' 13 (ed3.drop 13).length = [13] := by rw [List.length_drop, ed3_len]; rfl
      have := fun Q hQ => r5 (wE (fun _ => none) W2) _ W2 Q hcZ hQ
      rw [e13] at this
      refine this _ fun a4 w4 hc4 => ?_
      have he4 : a4.eval (.tmp 25) = .bool true := by
        obtain ⟨ρ', ct, _⟩ := hc4.2.2.2
        have k := ct 25
        rw [show s5.fs.tmp 25 = .bool true from t25] at k
        exact k.plain rfl
      refine wpIn_cond_true he4 (wpIn_ret ?_)
      exact ⟨hJxab _ _ hJx (wE_grown hc4), hc4.1⟩
  -- the whole
  rw [show Try.f42.ntmps = Try.f42.ntmps from rfl] at hstart
  refine callsIn_of_wp (c := codeOf Try.f42) Try.func42 rfl trivial ?_ rfl
  rw [ed_is]
  refine wpIn_n (ro := none) (n := 3) (wpIn_seq (wpIn_mono (detA_of (failG_sound _) MM_ok (tr_ed0 l ps) (wE ρE W) _ W hstart) ?_))
  rintro e a1 w1 ⟨rfl, hc1⟩
  have hk1 := keepW ⟨hGk, hsz⟩ (wE_grown hc1)
  have hJ1 := hab _ _ _ hJ0 (wE_grown hc1)
  have hc1 := restart (edI l ps 0) a1 W w1 rfl hk1.1 hk1.2 (weak_conc (N := 2) (π := []) (by
    refine ⟨rfl, rfl, ?_, ?_⟩ <;> repeat' (first | exact True.intro | exact rfl | exact wv_top _ _ | exact fun _ => rfl | refine And.intro ?_ ?_)) (dw W) hc1)
  refine wpIn_block (wpIn_loop_ghost (fun n a w' => ∃ i, n = ps.length - i ∧ i ≤ ps.length ∧ J i w' ∧ ((∀ g, gsOf s ρ Kn g → w'.heap[g]? = w.heap[g]?) ∧ w.heap.size ≤ w'.heap.size) ∧ Conc (wE ρE w') (edI l ps i).fs a w') ps.length ⟨0, rfl, Nat.zero_le _, hJ1, hk1, hc1⟩ ?_)
  rintro n a wr ⟨i, rfl, hi, hJ, hk, hc⟩
  refine wpIn_mono (body i a wr hi hJ hk hc) ?_
  rintro e a2 w2 h
  cases e with
  | normal =>
    obtain ⟨hlt, h1, h2, h3⟩ := h
    exact ⟨ps.length - (i + 1), by omega, i + 1, rfl, by omega, h1, h2, h3⟩
  | exit id =>
    obtain ⟨rfl, h1, h2⟩ := h
    exact ⟨h2, _, results_none rfl _ _ _, ⟨_, rfl⟩, .inl h1⟩
  | ret => exact ⟨h.2, _, results_none rfl _ _ _, ⟨_, rfl⟩, .inr h.1⟩
  | _ => exact h.elim
end Go.Proofs.Ytbhdhejefpdjfaa
namespace Go.Proofs.Ytbhdhejefpdjfaa
set_option linter.all false
open Go.RowKit
def E1 : Env := mkE (T1) (fun _ _ => none) (fun _ => noL)
theorem E1_ok : EnvOk Try.prog E1 := mkEOk (T1_ok) (fun _ _ _ _ _ h => (by cases h)) (fun _ _ _ _ _ _ _ _ _ _ _ h => (by cases h))
def vB (p : Pt) : Bool := ptB p.1 p.2
def allV (ps : List Pt) : Bool := ps.all vB
noncomputable def c43 : Code := ((loopsOf (codeOf Try.f19))[0]?).getD .skip
noncomputable def c80 : Code := ((loopsOf (codeOf Try.f32))[0]?).getD .skip
set_option maxRecDepth 100000 in
theorem nl43 : loopsOf c43 = [] := by kernel_rfl
set_option maxRecDepth 100000 in
theorem nl80 : loopsOf c80 = [] := by kernel_rfl
def k43 : Ex → List Nat := keeps [0, 3] [(0, [0])] [2]
def k80 : Ex → List Nat := keeps [5, 6, 7] [] [2]
def s43 (ps : List Pt) (i : Nat) : St := ⟨[.slice (some ⟨0, 0, none⟩) ps.length ps.length, topV, topV, .int .i64 i, topV, topV, topV, topV, topV, topV, topV, topV, topV, topV, topV, topV, topV, topV, topV], [some ⟨.view, .ints (flat ps)⟩]⟩
def s80 (ps : List Pt) (i : Nat) : St := ⟨[topV, topV, topV, topV, topV, .slice (some ⟨0, 0, none⟩) ps.length ps.length, .int .i64 ps.length, .int .i64 i, topV, topV, topV, topV, topV, topV, topV], [some ⟨.view, .ints (flat ps)⟩]⟩
set_option maxRecDepth 100000 in
theorem tr43 (ps : List Pt) (i : Nat) : bodyL Try.prog E1 30 12 noL 1 c43 k43 1 (s43 ps i) = brT (decide ((↑i : Int) < (↑ps.length : Int))) (.need ((0 : Int) ≤ (↑i : Int) ∧ (↑i : Int) < (↑ps.length : Int)) (.need ((0 : Nat) + (↑i : Int).toNat * (2 : Nat) + (2 : Nat) ≤ (flat ps).length) (brT (!ptB ((flat ps).getD (0 + (↑i : Int).toNat * 2) 0) ((flat ps).getD (0 + (↑i : Int).toNat * 2 + 1) 0)) (.leaf .ret ⟨[topV, topV, .bool (false), topV, topV, topV, topV, topV, topV, topV, topV, topV, topV, topV, topV, topV, topV, topV, topV], [some ⟨.view, .ints (flat ps)⟩]⟩) (.leaf .normal ⟨[.slice (some ⟨0, 0, none⟩) (ps.length) (ps.length), topV, topV, .int .i64 (IntKind.i64.wrap ((↑i : Int) + 1)), topV, topV, topV, topV, topV, topV, topV, topV, topV, topV, topV, topV, topV, topV, topV], [some ⟨.view, .ints (flat ps)⟩]⟩)))) (.leaf (.exit 0) ⟨[.slice (some ⟨0, 0, none⟩) (ps.length) (ps.length), topV, topV, topV, topV, topV, topV, topV, topV, topV, topV, topV, topV, topV, topV, topV, topV, topV, topV], [some ⟨.view, .ints (flat ps)⟩]⟩) := by kernel_rfl
set_option maxRecDepth 100000 in
theorem tr80 (ps : List Pt) (i : Nat) : bodyL Try.prog E1 30 12 noL 1 c80 k80 1 (s80 ps i) = brT (decide ((↑i : Int) < (↑ps.length : Int))) (.need ((0 : Int) ≤ (↑i : Int) ∧ (↑i : Int) < (↑ps.length : Int)) (.need ((0 : Nat) + (↑i : Int).toNat * (2 : Nat) + (2 : Nat) ≤ (flat ps).length) (brT (!ptB ((flat ps).getD (0 + (↑i : Int).toNat * 2) 0) ((flat ps).getD (0 + (↑i : Int).toNat * 2 + 1) 0)) (.leaf .ret ⟨[topV, topV, .bool (false), topV, topV, topV, topV, topV, topV, topV, topV, topV, topV, topV, topV], [some ⟨.view, .ints (flat ps)⟩]⟩) (.leaf .normal ⟨[topV, topV, topV, topV, topV, .slice (some ⟨0, 0, none⟩) (ps.length) (ps.length), .int .i64 ((↑ps.length : Int)), .int .i64 (IntKind.i64.wrap ((↑i : Int) + 1)), topV, topV, topV, topV, topV, topV, topV], [some ⟨.view, .ints (flat ps)⟩]⟩)))) (.leaf (.exit 0) ⟨[topV, topV, topV, topV, topV, topV, topV, topV, topV, topV, topV, topV, topV, topV, topV], [some ⟨.view, .ints (flat ps)⟩]⟩) := by kernel_rfl
def re43 (ps : List Pt) (i : Nat) : Ex := bif (ps.drop i).all vB then .exit 0 else .ret
def rs43 (ps : List Pt) (i : Nat) : St := bif (ps.drop i).all vB then ⟨[.slice (some ⟨0, 0, none⟩) ps.length ps.length, topV, topV, topV, topV, topV, topV, topV, topV, topV, topV, topV, topV, topV, topV, topV, topV, topV, topV], [some ⟨.view, .ints (flat ps)⟩]⟩ else ⟨[topV, topV, .bool false, topV, topV, topV, topV, topV, topV, topV, topV, topV, topV, topV, topV, topV, topV, topV, topV], [some ⟨.view, .ints (flat ps)⟩]⟩
def re80 (ps : List Pt) (i : Nat) : Ex := bif (ps.drop i).all vB then .exit 0 else .ret
def rs80 (ps : List Pt) (i : Nat) : St := bif (ps.drop i).all vB then ⟨[topV, topV, topV, topV, topV, topV, topV, topV, topV, topV, topV, topV, topV, topV, topV], [some ⟨.view, .ints (flat ps)⟩]⟩ else ⟨[topV, topV, .bool false, topV, topV, topV, topV, topV, topV, topV, topV, topV, topV, topV, topV], [some ⟨.view, .ints (flat ps)⟩]⟩
theorem round43 (ps : List Pt) (hn : ps.length ≤ 1000000000) (i : Nat) (hi : i ≤ ps.length) :
    (bodyL Try.prog E1 30 12 noL 1 c43 k43 1 (s43 ps i)).ok (RoundEnd 1 (s43 ps) (fun i => i ≤ ps.length) (fun i => ps.length - i) (re43 ps) (rs43 ps) i) (fun _ _ => False) := by
  rw [tr43]
  simp only [brT_ok, Tree.ok, decide_eq_true_eq, decide_eq_false_iff_not, Int.toNat_natCast, Nat.zero_add, flat_length, flat_get0, flat_get1, Bool.not_eq_true', Bool.not_eq_false']
  refine ⟨fun hlt => ⟨by omega, by omega, fun hv => ?_, fun hv => ?_⟩, fun hge => ?_⟩
  · have e : (ps.drop i).all vB = false := by rw [all_drop (by omega) (0, 0)]; simp only [vB, hv, Bool.false_and]
    refine ⟨by simp only [re43, e, cond_false], [], ?_⟩
    simp only [rs43, e, cond_false]
    repeat' (first | exact True.intro | exact rfl | refine And.intro ?_ ?_)
  · have e : (ps.drop i).all vB = (ps.drop (i + 1)).all vB := by rw [all_drop (by omega) (0, 0)]; simp only [vB, hv, Bool.true_and]
    rw [wsucc (n := ps.length) (by omega) hn]
    refine ⟨i + 1, [], by omega, by dsimp only; omega, by simp only [re43, e], by simp only [rs43, e], ?_⟩
    repeat' (first | exact True.intro | exact rfl | refine And.intro ?_ ?_)
  · have e : (ps.drop i).all vB = true := all_end (by omega) _
    refine ⟨by simp only [re43, e, cond_true], [], ?_⟩
    simp only [rs43, e, cond_true]
    repeat' (first | exact True.intro | exact rfl | refine And.intro ?_ ?_)
theorem round80 (ps : List Pt) (hn : ps.length ≤ 1000000000) (i : Nat) (hi : i ≤ ps.length) :
    (bodyL Try.prog E1 30 12 noL 1 c80 k80 1 (s80 ps i)).ok (RoundEnd 1 (s80 ps) (fun i => i ≤ ps.length) (fun i => ps.length - i) (re80 ps) (rs80 ps) i) (fun _ _ => False) := by
  rw [tr80]
  simp only [brT_ok, Tree.ok, decide_eq_true_eq, decide_eq_false_iff_not, Int.toNat_natCast, Nat.zero_add, flat_length, flat_get0, flat_get1, Bool.not_eq_true', Bool.not_eq_false']
  refine ⟨fun hlt => ⟨by omega, by omega, fun hv => ?_, fun hv => ?_⟩, fun hge => ?_⟩
  · have e : (ps.drop i).all vB = false := by rw [all_drop (by omega) (0, 0)]; simp only [vB, hv, Bool.false_and]
    refine ⟨by simp only [re80, e, cond_false], [], ?_⟩
    simp only [rs80, e, cond_false]
    repeat' (first | exact True.intro | exact rfl | refine And.intro ?_ ?_)
  · have e : (ps.drop i).all vB = (ps.drop (i + 1)).all vB := by rw [all_drop (by omega) (0, 0)]; simp only [vB, hv, Bool.true_and]
    rw [wsucc (n := ps.length) (by omega) hn]
    refine ⟨i + 1, [], by omega, by dsimp only; omega, by simp only [re80, e], by simp only [rs80, e], ?_⟩
    repeat' (first | exact True.intro | exact rfl | refine And.intro ?_ ?_)
  · have e : (ps.drop i).all vB = true := all_end (by omega) _
    refine ⟨by simp only [re80, e, cond_true], [], ?_⟩
    simp only [rs80, e, cond_true]
    repeat' (first | exact True.intro | exact rfl | refine And.intro ?_ ?_)
def lt43 : LT := fun j s k => match j, s with
  | 0, ⟨[.slice (some ⟨0, 0, none⟩) n _, _, _, .int .i64 i, _, _, _, _, _, _, _, _, _, _, _, _, _, _, _], [some ⟨.view, .ints xs⟩]⟩ =>
    some (needs [i = 0, xs.length = n * 2, n ≤ 1000000000] (brT (allV (ptsA n xs)) (k (.exit 0) ⟨[.slice (some ⟨0, 0, none⟩) n n, topV, topV, topV, topV, topV, topV, topV, topV, topV, topV, topV, topV, topV, topV, topV, topV, topV, topV], [some ⟨.view, .ints xs⟩]⟩) (k .ret ⟨[topV, topV, .bool false, topV, topV, topV, topV, topV, topV, topV, topV, topV, topV, topV, topV, topV, topV, topV, topV], [some ⟨.view, .ints xs⟩]⟩)))
  | _, _ => none
def lt80 : LT := fun j s k => match j, s with
  | 0, ⟨[_, _, _, _, _, .slice (some ⟨0, 0, none⟩) n _, .int .i64 l, .int .i64 i, _, _, _, _, _, _, _], [some ⟨.view, .ints xs⟩]⟩ =>
    some (needs [i = 0, l = n, xs.length = n * 2, n ≤ 1000000000] (brT (allV (ptsA n xs)) (k (.exit 0) ⟨[topV, topV, topV, topV, topV, topV, topV, topV, topV, topV, topV, topV, topV, topV, topV], [some ⟨.view, .ints xs⟩]⟩) (k .ret ⟨[topV, topV, .bool false, topV, topV, topV, topV, topV, topV, topV, topV, topV, topV, topV, topV], [some ⟨.view, .ints xs⟩]⟩)))
  | _, _ => none
set_option maxRecDepth 100000 in
theorem lg43 : LoopsGood Try.prog lt43 0 (codeOf Try.f19) := by
  intro i d hd s k t F H hlt ht
  rw [Nat.zero_add] at hlt
  unfold lt43 at hlt
  split at hlt
  rotate_left
  · cases hlt
  obtain rfl : c43 = d := by unfold c43; rw [hd]; rfl
  obtain rfl := Option.some.inj hlt
  obtain ⟨⟨rfl, h1, h2, _⟩, ht2⟩ := needs_ok ht
  clear ht hlt
  obtain ⟨ps, rfl, rfl⟩ := even_flat h1
  rw [ptsA_flat] at ht2
  refine ⟨_, _, pick2k ht2, loop_run mixed E1_ok (s43 ps) (fun i => i ≤ ps.length) (fun i => ps.length - i) (re43 ps) (rs43 ps) k43 (fun _ => rfl) (noLoops nl43) (round43 ps h2) (x := 0) (Nat.zero_le _) (π := []) rfl ?_⟩
  repeat' (first | exact True.intro | exact rfl | exact wv_top _ _ | refine And.intro ?_ ?_)
set_option maxRecDepth 100000 in
theorem lg80 : LoopsGood Try.prog lt80 0 (codeOf Try.f32) := by
  intro i d hd s k t F H hlt ht
  rw [Nat.zero_add] at hlt
  unfold lt80 at hlt
  split at hlt
  rotate_left
  · cases hlt
  obtain rfl : c80 = d := by unfold c80; rw [hd]; rfl
  obtain rfl := Option.some.inj hlt
  obtain ⟨⟨rfl, rfl, h1, h2, _⟩, ht2⟩ := needs_ok ht
  clear ht hlt
  obtain ⟨ps, rfl, rfl⟩ := even_flat h1
  rw [ptsA_flat] at ht2
  refine ⟨_, _, pick2k ht2, loop_run mixed E1_ok (s80 ps) (fun i => i ≤ ps.length) (fun i => ps.length - i) (re80 ps) (rs80 ps) k80 (fun _ => rfl) (noLoops nl80) (round80 ps h2) (x := 0) (Nat.zero_le _) (π := []) rfl ?_⟩
  repeat' (first | exact True.intro | exact rfl | exact wv_top _ _ | refine And.intro ?_ ?_)
end Go.Proofs.Ytbhdhejefpdjfaa
namespace Go.Proofs.Ytbhdhejefpdjfaa
set_option linter.all false
open Go.RowKit
def L2 : FuncId → LT := fun f => match f with
  | 19 => lt43
  | 32 => lt80
  | _ => noL
def E2 : Env := mkE (T1) (fun _ _ => none) (L2)
theorem E2_ok : EnvOk Try.prog E2 := by
  refine mkEOk T1_ok (fun _ _ _ _ _ h => (by cases h)) fun f fn hf => ?_
  show LoopsGood Try.prog (L2 f) 0 (codeOf fn)
  unfold L2
  split
  · obtain rfl : Try.f19 = fn := by rw [Try.func19] at hf; simpa using hf
    exact lg43
  · obtain rfl : Try.f32 = fn := by rw [Try.func32] at hf; simpa using hf
    exact lg80
  · exact noL_good
set_option maxRecDepth 100000 in
theorem tr_f43 (ps : List Pt) : bodyX Try.prog E2 30 12 19 [.row ps.length (.ints (flat ps))] = .need ((0 : Int) = (0 : Int)) (.need ((flat ps).length = ps.length * (2 : Nat)) (.need (ps.length ≤ (1000000000 : Nat)) (brT (allV (ptsA ps.length (flat ps))) (.fin (.bool (decide ((↑ps.length : Int) ≤ 20))) [some ⟨.view, .ints (flat ps)⟩]) (.fin (.bool (false)) [some ⟨.view, .ints (flat ps)⟩])))) := by kernel_rfl
set_option maxRecDepth 100000 in
theorem tr_f80 (ps : List Pt) : bodyX Try.prog E2 30 12 32 [.row ps.length (.ints (flat ps))] = .need ((0 : Int) = (0 : Int)) (.need ((↑ps.length : Int) = (↑ps.length : Int)) (.need ((flat ps).length = ps.length * (2 : Nat)) (.need (ps.length ≤ (1000000000 : Nat)) (brT (allV (ptsA ps.length (flat ps))) (.fin (.bool (true)) [some ⟨.view, .ints (flat ps)⟩]) (.fin (.bool (false)) [some ⟨.view, .ints (flat ps)⟩]))))) := by kernel_rfl
def Big (ps : List Pt) : Prop := ps.length ≤ 1000000000
def okL (ps : List Pt) : Bool := allV ps && decide (ps.length ≤ 20)
theorem res_f43 (ps : List Pt) (h : Big ps) : Res Try.prog 19 [.row ps.length (.ints (flat ps))] (.bool (okL ps)) := by
  refine bodyX_res mixed E2_ok (m := 30) (n := 12) rfl ?_
  rw [tr_f43, ptsA_flat]
  unfold Big at h
  unfold okL
  cases hv : allV ps <;> simp [Tree.ok, brT, flat_length, h]
  omega
theorem res_f80 (ps : List Pt) (h : Big ps) : Res Try.prog 32 [.row ps.length (.ints (flat ps))] (.bool (allV ps)) := by
  refine bodyX_res mixed E2_ok (m := 30) (n := 12) rfl ?_
  rw [tr_f80, ptsA_flat]
  unfold Big at h
  cases hv : allV ps <;> simp [Tree.ok, brT, flat_length, h]
/-- An entry for a function of one list of points. -/
def pL (g : List Pt → Value) : List DArg → Option (Value × List Prop)
  | [.row n (.ints xs)] => some (g (ptsA n xs), [n * 2 ≤ xs.length, n ≤ 1000000000])
  | _ => none
theorem pL_ok {f : FuncId} {g : List Pt → Value} (h : ∀ ps, Big ps → Res Try.prog f [.row ps.length (.ints (flat ps))] (g ps)) {ds : List DArg} {v : Value} {C : List Prop} (hd : pL g ds = some (v, C)) (hC : AllP C) : Res Try.prog f ds v := by
  unfold pL at hd
  split at hd
  · rename_i n xs
    obtain ⟨rfl, rfl⟩ : _ ∧ _ := by simpa using hd
    obtain ⟨h1, h2⟩ := ptsA_spec hC.1
    have h0 := h (ptsA n xs) (by unfold Big; rw [h2]; exact hC.2.1)
    exact res_pts1 (pre := []) (post := []) hC.1 h0
  · cases hd
def T2 : Tab := fun f ds => match f with
  | 19 => pL (fun ps => .bool (okL ps)) ds
  | 32 => (match pL (fun ps => .bool (allV ps)) ds with
    | some r => some r
    | none => T1 f ds)
  | f => T1 f ds
theorem T2_ok : TabOk Try.prog T2 := by
  intro f ds v C h hC
  unfold T2 at h
  split at h
  · exact pL_ok res_f43 h hC
  · split at h
    · rename_i hr
      rw [h] at hr
      exact pL_ok res_f80 hr hC
    · exact T1_ok _ _ _ _ h hC
  · exact T1_ok _ _ _ _ h hC
end Go.Proofs.Ytbhdhejefpdjfaa
namespace Go.Proofs.Ytbhdhejefpdjfaa
set_option linter.all false
open Go.RowKit
def E3 : Env := mkE (T2) (fun _ _ => none) (fun _ => noL)
theorem E3_ok : EnvOk Try.prog E3 := mkEOk (T2_ok) (fun _ _ _ _ _ h => (by cases h)) (fun _ _ _ => noL_good)
theorem allV_get {ps : List Pt} (h : allV ps = true) (i : Nat) : -1000 ≤ (ps.getD i (0, 0)).1 ∧ (ps.getD i (0, 0)).1 ≤ 1000 ∧ -1000 ≤ (ps.getD i (0, 0)).2 ∧ (ps.getD i (0, 0)).2 ≤ 1000 := by
  rcases Nat.lt_or_ge i ps.length with hlt | hge
  · have := List.all_eq_true.1 h (ps.getD i (0, 0)) (by simp [hlt])
    simpa [vB, ptB] using this
  · simp [hge]
theorem brT_t (x y : Tree) : brT true x y = x := rfl
theorem brT_f (x y : Tree) : brT false x y = y := rfl
def sq (p q : Pt) : Int := (p.1 - q.1) * (p.1 - q.1) + (p.2 - q.2) * (p.2 - q.2)
def cnt (n : Int) (q : Pt) (ps : List Pt) : Int := (ps.countP fun p => decide (sq p q ≤ n) : Nat)
theorem cnt_yes {ps : List Pt} {i : Nat} (h : i < ps.length) (n : Int) (q : Pt) (hh : sq (ps.getD i (0, 0)) q ≤ n) : cnt n q (ps.drop i) = cnt n q (ps.drop (i + 1)) + 1 := by
  unfold cnt
  rw [drop_cons h (0, 0), List.countP_cons]
  simp only [hh, decide_true, if_true]
  omega
theorem cnt_no {ps : List Pt} {i : Nat} (h : i < ps.length) (n : Int) (q : Pt) (hh : ¬ sq (ps.getD i (0, 0)) q ≤ n) : cnt n q (ps.drop i) = cnt n q (ps.drop (i + 1)) := by
  unfold cnt
  rw [drop_cons h (0, 0), List.countP_cons]
  simp only [hh, decide_false, if_false, Bool.false_eq_true]
  omega
theorem cnt_end {ps : List Pt} {i : Nat} (h : ps.length ≤ i) (n : Int) (q : Pt) : cnt n q (ps.drop i) = 0 := by
  unfold cnt
  rw [List.drop_of_length_le h]
  rfl
noncomputable def c_specCW : Code := ((loopsOf (codeOf Try.f7))[0]?).getD .skip
def k_specCW : Ex → List Nat := keeps [0, 2, 4, 7, 8] [(0, [7])] [6]
def s_specCW (ps : List Pt) (x y n : Int) : Nat × Int → St := fun (i, o) => ⟨(.slice (some ⟨0, 0, none⟩) ps.length ps.length :: topV :: .int .i64 n :: topV :: .pointer (some ⟨3, 0, none⟩) :: topV :: topV :: .int .i64 o :: .int .i64 i :: topV :: topV :: topV :: topV :: topV :: topV :: topV :: topV :: topV :: topV :: topV :: topV :: topV :: topV :: topV :: topV :: topV :: topV :: topV :: topV :: topV :: topV :: topV :: topV :: topV :: []), [some ⟨.view, .ints (flat ps)⟩, none, none, some ⟨.box, .vals [.int .i64 x, .int .i64 y]⟩]⟩
def re_specCW : Nat × Int → Ex := fun _ => .exit 0
def rs_specCW (ps : List Pt) (x y n : Int) : Nat × Int → St := fun (i, o) => ⟨(topV :: topV :: topV :: topV :: topV :: topV :: topV :: .int .i64 (o + cnt n (x, y) (ps.drop i)) :: topV :: topV :: topV :: topV :: topV :: topV :: topV :: topV :: topV :: topV :: topV :: topV :: topV :: topV :: topV :: topV :: topV :: topV :: topV :: topV :: topV :: topV :: topV :: topV :: topV :: topV :: []), [some ⟨.view, .ints (flat ps)⟩, none, none, some ⟨.box, .vals [.int .i64 x, .int .i64 y]⟩]⟩
set_option maxRecDepth 100000 in
theorem tr_specCW (ps : List Pt) (x y n : Int) (i : Nat) (o : Int) : bodyL Try.prog E3 30 12 noL 1 c_specCW k_specCW 4 (s_specCW ps x y n (i, o)) = brT (decide ((↑i : Int) < (↑ps.length : Int))) (.need ((0 : Int) ≤ (↑i : Int) ∧ (↑i : Int) < (↑ps.length : Int)) (.need ((0 : Nat) + (↑i : Int).toNat * (2 : Nat) + (2 : Nat) ≤ (flat ps).length) (brT (decide (IntKind.i64.wrap (IntKind.i64.wrap (IntKind.i64.wrap ((flat ps).getD (0 + (↑i : Int).toNat * 2) 0 - x) * IntKind.i64.wrap ((flat ps).getD (0 + (↑i : Int).toNat * 2) 0 - x)) + IntKind.i64.wrap (IntKind.i64.wrap ((flat ps).getD (0 + (↑i : Int).toNat * 2 + 1) 0 - y) * IntKind.i64.wrap ((flat ps).getD (0 + (↑i : Int).toNat * 2 + 1) 0 - y))) ≤ n)) (.leaf .normal ⟨(.slice (some ⟨0, 0, none⟩) (ps.length) (ps.length) :: topV :: .int .i64 (n) :: topV :: .pointer (some ⟨3, 0, none⟩) :: topV :: topV :: .int .i64 (IntKind.i64.wrap (o + 1)) :: .int .i64 (IntKind.i64.wrap ((↑i : Int) + 1)) :: topV :: topV :: topV :: topV :: topV :: topV :: topV :: topV :: topV :: topV :: topV :: topV :: topV :: topV :: topV :: topV :: topV :: topV :: topV :: topV :: topV :: topV :: topV :: topV :: topV :: []), [some ⟨.view, .ints (flat ps)⟩, none, none, some ⟨.box, .vals [.int .i64 (x), .int .i64 (y)]⟩]⟩) (.leaf .normal ⟨(.slice (some ⟨0, 0, none⟩) (ps.length) (ps.length) :: topV :: .int .i64 (n) :: topV :: .pointer (some ⟨3, 0, none⟩) :: topV :: topV :: .int .i64 (o) :: .int .i64 (IntKind.i64.wrap ((↑i : Int) + 1)) :: topV :: topV :: topV :: topV :: topV :: topV :: topV :: topV :: topV :: topV :: topV :: topV :: topV :: topV :: topV :: topV :: topV :: topV :: topV :: topV :: topV :: topV :: topV :: topV :: topV :: []), [some ⟨.view, .ints (flat ps)⟩, none, none, some ⟨.box, .vals [.int .i64 (x), .int .i64 (y)]⟩]⟩)))) (.leaf (.exit 0) ⟨(topV :: topV :: topV :: topV :: topV :: topV :: topV :: .int .i64 (o) :: topV :: topV :: topV :: topV :: topV :: topV :: topV :: topV :: topV :: topV :: topV :: topV :: topV :: topV :: topV :: topV :: topV :: topV :: topV :: topV :: topV :: topV :: topV :: topV :: topV :: topV :: []), [some ⟨.view, .ints (flat ps)⟩, none, none, some ⟨.box, .vals [.int .i64 (x), .int .i64 (y)]⟩]⟩) := by kernel_rfl
set_option maxRecDepth 100000 in
theorem nl_specCW : loopsOf c_specCW = [] := by kernel_rfl
def inv_specCW (ps : List Pt) (x y n : Int) : Nat × Int → Prop := fun (i, o) => i ≤ ps.length ∧ 0 ≤ o ∧ o ≤ i
def me_specCW (ps : List Pt) (x y n : Int) : Nat × Int → Nat := fun (i, o) => ps.length - i
/-- A round of this loop. -/
def Round_specCW (ps : List Pt) (x y n : Int) : Prop := ∀ xx : Nat × Int, inv_specCW ps x y n xx → (bodyL Try.prog E3 30 12 noL 1 c_specCW k_specCW 4 (s_specCW ps x y n xx)).ok (RoundEnd 4 (s_specCW ps x y n) (inv_specCW ps x y n) (me_specCW ps x y n) re_specCW (rs_specCW ps x y n) xx) (fun _ _ => False)
def e_specCW (s : St) (k : Ex → St → Tree) : Option Tree := match Nat.beq s.tmps.length 34, pickL s.tmps [0, 2, 4, 7, 8], s.mem with
  | true, [.slice (some ⟨0, 0, none⟩) m _, .int .i64 n, .pointer (some ⟨3, 0, none⟩), .int .i64 o, .int .i64 i], [some ⟨.view, .ints xs⟩, none, none, some ⟨.box, .vals [.int .i64 x, .int .i64 y]⟩] => some (needs [i = 0, o = 0, xs.length = m * 2, m ≤ 20, allV (ptsA m xs) = true, ptB x y = true] (k (.exit 0) ⟨(topV :: topV :: topV :: topV :: topV :: topV :: topV :: .int .i64 (0 + cnt n (x, y) (ptsA m xs)) :: topV :: topV :: topV :: topV :: topV :: topV :: topV :: topV :: topV :: topV :: topV :: topV :: topV :: topV :: topV :: topV :: topV :: topV :: topV :: topV :: topV :: topV :: topV :: topV :: topV :: topV :: []), [some ⟨.view, .ints xs⟩, none, none, some ⟨.box, .vals [.int .i64 x, .int .i64 y]⟩]⟩))
  | _, _, _ => none
set_option maxRecDepth 100000 in
theorem round_specCW (ps : List Pt) (x y n : Int) (h : ps.length ≤ 20) (hv : allV ps = true) (hq : ptB x y = true) : Round_specCW ps x y n := by
  rintro ⟨i, o⟩ ⟨h1, h2, h3⟩
  rw [tr_specCW]
  have b := allV_get hv i
  have hq : -1000 ≤ x ∧ x ≤ 1000 ∧ -1000 ≤ y ∧ y ≤ 1000 := by simpa [ptB] using hq
  have m1 := mul_bd (x := (ps.getD i (0, 0)).1 - x) (y := (ps.getD i (0, 0)).1 - x) 2000 2000 (by omega) (by omega)
  have m2 := mul_bd (x := (ps.getD i (0, 0)).2 - y) (y := (ps.getD i (0, 0)).2 - y) 2000 2000 (by omega) (by omega)
  simp only [brT_ok, Tree.ok, decide_eq_true_eq, decide_eq_false_iff_not, Int.toNat_natCast, Nat.zero_add, flat_length, flat_get0, flat_get1]
  refine ⟨fun hlt => ⟨by omega, by omega, ?_⟩, fun hge => ?_⟩
  · rw [wsucc (n := ps.length) (by omega) (by omega)]
    simp (disch := omega) only [wr]
    refine ⟨fun hle => ?_, fun hle => ?_⟩
    · have hc := cnt_yes (ps := ps) (i := i) (by omega) n (x, y) hle
      refine ⟨(i + 1, o + 1), [], ⟨by omega, by omega, by omega⟩, ?_, rfl, by simp only [rs_specCW, hc]; rw [show o + 1 + cnt n (x, y) (ps.drop (i + 1)) = o + (cnt n (x, y) (ps.drop (i + 1)) + 1) by omega], ?_⟩
      · show ps.length - (i + 1) < ps.length - i; omega
      · repeat' (first | exact True.intro | exact rfl | exact fun _ => rfl | refine And.intro ?_ ?_)
    · have hc := cnt_no (ps := ps) (i := i) (by omega) n (x, y) hle
      refine ⟨(i + 1, o), [], ⟨by omega, by omega, by omega⟩, ?_, rfl, by simp only [rs_specCW, hc], ?_⟩
      · show ps.length - (i + 1) < ps.length - i; omega
      · repeat' (first | exact True.intro | exact rfl | exact fun _ => rfl | refine And.intro ?_ ?_)
  · refine ⟨rfl, [], ?_⟩
    simp only [rs_specCW, cnt_end (ps := ps) (i := i) (by omega) n (x, y), Int.add_zero]
    repeat' (first | exact True.intro | exact rfl | exact fun _ => rfl | refine And.intro ?_ ?_)
set_option maxRecDepth 100000 in
theorem lg_specCW : LoopE Try.prog e_specCW c_specCW := by
  intro s k t F H hlt ht
  unfold e_specCW at hlt
  split at hlt
  rotate_left
  · cases hlt
  rename_i hlen hpick hmem
  obtain ⟨tmps, mem⟩ := s
  simp only at hlen hpick hmem
  subst hmem
  obtain rfl := Option.some.inj hlt
  obtain ⟨⟨rfl, rfl, h1, h3, h4, h5, _⟩, ht2⟩ := needs_ok ht
  clear ht hlt
  obtain ⟨ps, rfl, rfl⟩ := even_flat h1
  rw [ptsA_flat] at ht2 h4
  refine ⟨_, _, ht2, loop_run mixed E3_ok (s_specCW ps _ _ _) (inv_specCW ps _ _ _) (me_specCW ps _ _ _) re_specCW (rs_specCW ps _ _ _) k_specCW (fun _ => rfl) (noLoops nl_specCW) (round_specCW ps _ _ _ h3 h4 h5) (x := (0, 0)) ⟨Nat.zero_le _, Int.le_refl _, Int.le_refl _⟩ (π := []) rfl ?_⟩
  refine ⟨rfl, rfl, ?_, wvs_spread' [0, 2, 4, 7, 8] hlen rfl ?_⟩
  · repeat' (first | exact True.intro | exact rfl | exact wv_top _ _ | exact fun _ => rfl | assumption | exact Eq.symm (by assumption) | exact vI0 rfl | refine And.intro ?_ ?_)
  · rw [hpick]
    repeat' (first | exact True.intro | exact rfl | exact wv_top _ _ | exact fun _ => rfl | assumption | exact Eq.symm (by assumption) | exact vI0 rfl | refine And.intro ?_ ?_)
noncomputable def c_implCW : Code := ((loopsOf (codeOf Try.f6))[0]?).getD .skip
def k_implCW : Ex → List Nat := keeps [2, 4, 7, 18, 19, 20] [(0, [7])] [6]
def s_implCW (ps : List Pt) (x y n : Int) : Nat × Int → St := fun (i, o) => ⟨(topV :: topV :: .int .i64 n :: topV :: .pointer (some ⟨3, 0, none⟩) :: topV :: topV :: .int .i64 o :: topV :: topV :: topV :: topV :: topV :: topV :: topV :: topV :: topV :: topV :: .slice (some ⟨0, 0, none⟩) ps.length ps.length :: .int .i64 ps.length :: .int .i64 i :: topV :: topV :: topV :: topV :: topV :: topV :: topV :: topV :: topV :: topV :: topV :: topV :: []), [some ⟨.view, .ints (flat ps)⟩, none, none, some ⟨.box, .vals [.int .i64 x, .int .i64 y]⟩]⟩
def re_implCW : Nat × Int → Ex := fun _ => .exit 0
def rs_implCW (ps : List Pt) (x y n : Int) : Nat × Int → St := fun (i, o) => ⟨(topV :: topV :: topV :: topV :: topV :: topV :: topV :: .int .i64 (o + cnt n (x, y) (ps.drop i)) :: topV :: topV :: topV :: topV :: topV :: topV :: topV :: topV :: topV :: topV :: topV :: topV :: topV :: topV :: topV :: topV :: topV :: topV :: topV :: topV :: topV :: topV :: topV :: topV :: topV :: []), [some ⟨.view, .ints (flat ps)⟩, none, none, some ⟨.box, .vals [.int .i64 x, .int .i64 y]⟩]⟩
set_option maxRecDepth 100000 in
theorem tr_implCW (ps : List Pt) (x y n : Int) (i : Nat) (o : Int) : bodyL Try.prog E3 30 12 noL 1 c_implCW k_implCW 4 (s_implCW ps x y n (i, o)) = brT (decide ((↑i : Int) < (↑ps.length : Int))) (.need ((0 : Int) ≤ (↑i : Int) ∧ (↑i : Int) < (↑ps.length : Int)) (.need ((0 : Nat) + (↑i : Int).toNat * (2 : Nat) + (2 : Nat) ≤ (flat ps).length) (brT (!(ptB ((flat ps).getD (0 + (↑i : Int).toNat * 2) 0) ((flat ps).getD (0 + (↑i : Int).toNat * 2 + 1) 0) && ptB x y)) (brT (decide (-1 ≤ n)) (.leaf .normal ⟨(topV :: topV :: .int .i64 (n) :: topV :: .pointer (some ⟨3, 0, none⟩) :: topV :: topV :: .int .i64 (IntKind.i64.wrap (o + 1)) :: topV :: topV :: topV :: topV :: topV :: topV :: topV :: topV :: topV :: topV :: .slice (some ⟨0, 0, none⟩) (ps.length) (ps.length) :: .int .i64 ((↑ps.length : Int)) :: .int .i64 (IntKind.i64.wrap ((↑i : Int) + 1)) :: topV :: topV :: topV :: topV :: topV :: topV :: topV :: topV :: topV :: topV :: topV :: topV :: []), [some ⟨.view, .ints (flat ps)⟩, none, none, some ⟨.box, .vals [.int .i64 (x), .int .i64 (y)]⟩]⟩) (.leaf .normal ⟨(topV :: topV :: .int .i64 (n) :: topV :: .pointer (some ⟨3, 0, none⟩) :: topV :: topV :: .int .i64 (o) :: topV :: topV :: topV :: topV :: topV :: topV :: topV :: topV :: topV :: topV :: .slice (some ⟨0, 0, none⟩) (ps.length) (ps.length) :: .int .i64 ((↑ps.length : Int)) :: .int .i64 (IntKind.i64.wrap ((↑i : Int) + 1)) :: topV :: topV :: topV :: topV :: topV :: topV :: topV :: topV :: topV :: topV :: topV :: topV :: []), [some ⟨.view, .ints (flat ps)⟩, none, none, some ⟨.box, .vals [.int .i64 (x), .int .i64 (y)]⟩]⟩)) (brT (decide (IntKind.i64.wrap (IntKind.i64.wrap (IntKind.i64.wrap ((flat ps).getD (0 + (↑i : Int).toNat * 2) 0 - x) * IntKind.i64.wrap ((flat ps).getD (0 + (↑i : Int).toNat * 2) 0 - x)) + IntKind.i64.wrap (IntKind.i64.wrap ((flat ps).getD (0 + (↑i : Int).toNat * 2 + 1) 0 - y) * IntKind.i64.wrap ((flat ps).getD (0 + (↑i : Int).toNat * 2 + 1) 0 - y))) ≤ n)) (.leaf .normal ⟨(topV :: topV :: .int .i64 (n) :: topV :: .pointer (some ⟨3, 0, none⟩) :: topV :: topV :: .int .i64 (IntKind.i64.wrap (o + 1)) :: topV :: topV :: topV :: topV :: topV :: topV :: topV :: topV :: topV :: topV :: .slice (some ⟨0, 0, none⟩) (ps.length) (ps.length) :: .int .i64 ((↑ps.length : Int)) :: .int .i64 (IntKind.i64.wrap ((↑i : Int) + 1)) :: topV :: topV :: topV :: topV :: topV :: topV :: topV :: topV :: topV :: topV :: topV :: topV :: []), [some ⟨.view, .ints (flat ps)⟩, none, none, some ⟨.box, .vals [.int .i64 (x), .int .i64 (y)]⟩]⟩) (.leaf .normal ⟨(topV :: topV :: .int .i64 (n) :: topV :: .pointer (some ⟨3, 0, none⟩) :: topV :: topV :: .int .i64 (o) :: topV :: topV :: topV :: topV :: topV :: topV :: topV :: topV :: topV :: topV :: .slice (some ⟨0, 0, none⟩) (ps.length) (ps.length) :: .int .i64 ((↑ps.length : Int)) :: .int .i64 (IntKind.i64.wrap ((↑i : Int) + 1)) :: topV :: topV :: topV :: topV :: topV :: topV :: topV :: topV :: topV :: topV :: topV :: topV :: []), [some ⟨.view, .ints (flat ps)⟩, none, none, some ⟨.box, .vals [.int .i64 (x), .int .i64 (y)]⟩]⟩))))) (.leaf (.exit 0) ⟨(topV :: topV :: topV :: topV :: topV :: topV :: topV :: .int .i64 (o) :: topV :: topV :: topV :: topV :: topV :: topV :: topV :: topV :: topV :: topV :: topV :: topV :: topV :: topV :: topV :: topV :: topV :: topV :: topV :: topV :: topV :: topV :: topV :: topV :: topV :: []), [some ⟨.view, .ints (flat ps)⟩, none, none, some ⟨.box, .vals [.int .i64 (x), .int .i64 (y)]⟩]⟩) := by kernel_rfl
set_option maxRecDepth 100000 in
theorem nl_implCW : loopsOf c_implCW = [] := by kernel_rfl
def inv_implCW (ps : List Pt) (x y n : Int) : Nat × Int → Prop := fun (i, o) => i ≤ ps.length ∧ 0 ≤ o ∧ o ≤ i
def me_implCW (ps : List Pt) (x y n : Int) : Nat × Int → Nat := fun (i, o) => ps.length - i
/-- A round of this loop. -/
def Round_implCW (ps : List Pt) (x y n : Int) : Prop := ∀ xx : Nat × Int, inv_implCW ps x y n xx → (bodyL Try.prog E3 30 12 noL 1 c_implCW k_implCW 4 (s_implCW ps x y n xx)).ok (RoundEnd 4 (s_implCW ps x y n) (inv_implCW ps x y n) (me_implCW ps x y n) re_implCW (rs_implCW ps x y n) xx) (fun _ _ => False)
def e_implCW (s : St) (k : Ex → St → Tree) : Option Tree := match Nat.beq s.tmps.length 33, pickL s.tmps [2, 4, 7, 18, 19, 20], s.mem with
  | true, [.int .i64 n, .pointer (some ⟨3, 0, none⟩), .int .i64 o, .slice (some ⟨0, 0, none⟩) m _, .int .i64 l, .int .i64 i], [some ⟨.view, .ints xs⟩, none, none, some ⟨.box, .vals [.int .i64 x, .int .i64 y]⟩] => some (needs [i = 0, o = 0, l = m, xs.length = m * 2, m ≤ 20, allV (ptsA m xs) = true, ptB x y = true] (k (.exit 0) ⟨(topV :: topV :: topV :: topV :: topV :: topV :: topV :: .int .i64 (0 + cnt n (x, y) (ptsA m xs)) :: topV :: topV :: topV :: topV :: topV :: topV :: topV :: topV :: topV :: topV :: topV :: topV :: topV :: topV :: topV :: topV :: topV :: topV :: topV :: topV :: topV :: topV :: topV :: topV :: topV :: []), [some ⟨.view, .ints xs⟩, none, none, some ⟨.box, .vals [.int .i64 x, .int .i64 y]⟩]⟩))
  | _, _, _ => none
set_option maxRecDepth 100000 in
theorem round_implCW (ps : List Pt) (x y n : Int) (h : ps.length ≤ 20) (hv : allV ps = true) (hq : ptB x y = true) : Round_implCW ps x y n := by
  rintro ⟨i, o⟩ ⟨h1, h2, h3⟩
  rw [tr_implCW]
  have b := allV_get hv i
  have hpt : ptB (ps.getD i (0, 0)).1 (ps.getD i (0, 0)).2 = true := by simpa [ptB] using b
  have hq2 : -1000 ≤ x ∧ x ≤ 1000 ∧ -1000 ≤ y ∧ y ≤ 1000 := by simpa [ptB] using hq
  have m1 := mul_bd (x := (ps.getD i (0, 0)).1 - x) (y := (ps.getD i (0, 0)).1 - x) 2000 2000 (by omega) (by omega)
  have m2 := mul_bd (x := (ps.getD i (0, 0)).2 - y) (y := (ps.getD i (0, 0)).2 - y) 2000 2000 (by omega) (by omega)
  simp only [Int.toNat_natCast, Nat.zero_add, flat_length, flat_get0, flat_get1, hpt, hq, Bool.and_self, Bool.not_true, brT_f]
  simp only [brT_ok, Tree.ok, decide_eq_true_eq, decide_eq_false_iff_not]
  refine ⟨fun hlt => ⟨by omega, by omega, ?_⟩, fun hge => ?_⟩
  · rw [wsucc (n := ps.length) (by omega) (by omega)]
    simp (disch := omega) only [wr]
    refine ⟨fun hle => ?_, fun hle => ?_⟩
    · have hc := cnt_yes (ps := ps) (i := i) (by omega) n (x, y) hle
      refine ⟨(i + 1, o + 1), [], ⟨by omega, by omega, by omega⟩, ?_, rfl, by simp only [rs_implCW, hc]; rw [show o + 1 + cnt n (x, y) (ps.drop (i + 1)) = o + (cnt n (x, y) (ps.drop (i + 1)) + 1) by omega], ?_⟩
      · show ps.length - (i + 1) < ps.length - i; omega
      · repeat' (first | exact True.intro | exact rfl | exact fun _ => rfl | refine And.intro ?_ ?_)
    · have hc := cnt_no (ps := ps) (i := i) (by omega) n (x, y) hle
      refine ⟨(i + 1, o), [], ⟨by omega, by omega, by omega⟩, ?_, rfl, by simp only [rs_implCW, hc], ?_⟩
      · show ps.length - (i + 1) < ps.length - i; omega
      · repeat' (first | exact True.intro | exact rfl | exact fun _ => rfl | refine And.intro ?_ ?_)
  · refine ⟨rfl, [], ?_⟩
    simp only [rs_implCW, cnt_end (ps := ps) (i := i) (by omega) n (x, y), Int.add_zero]
    repeat' (first | exact True.intro | exact rfl | exact fun _ => rfl | refine And.intro ?_ ?_)
set_option maxRecDepth 100000 in
theorem lg_implCW : LoopE Try.prog e_implCW c_implCW := by
  intro s k t F H hlt ht
  unfold e_implCW at hlt
  split at hlt
  rotate_left
  · cases hlt
  rename_i hlen hpick hmem
  obtain ⟨tmps, mem⟩ := s
  simp only at hlen hpick hmem
  subst hmem
  obtain rfl := Option.some.inj hlt
  obtain ⟨⟨rfl, rfl, rfl, h1, h3, h4, h5, _⟩, ht2⟩ := needs_ok ht
  clear ht hlt
  obtain ⟨ps, rfl, rfl⟩ := even_flat h1
  rw [ptsA_flat] at ht2 h4
  refine ⟨_, _, ht2, loop_run mixed E3_ok (s_implCW ps _ _ _) (inv_implCW ps _ _ _) (me_implCW ps _ _ _) re_implCW (rs_implCW ps _ _ _) k_implCW (fun _ => rfl) (noLoops nl_implCW) (round_implCW ps _ _ _ h3 h4 h5) (x := (0, 0)) ⟨Nat.zero_le _, Int.le_refl _, Int.le_refl _⟩ (π := []) rfl ?_⟩
  refine ⟨rfl, rfl, ?_, wvs_spread' [2, 4, 7, 18, 19, 20] hlen rfl ?_⟩
  · repeat' (first | exact True.intro | exact rfl | exact wv_top _ _ | exact fun _ => rfl | assumption | exact Eq.symm (by assumption) | exact vI0 rfl | refine And.intro ?_ ?_)
  · rw [hpick]
    repeat' (first | exact True.intro | exact rfl | exact wv_top _ _ | exact fun _ => rfl | assumption | exact Eq.symm (by assumption) | exact vI0 rfl | refine And.intro ?_ ?_)
end Go.Proofs.Ytbhdhejefpdjfaa
namespace Go.Proofs.Ytbhdhejefpdjfaa
set_option linter.all false
open Go.RowKit
def L4 : FuncId → LT := fun f => match f with
  | 7 => lt1 e_specCW
  | 6 => lt1 e_implCW
  | _ => noL
def E4 : Env := mkE (T2) (fun _ _ => none) (L4)
theorem code_of {f : FuncId} {fn g : Func} (h : Try.prog.funcs[f]? = some g) (hf : Try.prog.funcs[f]? = some fn) : g = fn := by rw [h] at hf; simpa using hf
theorem Lr_specCW {fn : Func} (hf : Try.prog.funcs[7]? = some fn) : LoopsGood Try.prog (lt1 e_specCW) 0 (codeOf fn) := by
  obtain rfl := code_of Try.func7 hf
  exact lt1_good lg_specCW
theorem Lr_implCW {fn : Func} (hf : Try.prog.funcs[6]? = some fn) : LoopsGood Try.prog (lt1 e_implCW) 0 (codeOf fn) := by
  obtain rfl := code_of Try.func6 hf
  exact lt1_good lg_implCW
theorem L4_ok : ∀ f fn, Try.prog.funcs[f]? = some fn → LoopsGood Try.prog (L4 f) 0 (codeOf fn) := by
  intro f fn hf
  unfold L4
  split
  all_goals first | with_reducible exact Lr_toPts hf | with_reducible exact Lr_eqPts hf | with_reducible exact Lr_specCW hf | with_reducible exact Lr_implCW hf | exact noL_good
theorem E4_ok : EnvOk Try.prog E4 := mkEOk (T2_ok) (fun _ _ _ _ _ h => (by cases h)) (L4_ok)
set_option maxRecDepth 100000 in
theorem tr_specCount (ps : List Pt) (x y n : Int) : bodyX Try.prog E4 30 12 7 [.row ps.length (.ints (flat ps)), .v (.agg #[iv x, iv y]), .v (iv n)] = .need (ps.length * (2 : Nat) ≤ (List.drop (0 : Nat) (flat ps)).length) (.need (ps.length ≤ (1000000000 : Nat)) (brT (!okL (ptsA ps.length (List.drop 0 (flat ps)))) (.fin (.int .i64 (-1)) [some ⟨.view, .ints (flat ps)⟩, none, none, some ⟨.box, .vals [.int .i64 (x), .int .i64 (y)]⟩]) (brT (!ptB x y) (.fin (.int .i64 (-1)) [some ⟨.view, .ints (flat ps)⟩, none, none, some ⟨.box, .vals [.int .i64 (x), .int .i64 (y)]⟩]) (.need ((0 : Int) = (0 : Int)) (.need ((0 : Int) = (0 : Int)) (.need ((flat ps).length = ps.length * (2 : Nat)) (.need (ps.length ≤ (20 : Nat)) (.need (allV (ptsA ps.length (flat ps)) = true) (.need (ptB x y = true) (.fin (.int .i64 (0 + cnt n (x, y) (ptsA ps.length (flat ps)))) [some ⟨.view, .ints (flat ps)⟩, none, none, some ⟨.box, .vals [.int .i64 (x), .int .i64 (y)]⟩])))))))))) := by kernel_rfl
set_option maxRecDepth 100000 in
theorem tr_implCount (ps : List Pt) (x y n : Int) : bodyX Try.prog E4 30 12 6 [.row ps.length (.ints (flat ps)), .v (.agg #[iv x, iv y]), .v (iv n)] = brT (decide ((↑ps.length : Int) ≤ 20)) (.need (ps.length * (2 : Nat) ≤ (List.drop (0 : Nat) (flat ps)).length) (.need (ps.length ≤ (1000000000 : Nat)) (brT (!allV (ptsA ps.length (List.drop 0 (flat ps)))) (.fin (.int .i64 (-1)) [some ⟨.view, .ints (flat ps)⟩, none, none, some ⟨.box, .vals [.int .i64 (x), .int .i64 (y)]⟩]) (brT (!ptB x y) (.fin (.int .i64 (-1)) [some ⟨.view, .ints (flat ps)⟩, none, none, some ⟨.box, .vals [.int .i64 (x), .int .i64 (y)]⟩]) (.need ((0 : Int) = (0 : Int)) (.need ((0 : Int) = (0 : Int)) (.need ((↑ps.length : Int) = (↑ps.length : Int)) (.need ((flat ps).length = ps.length * (2 : Nat)) (.need (ps.length ≤ (20 : Nat)) (.need (allV (ptsA ps.length (flat ps)) = true) (.need (ptB x y = true) (.fin (.int .i64 (0 + cnt n (x, y) (ptsA ps.length (flat ps)))) [some ⟨.view, .ints (flat ps)⟩, none, none, some ⟨.box, .vals [.int .i64 (x), .int .i64 (y)]⟩])))))))))))) (.fin (.int .i64 (-1)) [some ⟨.view, .ints (flat ps)⟩, none, none, some ⟨.box, .vals [.int .i64 (x), .int .i64 (y)]⟩]) := by kernel_rfl
def cwV (ps : List Pt) (x y n : Int) : Int := bif okL ps && ptB x y then cnt n (x, y) ps else -1
theorem res_specCount (ps : List Pt) (x y n : Int) (h : Big ps) : Res Try.prog 7 [.row ps.length (.ints (flat ps)), .v (.agg #[iv x, iv y]), .v (iv n)] (iv (cwV ps x y n)) := by
  refine bodyX_res mixed E4_ok (m := 30) (n := 12) rfl ?_
  rw [tr_specCount]
  unfold Big at h
  simp only [List.drop_zero, ptsA_flat, flat_length, Int.zero_add]
  unfold cwV
  cases hk : okL ps
  · simp [Tree.ok, brT, h]
  · simp only [okL, Bool.and_eq_true, decide_eq_true_eq] at hk
    cases hq : ptB x y <;> simp [Tree.ok, brT, h, hk]
theorem res_implCount (ps : List Pt) (x y n : Int) (h : Big ps) : Res Try.prog 6 [.row ps.length (.ints (flat ps)), .v (.agg #[iv x, iv y]), .v (iv n)] (iv (cwV ps x y n)) := by
  refine bodyX_res mixed E4_ok (m := 30) (n := 12) rfl ?_
  rw [tr_implCount]
  unfold Big at h
  simp only [List.drop_zero, ptsA_flat, flat_length, Int.zero_add]
  unfold cwV okL
  by_cases hl : ps.length ≤ 20
  · have hl2 : (ps.length : Int) ≤ 20 := by omega
    cases hk : allV ps <;> cases hq : ptB x y <;> simp [Tree.ok, brT, h, hl, hl2]
  · have hl2 : ¬ (ps.length : Int) ≤ 20 := by omega
    simp [Tree.ok, brT, hl, hl2]
def pCW : List DArg → Option (Value × List Prop)
  | [.row m (.ints xs), .v (.agg ⟨[.int .i64 x, .int .i64 y]⟩), .v (.int .i64 n)] => some (iv (cwV (ptsA m xs) x y n), [m * 2 ≤ xs.length, m ≤ 1000000000])
  | _ => none
def T3 : Tab := fun f ds => match f with
  | 7 => pCW ds
  | 6 => pCW ds
  | f => T2 f ds
theorem pCW_ok {f : FuncId} (h : ∀ (ps : List Pt) (x y n : Int), Big ps → Res Try.prog f [.row ps.length (.ints (flat ps)), .v (.agg #[iv x, iv y]), .v (iv n)] (iv (cwV ps x y n))) {ds : List DArg} {v : Value} {C : List Prop} (hd : pCW ds = some (v, C)) (hC : AllP C) : Res Try.prog f ds v := by
  unfold pCW at hd
  split at hd
  · rename_i m xs x y n
    obtain ⟨rfl, rfl⟩ : _ ∧ _ := by simpa using hd
    obtain ⟨_, h2⟩ := ptsA_spec hC.1
    exact res_pts1 (pre := []) (post := [_, _]) hC.1 (h (ptsA m xs) x y n (by unfold Big; rw [h2]; exact hC.2.1))
  · cases hd
theorem pCWs_ok {ds : List DArg} {v : Value} {C : List Prop} (h : pCW ds = some (v, C)) (hC : AllP C) : Res Try.prog 7 ds v := pCW_ok res_specCount h hC
theorem pCWi_ok {ds : List DArg} {v : Value} {C : List Prop} (h : pCW ds = some (v, C)) (hC : AllP C) : Res Try.prog 6 ds v := pCW_ok res_implCount h hC
theorem T3_ok : TabOk Try.prog T3 := by
  intro f ds v C h hC
  unfold T3 at h
  (try split at h)
  all_goals first | with_reducible exact pEq2_ok h hC | with_reducible exact pCWs_ok h hC | with_reducible exact pCWi_ok h hC | exact T2_ok _ _ _ _ h hC
def R4 : TabR := fun f ds => match f, ds with
  | _, _ => none
theorem R4_ok : TabROk Try.prog R4 := by
  intro f ds v b C h hC
  unfold R4 at h
  (try split at h)
  all_goals first
    | (rename_i n xs
       obtain ⟨rfl, rfl, rfl⟩ : _ ∧ _ ∧ _ := by simpa using h
       obtain ⟨h1, h2⟩ := ptsA_spec hC.1
       have h0 := resR_toPointS (ptsA n xs) (by unfold Big; rw [h2]; exact hC.2.1)
       have h3 := resR_pts1 (pre := []) (post := []) hC.1 h0
       rw [h2, ← h1] at h3
       exact h3)
    | cases h
end Go.Proofs.Ytbhdhejefpdjfaa
namespace Go.Proofs.Ytbhdhejefpdjfaa
set_option linter.all false
open Go.RowKit
/-- Two tables, one after the other. -/
def orT (A B : Tab) : Tab := fun f ds => match A f ds with
  | some x => some x
  | none => B f ds
theorem orT_ok {P : Program} {A B : Tab} (hA : TabOk P A) (hB : TabOk P B) : TabOk P (orT A B) := by
  intro f ds v C h hC
  unfold orT at h
  split at h
  · rename_i x hx
    obtain rfl : x = (v, C) := by simpa using h
    exact hA _ _ _ _ hx hC
  · exact hB _ _ _ _ h hC
end Go.Proofs.Ytbhdhejefpdjfaa
namespace Go.Proofs.Ytbhdhejefpdjfaa
set_option linter.all false
open Go.RowKit
/-- The next place of a closed path. -/
def nxP (ps : List Pt) (j : Nat) : Pt := ps.getD ((j + 1) % ps.length) (0, 0)
def sgT (ps : List Pt) (j : Nat) : Int := (ps.getD j (0, 0)).1 * (nxP ps j).2 - (ps.getD j (0, 0)).2 * (nxP ps j).1
/-- Twice the area of so many edges. -/
def sgA (ps : List Pt) : Nat → Int
  | 0 => 0
  | i + 1 => sgA ps i + sgT ps i
theorem allV_gt {ps : List Pt} (h : allV ps = true) {j : Nat} (hj : j < ps.length) : -1000 ≤ (ps.getD j (0, 0)).1 ∧ (ps.getD j (0, 0)).1 ≤ 1000 ∧ -1000 ≤ (ps.getD j (0, 0)).2 ∧ (ps.getD j (0, 0)).2 ≤ 1000 := by
  have := List.all_eq_true.1 h (ps.getD j (0, 0)) (by simp [hj])
  have := ptB_true this
  omega
theorem nx_lt {ps : List Pt} {j : Nat} (hj : j < ps.length) : (j + 1) % ps.length < ps.length := Nat.mod_lt _ (by omega)
theorem sgP_bd {ps : List Pt} (h : allV ps = true) {j : Nat} (hj : j < ps.length) : (-(1000 * 1000) ≤ (ps.getD j (0, 0)).1 * (nxP ps j).2 ∧ (ps.getD j (0, 0)).1 * (nxP ps j).2 ≤ 1000 * 1000) ∧ (-(1000 * 1000) ≤ (ps.getD j (0, 0)).2 * (nxP ps j).1 ∧ (ps.getD j (0, 0)).2 * (nxP ps j).1 ≤ 1000 * 1000) := by
  have a1 := allV_gt h hj
  have a2 := allV_gt h (nx_lt hj)
  unfold nxP
  exact ⟨mul_bd 1000 1000 (by omega) (by omega), mul_bd 1000 1000 (by omega) (by omega)⟩
theorem sgA_bd {ps : List Pt} (h : allV ps = true) : ∀ i, i ≤ ps.length → -(2000000 * (i : Int)) ≤ sgA ps i ∧ sgA ps i ≤ 2000000 * (i : Int)
  | 0, _ => by simp [sgA]
  | i + 1, hi => by
    have ih := sgA_bd h i (by omega)
    obtain ⟨b1, b2⟩ := sgP_bd h (j := i) (by omega)
    simp only [sgA, sgT]
    omega
def EGa : Env := tabE B0
theorem EGa_ok : EnvOk Try.prog EGa := tabE_ok B0_ok
noncomputable def gc_sga : Code := (rangesOf (codeOf Try.f56)).getD 0 .skip
def k_sga : Ex → List Nat := keeps [3, 7] [] []
def s_sga (ps : List Pt) : Nat → St := fun i => ⟨[topV, topV, topV, .pointer (some ⟨1, 0, none⟩), topV, topV, topV, .func (.func 42) #[] #[.pointer (some ⟨2, 0, none⟩)], topV, topV, topV, topV, topV, topV, topV, topV, topV, topV], [some ⟨.view, .ints (flat ps)⟩, some ⟨.box, .vals [.int .i64 (sgA ps i)]⟩, some ⟨.view, .vals [.slice (some ⟨0, 0, none⟩) ps.length ps.length]⟩]⟩
def g_sga (ps : List Pt) : Nat → Prop := fun i => i ≤ ps.length
def re_sga (ps : List Pt) : Ex := .normal
def rs_sga (ps : List Pt) : St := ⟨[topV, topV, topV, .pointer (some ⟨1, 0, none⟩), topV, topV, topV, topV, topV, topV, topV, topV, topV, topV, topV, topV, topV, topV], [some ⟨.view, .ints (flat ps)⟩, some ⟨.box, .vals [.int .i64 (sgA ps ps.length)]⟩, some ⟨.view, .vals [.slice (some ⟨0, 0, none⟩) ps.length ps.length]⟩]⟩
set_option maxRecDepth 100000 in
theorem tr_sga (ps : List Pt) (i : Nat) : bodyR Try.prog EGa 30 12 noL noR (asgOf gc_sga) (bodOf gc_sga) ([8, 9].zip (encE ps i)) k_sga 3 (s_sga ps i) = .leaf .normal ⟨[topV, topV, topV, .pointer (some ⟨1, 0, none⟩), topV, topV, topV, .func (Fn.func 42) #[] #[.pointer (some ⟨2, 0, none⟩)], topV, topV, topV, topV, topV, topV, topV, topV, topV, topV], [some ⟨.view, .ints (flat ps)⟩, some ⟨.box, .vals [.int .i64 (IntKind.i64.wrap (sgA ps i + IntKind.i64.wrap (IntKind.i64.wrap ((ps.getD i (0, 0)).1 * (ps.getD ((i + 1) % ps.length) (0, 0)).2) - IntKind.i64.wrap ((ps.getD i (0, 0)).2 * (ps.getD ((i + 1) % ps.length) (0, 0)).1))))]⟩, some ⟨.view, .vals [.slice (some ⟨0, 0, none⟩) (ps.length) (ps.length)]⟩]⟩ := by kernel_rfl
/-- A round of this loop. -/
def Round_sga (ps : List Pt) : Prop := ∀ i : Nat, g_sga ps i → i < (ps).length → (bodyR Try.prog EGa 30 12 noL noR (asgOf gc_sga) (bodOf gc_sga) ([8, 9].zip (encE ps i)) k_sga 3 (s_sga ps i)).ok (RoundEndR 3 (s_sga ps) (g_sga ps) (re_sga ps) (rs_sga ps) i) (fun _ _ => False)
set_option maxRecDepth 100000 in
theorem gcode_sga : gc_sga = .rangeFunc (.tmp 7) ([8, 9] : List Nat).toArray (asgOf gc_sga) (bodOf gc_sga) := by kernel_rfl
def e_sga (s : St) (k : Ex → St → Tree) : Option Tree := match Nat.beq s.tmps.length 18, pickL s.tmps [3, 7], s.mem with
  | true, [.pointer (some ⟨1, 0, none⟩), .func (.func 42) ⟨[]⟩ ⟨[.pointer (some ⟨2, 0, none⟩)]⟩], [some ⟨.view, .ints xs⟩, some ⟨.box, .vals [.int .i64 a0]⟩, some ⟨.box, .vals [.slice (some ⟨0, 0, none⟩) n _]⟩] => some (needs [a0 = 0, xs.length = n * 2, allV (ptsA n xs) = true, n ≤ 1000] (k .normal ⟨[topV, topV, topV, .pointer (some ⟨1, 0, none⟩), topV, topV, topV, topV, topV, topV, topV, topV, topV, topV, topV, topV, topV, topV], [some ⟨.view, .ints xs⟩, some ⟨.box, .vals [.int .i64 (sgA (ptsA n xs) n)]⟩, some ⟨.view, .vals [.slice (some ⟨0, 0, none⟩) n n]⟩]⟩))
  | _, _, _ => none
set_option maxRecDepth 100000 in
theorem round_sga (ps : List Pt) (hv : allV ps = true) (h : ps.length ≤ 1000) : Round_sga ps := by
  intro i hg hi
  rw [tr_sga]
  have hb := sgA_bd hv i (by omega)
  obtain ⟨b1, b2⟩ := sgP_bd hv hi
  unfold nxP at b1 b2
  simp (disch := omega) only [wr]
  refine ⟨by show i + 1 ≤ ps.length; omega, [], ?_⟩
  refine ⟨rfl, rfl, ?_, ?_⟩ <;> repeat' (first | exact True.intro | exact rfl | exact wv_top _ _ | exact fun _ => rfl | refine And.intro ?_ ?_)
set_option maxRecDepth 100000 in
theorem lg_sga : RangeE Try.prog e_sga gc_sga := by
  intro s k t F H hlt ht
  unfold e_sga at hlt
  split at hlt
  rotate_left
  · cases hlt
  rename_i hlen hpick hmem
  obtain ⟨tmps, mem⟩ := s
  simp only at hlen hpick hmem
  subst hmem
  obtain rfl := Option.some.inj hlt
  obtain ⟨⟨rfl, h1, h2, h3, _⟩, ht2⟩ := needs_ok ht
  clear ht hlt
  obtain ⟨ps, rfl, rfl⟩ := even_flat h1
  rw [ptsA_flat] at ht2 h2
  refine ⟨re_sga ps, rs_sga ps, ht2, ?_⟩
  rw [gcode_sga]
  refine range_det (enc := encE ps) (len := (ps).length) (St_of := s_sga ps) (Good := g_sga ps) (N := 3) (M := 3) (Kn := [0, 2]) (cap := [.pointer (some ⟨2, 0, none⟩)]) (kf := (k_sga .normal)) (π := []) (fun _ => rfl) (fun _ => rfl) (fun i hg hlt => bodyR_ok mixed EGa_ok (noL_good) (noR_good) (round_sga ps h2 h3 i hg hlt)) (entersB_res (by kernel_rfl)).1 rfl ?_ (fun ρ0 ρ B w lb h1 h2 => ed_iter ps (by omega) (s := (s_sga ps 0).fs) (nb := 2) (nr := 0) (c := (ps).length) (Kn := [0, 2]) rfl rfl (by decide) (by decide) ρ0 ρ B w lb h1 h2) ?_ rfl (by decide) ?_ (Nat.zero_le _)
  · intro n hn b hb
    simp only [List.mem_cons, List.not_mem_nil, or_false] at hn
    rcases hn with rfl | rfl <;> (obtain rfl := Option.some.inj hb; rfl)
  · exact fun _ => ⟨rfl, [], by refine ⟨rfl, rfl, ?_, ?_⟩ <;> repeat' (first | exact True.intro | exact rfl | exact wv_top _ _ | exact fun _ => rfl | refine And.intro ?_ ?_)⟩
  · refine ⟨rfl, rfl, ?_, wvs_spread' [3, 7] hlen rfl ?_⟩
    · repeat' (first | exact True.intro | exact rfl | exact wv_top _ _ | exact fun _ => rfl | assumption | exact Eq.symm (by assumption) | exact vI0 rfl | refine And.intro ?_ ?_)
    · rw [show pickL (viewS [0, 2] ⟨tmps, _⟩).tmps [3, 7] = pickL tmps [3, 7] from rfl, hpick]
      repeat' (first | exact True.intro | exact rfl | exact wv_top _ _ | exact fun _ => rfl | assumption | exact Eq.symm (by assumption) | exact vI0 rfl | refine And.intro ?_ ?_)
theorem nx_mod {i n : Nat} (h : i < n) (hn : n ≤ 1000000000) : (IntKind.i64.wrap ((i : Int) + 1)).tmod (n : Int) = (((i + 1) % n : Nat) : Int) := by
  rw [wsucc h hn, Int.tmod_eq_emod_of_nonneg (by omega)]
  omega
theorem Gr_sga {fn : Func} (hf : Try.prog.funcs[56]? = some fn) : RangesGood Try.prog (rt1 7 e_sga) (codeOf fn) := by
  obtain rfl := fn_is Try.func56 hf
  exact rt1_good (by kernel_rfl) lg_sga
def GSg : FuncId → RT := fun f => match f with
  | 56 => rt1 7 e_sga
  | _ => noR
def ESg : Env := withG (tabE B0) GSg
theorem ESg_ok : EnvOk Try.prog ESg := withG_ok (tabE_ok B0_ok) (by
  intro f fn hf
  unfold GSg
  split
  all_goals first | with_reducible exact Gr_sga hf | exact noR_good)
set_option maxRecDepth 100000 in
theorem tr_iSga (ps : List Pt) : bodyV Try.prog ESg 30 12 56 [.row ps.length (.ints (flat ps))] = .need ((0 : Int) = (0 : Int)) (.need ((flat ps).length = ps.length * (2 : Nat)) (.need (allV (ptsA ps.length (flat ps)) = true) (.need (ps.length ≤ (1000 : Nat)) (.fin (.int .i64 (sgA (ptsA ps.length (flat ps)) ps.length)) [])))) := by kernel_rfl
theorem res_iSga {ps : List Pt} (hv : allV ps = true) (h : ps.length ≤ 1000) : Res Try.prog 56 [.row ps.length (.ints (flat ps))] (iv (sgA ps ps.length)) := by
  refine bodyV_res mixed ESg_ok (m := 30) (n := 12) rfl ?_
  rw [tr_iSga]
  simp only [ptsA_flat]
  exact ⟨trivial, flat_length ps, hv, h, rfl⟩
def pSga : List DArg → Option (Value × List Prop)
  | [.row m (.ints xs)] => some (iv (sgA (ptsA m xs) m), [m * 2 ≤ xs.length, allV (ptsA m xs) = true, m ≤ 20])
  | _ => none
theorem pSga_i {ds : List DArg} {v : Value} {C : List Prop} (h : pSga ds = some (v, C)) (hC : AllP C) : Res Try.prog 56 ds v := by
  unfold pSga at h
  split at h
  · rename_i m xs
    obtain ⟨rfl, rfl⟩ : _ ∧ _ := by simpa using h
    obtain ⟨_, h2⟩ := ptsA_spec hC.1
    have h7 := res_pts1 (pre := []) (post := []) hC.1 (res_iSga (ps := ptsA m xs) hC.2.1 (by rw [h2]; have := hC.2.2.1; omega))
    rw [h2] at h7
    exact h7
  · cases h
def TSg : Tab := fun f ds => match f with
  | 56 => pSga ds
  | _ => none
theorem TSg_ok : TabOk Try.prog TSg := by
  intro f ds v C h hC
  unfold TSg at h
  (try split at h)
  all_goals first | with_reducible exact pSga_i h hC | with_reducible exact pSga_s h hC | cases h
end Go.Proofs.Ytbhdhejefpdjfaa
namespace Go.Proofs.Ytbhdhejefpdjfaa
set_option linter.all false
open Go.RowKit
/-- Of so many from i on, all. -/
def allQ (P : Nat → Bool) : Nat → Nat → Bool
  | _, 0 => true
  | i, m + 1 => P i && allQ P (i + 1) m
theorem allQ_step {P : Nat → Bool} {i n : Nat} (h : i < n) : allQ P i (n - i) = (P i && allQ P (i + 1) (n - (i + 1))) := by
  rw [show n - i = (n - (i + 1)) + 1 by omega]
  rfl
theorem allQ_end {P : Nat → Bool} {i n : Nat} (h : n ≤ i) : allQ P i (n - i) = true := by
  rw [show n - i = 0 by omega]
  rfl
theorem allQ_get {P : Nat → Bool} : ∀ (m i : Nat), allQ P i m = true → ∀ j, i ≤ j → j < i + m → P j = true
  | 0, i, _, j, h1, h2 => by omega
  | m + 1, i, h, j, h1, h2 => by
    simp only [allQ, Bool.and_eq_true] at h
    rcases Nat.lt_or_ge i j with h3 | h3
    · exact allQ_get m (i + 1) h.2 j (by omega) (by omega)
    · obtain rfl : j = i := by omega
      exact h.1
end Go.Proofs.Ytbhdhejefpdjfaa
namespace Go.Proofs.Ytbhdhejefpdjfaa
set_option linter.all false
open Go.RowKit
/-- How two edges of a closed path meet. -/
def edR (ps : List Pt) (i k : Nat) : Int := relV (ps.getD i (0, 0)).1 (ps.getD i (0, 0)).2 (nxP ps i).1 (nxP ps i).2 (ps.getD k (0, 0)).1 (ps.getD k (0, 0)).2 (nxP ps k).1 (nxP ps k).2
/-- Is one of two edges behind the other one? -/
def nbQ (ps : List Pt) (i k : Nat) : Bool := decide (k = i + 1) || decide ((k + 1) % ps.length = i)
def okE (ps : List Pt) (i k : Nat) : Bool := !(decide (i < k)) || (edR ps i k == (bif nbQ ps i k then 1 else 0))
def rowQ (ps : List Pt) (i : Nat) : Bool := allQ (okE ps i) 0 ps.length
def simQ (ps : List Pt) : Bool := allQ (rowQ ps) 0 ps.length
theorem allQ_all {P : Nat → Bool} : ∀ (m i : Nat), (∀ j, i ≤ j → j < i + m → P j = true) → allQ P i m = true
  | 0, _, _ => rfl
  | m + 1, i, h => by
    simp only [allQ, Bool.and_eq_true]
    exact ⟨h i (Nat.le_refl _) (by omega), allQ_all m (i + 1) fun j h1 h2 => h j (by omega) (by omega)⟩
theorem allQ_no {P : Nat → Bool} {n j : Nat} (hj : j < n) (h : P j = false) : allQ P 0 n = false := by
  rw [Bool.eq_false_iff]
  intro hh
  have := allQ_get n 0 hh j (by omega) (by omega)
  rw [h] at this
  cases this
def TIs : Tab := orT T3 TRb
theorem TIs_ok : TabOk Try.prog TIs := orT_ok T3_ok TRb_ok
def EIs : Env := mkE TIs RCe (fun _ => noL)
theorem EIs_ok : EnvOk Try.prog EIs := mkEOk TIs_ok RCe_ok (fun _ _ _ => noL_good)
noncomputable def gcIss : Code := (rangesOf (codeOf Try.f26)).getD 0 .skip
noncomputable def gc_isI : Code := (rangesOf (bodOf gcIss)).getD 0 .skip
def k_isI : Ex → List Nat := keeps [1, 2, 3, 4, 26] [] [2]
def s_isI (ps : List Pt) (j : Nat) : Nat → St := fun i => ⟨(topV :: .pointer (some ⟨1, 0, none⟩) :: .pointer (some ⟨2, 0, none⟩) :: .pointer (some ⟨4, 0, none⟩) :: .pointer (some ⟨5, 0, none⟩) :: topV :: topV :: topV :: topV :: topV :: topV :: topV :: topV :: topV :: topV :: topV :: topV :: topV :: topV :: topV :: topV :: topV :: topV :: topV :: topV :: topV :: .func (.func 42) #[] #[.pointer (some ⟨6, 0, none⟩)] :: topV :: topV :: topV :: topV :: topV :: topV :: topV :: topV :: topV :: topV :: topV :: topV :: topV :: topV :: topV :: topV :: topV :: topV :: topV :: topV :: topV :: topV :: topV :: topV :: topV :: []), [some ⟨.view, .ints (flat ps)⟩, some ⟨.box, .vals [.slice (some ⟨0, 0, none⟩) ps.length ps.length]⟩, some ⟨.box, .vals [.bool false]⟩, some ⟨.view, .vals [.slice (some ⟨0, 0, none⟩) ps.length ps.length]⟩, some ⟨.box, .vals [.int .i64 j]⟩, some ⟨.box, .vals [.int .i64 (ps.getD j (0, 0)).1, .int .i64 (ps.getD j (0, 0)).2, .int .i64 (nxP ps j).1, .int .i64 (nxP ps j).2]⟩, some ⟨.view, .vals [.slice (some ⟨0, 0, none⟩) ps.length ps.length]⟩]⟩
def g_isI (ps : List Pt) (j : Nat) : Nat → Prop := fun i => i ≤ ps.length ∧ ∀ k, k < i → okE ps j k = true
def re_isI (ps : List Pt) (j : Nat) : Ex := bif rowQ ps j then .normal else .ret
def rs_isI (ps : List Pt) (j : Nat) : St := bif rowQ ps j then ⟨(topV :: topV :: .pointer (some ⟨2, 0, none⟩) :: topV :: topV :: topV :: topV :: topV :: topV :: topV :: topV :: topV :: topV :: topV :: topV :: topV :: topV :: topV :: topV :: topV :: topV :: topV :: topV :: topV :: topV :: topV :: topV :: topV :: topV :: topV :: topV :: topV :: topV :: topV :: topV :: topV :: topV :: topV :: topV :: topV :: topV :: topV :: topV :: topV :: topV :: topV :: topV :: topV :: topV :: topV :: topV :: topV :: []), [some ⟨.view, .ints (flat ps)⟩, some ⟨.box, .vals [.slice (some ⟨0, 0, none⟩) ps.length ps.length]⟩, some ⟨.box, .vals [.bool false]⟩, some ⟨.view, .vals [.slice (some ⟨0, 0, none⟩) ps.length ps.length]⟩, some ⟨.box, .vals [.int .i64 j]⟩, some ⟨.box, .vals [.int .i64 (ps.getD j (0, 0)).1, .int .i64 (ps.getD j (0, 0)).2, .int .i64 (nxP ps j).1, .int .i64 (nxP ps j).2]⟩, some ⟨.view, .vals [.slice (some ⟨0, 0, none⟩) ps.length ps.length]⟩]⟩ else ⟨(topV :: topV :: .pointer (some ⟨2, 0, none⟩) :: topV :: topV :: topV :: topV :: topV :: topV :: topV :: topV :: topV :: topV :: topV :: topV :: topV :: topV :: topV :: topV :: topV :: topV :: topV :: topV :: topV :: topV :: topV :: topV :: topV :: topV :: topV :: topV :: topV :: topV :: topV :: topV :: topV :: topV :: topV :: topV :: topV :: topV :: topV :: topV :: topV :: topV :: topV :: topV :: topV :: topV :: topV :: topV :: topV :: []), [some ⟨.view, .ints (flat ps)⟩, some ⟨.box, .vals [.slice (some ⟨0, 0, none⟩) ps.length ps.length]⟩, some ⟨.box, .vals [.bool false]⟩, some ⟨.view, .vals [.slice (some ⟨0, 0, none⟩) ps.length ps.length]⟩, some ⟨.box, .vals [.int .i64 j]⟩, some ⟨.box, .vals [.int .i64 (ps.getD j (0, 0)).1, .int .i64 (ps.getD j (0, 0)).2, .int .i64 (nxP ps j).1, .int .i64 (nxP ps j).2]⟩, some ⟨.view, .vals [.slice (some ⟨0, 0, none⟩) ps.length ps.length]⟩]⟩
set_option maxRecDepth 100000 in
theorem tr_isI (ps : List Pt) (j : Nat) (i : Nat) : bodyR Try.prog EIs 30 12 noL noR (asgOf gc_isI) (bodOf gc_isI) ([27, 28].zip (encE ps i)) k_isI 7 (s_isI ps j i) = brT ((↑i : Int) == IntKind.i64.wrap ((↑j : Int) + 1)) (brT (decide ((↑j : Int) < (↑i : Int))) (brT (!relV (ps.getD j (0, 0)).1 (ps.getD j (0, 0)).2 (nxP ps j).1 (nxP ps j).2 (ps.getD i (0, 0)).1 (ps.getD i (0, 0)).2 (ps.getD ((i + 1) % ps.length) (0, 0)).1 (ps.getD ((i + 1) % ps.length) (0, 0)).2 == 1) (.leaf .ret ⟨(topV :: topV :: .pointer (some ⟨2, 0, none⟩) :: topV :: topV :: topV :: topV :: topV :: topV :: topV :: topV :: topV :: topV :: topV :: topV :: topV :: topV :: topV :: topV :: topV :: topV :: topV :: topV :: topV :: topV :: topV :: topV :: topV :: topV :: topV :: topV :: topV :: topV :: topV :: topV :: topV :: topV :: topV :: topV :: topV :: topV :: topV :: topV :: topV :: topV :: topV :: topV :: topV :: topV :: topV :: topV :: topV :: []), [some ⟨.view, .ints (flat ps)⟩, some ⟨.box, .vals [.slice (some ⟨0, 0, none⟩) (ps.length) (ps.length)]⟩, some ⟨.box, .vals [.bool (false)]⟩, some ⟨.view, .vals [.slice (some ⟨0, 0, none⟩) (ps.length) (ps.length)]⟩, some ⟨.box, .vals [.int .i64 ((↑j : Int))]⟩, some ⟨.box, .vals [.int .i64 ((ps.getD j (0, 0)).1), .int .i64 ((ps.getD j (0, 0)).2), .int .i64 ((nxP ps j).1), .int .i64 ((nxP ps j).2)]⟩, some ⟨.view, .vals [.slice (some ⟨0, 0, none⟩) (ps.length) (ps.length)]⟩]⟩) (.leaf .normal ⟨(topV :: .pointer (some ⟨1, 0, none⟩) :: .pointer (some ⟨2, 0, none⟩) :: .pointer (some ⟨4, 0, none⟩) :: .pointer (some ⟨5, 0, none⟩) :: topV :: topV :: topV :: topV :: topV :: topV :: topV :: topV :: topV :: topV :: topV :: topV :: topV :: topV :: topV :: topV :: topV :: topV :: topV :: topV :: topV :: .func (Fn.func 42) #[] #[.pointer (some ⟨6, 0, none⟩)] :: topV :: topV :: topV :: topV :: topV :: topV :: topV :: topV :: topV :: topV :: topV :: topV :: topV :: topV :: topV :: topV :: topV :: topV :: topV :: topV :: topV :: topV :: topV :: topV :: topV :: []), [some ⟨.view, .ints (flat ps)⟩, some ⟨.box, .vals [.slice (some ⟨0, 0, none⟩) (ps.length) (ps.length)]⟩, some ⟨.box, .vals [.bool (false)]⟩, some ⟨.view, .vals [.slice (some ⟨0, 0, none⟩) (ps.length) (ps.length)]⟩, some ⟨.box, .vals [.int .i64 ((↑j : Int))]⟩, some ⟨.box, .vals [.int .i64 ((ps.getD j (0, 0)).1), .int .i64 ((ps.getD j (0, 0)).2), .int .i64 ((nxP ps j).1), .int .i64 ((nxP ps j).2)]⟩, some ⟨.view, .vals [.slice (some ⟨0, 0, none⟩) (ps.length) (ps.length)]⟩]⟩)) (.leaf .normal ⟨(topV :: .pointer (some ⟨1, 0, none⟩) :: .pointer (some ⟨2, 0, none⟩) :: .pointer (some ⟨4, 0, none⟩) :: .pointer (some ⟨5, 0, none⟩) :: topV :: topV :: topV :: topV :: topV :: topV :: topV :: topV :: topV :: topV :: topV :: topV :: topV :: topV :: topV :: topV :: topV :: topV :: topV :: topV :: topV :: .func (Fn.func 42) #[] #[.pointer (some ⟨6, 0, none⟩)] :: topV :: topV :: topV :: topV :: topV :: topV :: topV :: topV :: topV :: topV :: topV :: topV :: topV :: topV :: topV :: topV :: topV :: topV :: topV :: topV :: topV :: topV :: topV :: topV :: topV :: []), [some ⟨.view, .ints (flat ps)⟩, some ⟨.box, .vals [.slice (some ⟨0, 0, none⟩) (ps.length) (ps.length)]⟩, some ⟨.box, .vals [.bool (false)]⟩, some ⟨.view, .vals [.slice (some ⟨0, 0, none⟩) (ps.length) (ps.length)]⟩, some ⟨.box, .vals [.int .i64 ((↑j : Int))]⟩, some ⟨.box, .vals [.int .i64 ((ps.getD j (0, 0)).1), .int .i64 ((ps.getD j (0, 0)).2), .int .i64 ((nxP ps j).1), .int .i64 ((nxP ps j).2)]⟩, some ⟨.view, .vals [.slice (some ⟨0, 0, none⟩) (ps.length) (ps.length)]⟩]⟩)) (.need (¬(↑ps.length : Int) = (0 : Int)) (brT ((IntKind.i64.wrap ((↑i : Int) + 1)).tmod (↑ps.length : Int) == (↑j : Int)) (brT (decide ((↑j : Int) < (↑i : Int))) (brT (!relV (ps.getD j (0, 0)).1 (ps.getD j (0, 0)).2 (nxP ps j).1 (nxP ps j).2 (ps.getD i (0, 0)).1 (ps.getD i (0, 0)).2 (ps.getD ((i + 1) % ps.length) (0, 0)).1 (ps.getD ((i + 1) % ps.length) (0, 0)).2 == 1) (.leaf .ret ⟨(topV :: topV :: .pointer (some ⟨2, 0, none⟩) :: topV :: topV :: topV :: topV :: topV :: topV :: topV :: topV :: topV :: topV :: topV :: topV :: topV :: topV :: topV :: topV :: topV :: topV :: topV :: topV :: topV :: topV :: topV :: topV :: topV :: topV :: topV :: topV :: topV :: topV :: topV :: topV :: topV :: topV :: topV :: topV :: topV :: topV :: topV :: topV :: topV :: topV :: topV :: topV :: topV :: topV :: topV :: topV :: topV :: []), [some ⟨.view, .ints (flat ps)⟩, some ⟨.box, .vals [.slice (some ⟨0, 0, none⟩) (ps.length) (ps.length)]⟩, some ⟨.box, .vals [.bool (false)]⟩, some ⟨.view, .vals [.slice (some ⟨0, 0, none⟩) (ps.length) (ps.length)]⟩, some ⟨.box, .vals [.int .i64 ((↑j : Int))]⟩, some ⟨.box, .vals [.int .i64 ((ps.getD j (0, 0)).1), .int .i64 ((ps.getD j (0, 0)).2), .int .i64 ((nxP ps j).1), .int .i64 ((nxP ps j).2)]⟩, some ⟨.view, .vals [.slice (some ⟨0, 0, none⟩) (ps.length) (ps.length)]⟩]⟩) (.leaf .normal ⟨(topV :: .pointer (some ⟨1, 0, none⟩) :: .pointer (some ⟨2, 0, none⟩) :: .pointer (some ⟨4, 0, none⟩) :: .pointer (some ⟨5, 0, none⟩) :: topV :: topV :: topV :: topV :: topV :: topV :: topV :: topV :: topV :: topV :: topV :: topV :: topV :: topV :: topV :: topV :: topV :: topV :: topV :: topV :: topV :: .func (Fn.func 42) #[] #[.pointer (some ⟨6, 0, none⟩)] :: topV :: topV :: topV :: topV :: topV :: topV :: topV :: topV :: topV :: topV :: topV :: topV :: topV :: topV :: topV :: topV :: topV :: topV :: topV :: topV :: topV :: topV :: topV :: topV :: topV :: []), [some ⟨.view, .ints (flat ps)⟩, some ⟨.box, .vals [.slice (some ⟨0, 0, none⟩) (ps.length) (ps.length)]⟩, some ⟨.box, .vals [.bool (false)]⟩, some ⟨.view, .vals [.slice (some ⟨0, 0, none⟩) (ps.length) (ps.length)]⟩, some ⟨.box, .vals [.int .i64 ((↑j : Int))]⟩, some ⟨.box, .vals [.int .i64 ((ps.getD j (0, 0)).1), .int .i64 ((ps.getD j (0, 0)).2), .int .i64 ((nxP ps j).1), .int .i64 ((nxP ps j).2)]⟩, some ⟨.view, .vals [.slice (some ⟨0, 0, none⟩) (ps.length) (ps.length)]⟩]⟩)) (.leaf .normal ⟨(topV :: .pointer (some ⟨1, 0, none⟩) :: .pointer (some ⟨2, 0, none⟩) :: .pointer (some ⟨4, 0, none⟩) :: .pointer (some ⟨5, 0, none⟩) :: topV :: topV :: topV :: topV :: topV :: topV :: topV :: topV :: topV :: topV :: topV :: topV :: topV :: topV :: topV :: topV :: topV :: topV :: topV :: topV :: topV :: .func (Fn.func 42) #[] #[.pointer (some ⟨6, 0, none⟩)] :: topV :: topV :: topV :: topV :: topV :: topV :: topV :: topV :: topV :: topV :: topV :: topV :: topV :: topV :: topV :: topV :: topV :: topV :: topV :: topV :: topV :: topV :: topV :: topV :: topV :: []), [some ⟨.view, .ints (flat ps)⟩, some ⟨.box, .vals [.slice (some ⟨0, 0, none⟩) (ps.length) (ps.length)]⟩, some ⟨.box, .vals [.bool (false)]⟩, some ⟨.view, .vals [.slice (some ⟨0, 0, none⟩) (ps.length) (ps.length)]⟩, some ⟨.box, .vals [.int .i64 ((↑j : Int))]⟩, some ⟨.box, .vals [.int .i64 ((ps.getD j (0, 0)).1), .int .i64 ((ps.getD j (0, 0)).2), .int .i64 ((nxP ps j).1), .int .i64 ((nxP ps j).2)]⟩, some ⟨.view, .vals [.slice (some ⟨0, 0, none⟩) (ps.length) (ps.length)]⟩]⟩)) (brT (decide ((↑j : Int) < (↑i : Int))) (brT (!relV (ps.getD j (0, 0)).1 (ps.getD j (0, 0)).2 (nxP ps j).1 (nxP ps j).2 (ps.getD i (0, 0)).1 (ps.getD i (0, 0)).2 (ps.getD ((i + 1) % ps.length) (0, 0)).1 (ps.getD ((i + 1) % ps.length) (0, 0)).2 == 0) (.leaf .ret ⟨(topV :: topV :: .pointer (some ⟨2, 0, none⟩) :: topV :: topV :: topV :: topV :: topV :: topV :: topV :: topV :: topV :: topV :: topV :: topV :: topV :: topV :: topV :: topV :: topV :: topV :: topV :: topV :: topV :: topV :: topV :: topV :: topV :: topV :: topV :: topV :: topV :: topV :: topV :: topV :: topV :: topV :: topV :: topV :: topV :: topV :: topV :: topV :: topV :: topV :: topV :: topV :: topV :: topV :: topV :: topV :: topV :: []), [some ⟨.view, .ints (flat ps)⟩, some ⟨.box, .vals [.slice (some ⟨0, 0, none⟩) (ps.length) (ps.length)]⟩, some ⟨.box, .vals [.bool (false)]⟩, some ⟨.view, .vals [.slice (some ⟨0, 0, none⟩) (ps.length) (ps.length)]⟩, some ⟨.box, .vals [.int .i64 ((↑j : Int))]⟩, some ⟨.box, .vals [.int .i64 ((ps.getD j (0, 0)).1), .int .i64 ((ps.getD j (0, 0)).2), .int .i64 ((nxP ps j).1), .int .i64 ((nxP ps j).2)]⟩, some ⟨.view, .vals [.slice (some ⟨0, 0, none⟩) (ps.length) (ps.length)]⟩]⟩) (.leaf .normal ⟨(topV :: .pointer (some ⟨1, 0, none⟩) :: .pointer (some ⟨2, 0, none⟩) :: .pointer (some ⟨4, 0, none⟩) :: .pointer (some ⟨5, 0, none⟩) :: topV :: topV :: topV :: topV :: topV :: topV :: topV :: topV :: topV :: topV :: topV :: topV :: topV :: topV :: topV :: topV :: topV :: topV :: topV :: topV :: topV :: .func (Fn.func 42) #[] #[.pointer (some ⟨6, 0, none⟩)] :: topV :: topV :: topV :: topV :: topV :: topV :: topV :: topV :: topV :: topV :: topV :: topV :: topV :: topV :: topV :: topV :: topV :: topV :: topV :: topV :: topV :: topV :: topV :: topV :: topV :: []), [some ⟨.view, .ints (flat ps)⟩, some ⟨.box, .vals [.slice (some ⟨0, 0, none⟩) (ps.length) (ps.length)]⟩, some ⟨.box, .vals [.bool (false)]⟩, some ⟨.view, .vals [.slice (some ⟨0, 0, none⟩) (ps.length) (ps.length)]⟩, some ⟨.box, .vals [.int .i64 ((↑j : Int))]⟩, some ⟨.box, .vals [.int .i64 ((ps.getD j (0, 0)).1), .int .i64 ((ps.getD j (0, 0)).2), .int .i64 ((nxP ps j).1), .int .i64 ((nxP ps j).2)]⟩, some ⟨.view, .vals [.slice (some ⟨0, 0, none⟩) (ps.length) (ps.length)]⟩]⟩)) (.leaf .normal ⟨(topV :: .pointer (some ⟨1, 0, none⟩) :: .pointer (some ⟨2, 0, none⟩) :: .pointer (some ⟨4, 0, none⟩) :: .pointer (some ⟨5, 0, none⟩) :: topV :: topV :: topV :: topV :: topV :: topV :: topV :: topV :: topV :: topV :: topV :: topV :: topV :: topV :: topV :: topV :: topV :: topV :: topV :: topV :: topV :: .func (Fn.func 42) #[] #[.pointer (some ⟨6, 0, none⟩)] :: topV :: topV :: topV :: topV :: topV :: topV :: topV :: topV :: topV :: topV :: topV :: topV :: topV :: topV :: topV :: topV :: topV :: topV :: topV :: topV :: topV :: topV :: topV :: topV :: topV :: []), [some ⟨.view, .ints (flat ps)⟩, some ⟨.box, .vals [.slice (some ⟨0, 0, none⟩) (ps.length) (ps.length)]⟩, some ⟨.box, .vals [.bool (false)]⟩, some ⟨.view, .vals [.slice (some ⟨0, 0, none⟩) (ps.length) (ps.length)]⟩, some ⟨.box, .vals [.int .i64 ((↑j : Int))]⟩, some ⟨.box, .vals [.int .i64 ((ps.getD j (0, 0)).1), .int .i64 ((ps.getD j (0, 0)).2), .int .i64 ((nxP ps j).1), .int .i64 ((nxP ps j).2)]⟩, some ⟨.view, .vals [.slice (some ⟨0, 0, none⟩) (ps.length) (ps.length)]⟩]⟩)))) := by kernel_rfl
/-- A round of this loop. -/
def Round_isI (ps : List Pt) (j : Nat) : Prop := ∀ i : Nat, g_isI ps j i → i < (ps).length → (bodyR Try.prog EIs 30 12 noL noR (asgOf gc_isI) (bodOf gc_isI) ([27, 28].zip (encE ps i)) k_isI 7 (s_isI ps j i)).ok (RoundEndR 7 (s_isI ps j) (g_isI ps j) (re_isI ps j) (rs_isI ps j) i) (fun _ _ => False)
set_option maxRecDepth 100000 in
theorem gcode_isI : gc_isI = .rangeFunc (.tmp 26) ([27, 28] : List Nat).toArray (asgOf gc_isI) (bodOf gc_isI) := by kernel_rfl
def e_isI (s : St) (k : Ex → St → Tree) : Option Tree := match Nat.beq s.tmps.length 52, pickL s.tmps [1, 2, 3, 4, 26], s.mem with
  | true, [.pointer (some ⟨1, 0, none⟩), .pointer (some ⟨2, 0, none⟩), .pointer (some ⟨4, 0, none⟩), .pointer (some ⟨5, 0, none⟩), .func (.func 42) ⟨[]⟩ ⟨[.pointer (some ⟨6, 0, none⟩)]⟩], [some ⟨.view, .ints xs⟩, some ⟨.box, .vals [.slice (some ⟨0, 0, none⟩) n _]⟩, some ⟨.box, .vals [.bool false]⟩, some ⟨.view, .vals [.slice (some ⟨0, 0, none⟩) n1 _]⟩, some ⟨.box, .vals [.int .i64 jj]⟩, some ⟨.box, .vals [.int .i64 a, .int .i64 b, .int .i64 c, .int .i64 d]⟩, some ⟨.box, .vals [.slice (some ⟨0, 0, none⟩) n2 _]⟩] => some (needs [n1 = n, n2 = n, 0 ≤ jj, xs.length = n * 2, n ≤ 20, jj < n, a = ((ptsA n xs).getD jj.toNat (0, 0)).1 ∧ b = ((ptsA n xs).getD jj.toNat (0, 0)).2 ∧ c = (nxP (ptsA n xs) jj.toNat).1 ∧ d = (nxP (ptsA n xs) jj.toNat).2] (brT (rowQ (ptsA n xs) jj.toNat) (k .normal ⟨(topV :: topV :: .pointer (some ⟨2, 0, none⟩) :: topV :: topV :: topV :: topV :: topV :: topV :: topV :: topV :: topV :: topV :: topV :: topV :: topV :: topV :: topV :: topV :: topV :: topV :: topV :: topV :: topV :: topV :: topV :: topV :: topV :: topV :: topV :: topV :: topV :: topV :: topV :: topV :: topV :: topV :: topV :: topV :: topV :: topV :: topV :: topV :: topV :: topV :: topV :: topV :: topV :: topV :: topV :: topV :: topV :: []), [some ⟨.view, .ints xs⟩, some ⟨.box, .vals [.slice (some ⟨0, 0, none⟩) n n]⟩, some ⟨.box, .vals [.bool false]⟩, some ⟨.view, .vals [.slice (some ⟨0, 0, none⟩) n n]⟩, some ⟨.box, .vals [.int .i64 jj]⟩, some ⟨.box, .vals [.int .i64 a, .int .i64 b, .int .i64 c, .int .i64 d]⟩, some ⟨.view, .vals [.slice (some ⟨0, 0, none⟩) n n]⟩]⟩) (k .ret ⟨(topV :: topV :: .pointer (some ⟨2, 0, none⟩) :: topV :: topV :: topV :: topV :: topV :: topV :: topV :: topV :: topV :: topV :: topV :: topV :: topV :: topV :: topV :: topV :: topV :: topV :: topV :: topV :: topV :: topV :: topV :: topV :: topV :: topV :: topV :: topV :: topV :: topV :: topV :: topV :: topV :: topV :: topV :: topV :: topV :: topV :: topV :: topV :: topV :: topV :: topV :: topV :: topV :: topV :: topV :: topV :: topV :: []), [some ⟨.view, .ints xs⟩, some ⟨.box, .vals [.slice (some ⟨0, 0, none⟩) n n]⟩, some ⟨.box, .vals [.bool false]⟩, some ⟨.view, .vals [.slice (some ⟨0, 0, none⟩) n n]⟩, some ⟨.box, .vals [.int .i64 jj]⟩, some ⟨.box, .vals [.int .i64 a, .int .i64 b, .int .i64 c, .int .i64 d]⟩, some ⟨.view, .vals [.slice (some ⟨0, 0, none⟩) n n]⟩]⟩)))
  | _, _, _ => none
set_option maxRecDepth 100000 in
theorem round_isI (ps : List Pt) (j : Nat) (h : ps.length ≤ 20) (hj : j < ps.length) : Round_isI ps j := by
  rintro i ⟨_, hg⟩ hi
  rw [tr_isI]
  have e1 : IntKind.i64.wrap ((j : Int) + 1) = (j : Int) + 1 := by rw [wsucc hj (by omega)]; omega
  have c1 : ((i : Int) == (j : Int) + 1) = decide (i = j + 1) := by rw [Bool.eq_iff_iff]; simp; omega
  have c2 : decide ((j : Int) < (i : Int)) = decide (j < i) := decide_eq_decide.2 (by omega)
  have c3 : ((((i + 1) % ps.length : Nat) : Int) == (j : Int)) = decide ((i + 1) % ps.length = j) := by
    generalize (i + 1) % ps.length = m
    rw [Bool.eq_iff_iff]
    simp
    omega
  have hR : relV (ps.getD j (0, 0)).1 (ps.getD j (0, 0)).2 (nxP ps j).1 (nxP ps j).2 (ps.getD i (0, 0)).1 (ps.getD i (0, 0)).2 (ps.getD ((i + 1) % ps.length) (0, 0)).1 (ps.getD ((i + 1) % ps.length) (0, 0)).2 = edR ps j i := rfl
  have nxt : okE ps j i = true → g_isI ps j (i + 1) := fun ho => ⟨by omega, fun k hk => by
    rcases Nat.lt_or_ge k i with h1 | h1
    · exact hg k h1
    · obtain rfl : k = i := by omega
      exact ho⟩
  have stp : okE ps j i = false → rowQ ps j = false := allQ_no hi
  have n0 : ¬ (ps.length : Int) = 0 := by omega
  simp only [e1, c1, c2, c3, hR, nx_mod hi (by omega)]
  rcases q1 : decide (i = j + 1) with _ | _ <;> rcases q2 : decide (j < i) with _ | _ <;> rcases q3 : decide ((i + 1) % ps.length = j) with _ | _ <;> rcases q4 : (edR ps j i == 1) with _ | _ <;> rcases q5 : (edR ps j i == 0) with _ | _
  all_goals
    simp only [brT_t, brT_f, Bool.not_true, Bool.not_false, Tree.ok, RoundEndR]
    try refine ⟨n0, ?_⟩
    first
      | (have ho : okE ps j i = true := by unfold okE nbQ; rw [q1, q2, q3]; simp [q4, q5]
         refine ⟨nxt ho, [], ?_⟩
         refine ⟨rfl, rfl, ?_, ?_⟩ <;> repeat' (first | exact True.intro | exact rfl | exact wv_top _ _ | exact fun _ => rfl | refine And.intro ?_ ?_))
      | (have ho : okE ps j i = false := by unfold okE nbQ; rw [q1, q2, q3]; simp [q4, q5]
         have hq := stp ho
         refine ⟨by unfold re_isI; rw [hq]; rfl, [], ?_⟩
         unfold rs_isI
         rw [hq]
         refine ⟨rfl, rfl, ?_, ?_⟩ <;> repeat' (first | exact True.intro | exact rfl | exact wv_top _ _ | exact fun _ => rfl | refine And.intro ?_ ?_))
set_option maxRecDepth 100000 in
theorem lg_isI : RangeE Try.prog e_isI gc_isI := by
  intro s k t F H hlt ht
  unfold e_isI at hlt
  split at hlt
  rotate_left
  · cases hlt
  rename_i hlen hpick hmem
  obtain ⟨tmps, mem⟩ := s
  simp only at hlen hpick hmem
  subst hmem
  obtain rfl := Option.some.inj hlt
  obtain ⟨⟨rfl, rfl, h4, h1, h3, h5, h6, _⟩, ht2⟩ := needs_ok ht
  clear ht hlt
  obtain ⟨ps, rfl, rfl⟩ := even_flat h1
  obtain ⟨j, rfl⟩ := Int.eq_ofNat_of_zero_le h4
  rw [ptsA_flat] at ht2 h6
  simp only [Int.toNat_natCast] at ht2 h6
  obtain ⟨rfl, rfl, rfl, rfl⟩ := h6
  refine ⟨re_isI ps j, rs_isI ps j, pick2k ht2, ?_⟩
  rw [gcode_isI]
  refine range_det (enc := encE ps) (len := (ps).length) (St_of := s_isI ps j) (Good := g_isI ps j) (N := 7) (M := 7) (Kn := [0, 6]) (cap := [.pointer (some ⟨6, 0, none⟩)]) (kf := (k_isI .normal)) (π := []) (fun _ => rfl) (fun _ => rfl) (fun i hg hlt => bodyR_ok mixed EIs_ok (noL_good) (noR_good) (round_isI ps j h3 (by omega) i hg hlt)) (entersB_res (by kernel_rfl)).1 rfl ?_ (fun ρ0 ρ B w lb h1 h2 => ed_iter ps (by omega) (s := (s_isI ps j 0).fs) (nb := 6) (nr := 0) (c := (ps).length) (Kn := [0, 6]) rfl rfl (by decide) (by decide) ρ0 ρ B w lb h1 h2) ?_ rfl (by decide) ?_ ⟨Nat.zero_le _, fun k hk => by omega⟩
  · intro n hn b hb
    simp only [List.mem_cons, List.not_mem_nil, or_false] at hn
    rcases hn with rfl | rfl <;> (obtain rfl := Option.some.inj hb; rfl)
  · rintro ⟨_, hg⟩
    have hq : rowQ ps j = true := allQ_all _ _ fun k _ h2 => hg k (by omega)
    refine ⟨by unfold re_isI; rw [hq]; rfl, [], ?_⟩
    unfold rs_isI
    rw [hq]
    refine ⟨rfl, rfl, ?_, ?_⟩ <;> repeat' (first | exact True.intro | exact rfl | exact wv_top _ _ | exact fun _ => rfl | refine And.intro ?_ ?_)
  · refine ⟨rfl, rfl, ?_, wvs_spread' [1, 2, 3, 4, 26] hlen rfl ?_⟩
    · repeat' (first | exact True.intro | exact rfl | exact wv_top _ _ | exact fun _ => rfl | assumption | exact Eq.symm (by assumption) | exact vI0 rfl | refine And.intro ?_ ?_)
    · rw [show pickL (viewS [0, 6] ⟨tmps, _⟩).tmps [1, 2, 3, 4, 26] = pickL tmps [1, 2, 3, 4, 26] from rfl, hpick]
      repeat' (first | exact True.intro | exact rfl | exact wv_top _ _ | exact fun _ => rfl | assumption | exact Eq.symm (by assumption) | exact vI0 rfl | refine And.intro ?_ ?_)
noncomputable def gc_isO : Code := gcIss
def k_isO : Ex → List Nat := keeps [1, 2, 22] [] [2]
def s_isO (ps : List Pt) : Nat → St := fun i => ⟨(topV :: .pointer (some ⟨1, 0, none⟩) :: .pointer (some ⟨2, 0, none⟩) :: topV :: topV :: topV :: topV :: topV :: topV :: topV :: topV :: topV :: topV :: topV :: topV :: topV :: topV :: topV :: topV :: topV :: topV :: topV :: .func (.func 42) #[] #[.pointer (some ⟨3, 0, none⟩)] :: topV :: topV :: topV :: topV :: topV :: topV :: topV :: topV :: topV :: topV :: topV :: topV :: topV :: topV :: topV :: topV :: topV :: topV :: topV :: topV :: topV :: topV :: topV :: topV :: topV :: topV :: topV :: topV :: topV :: []), [some ⟨.view, .ints (flat ps)⟩, some ⟨.box, .vals [.slice (some ⟨0, 0, none⟩) ps.length ps.length]⟩, some ⟨.box, .vals [.bool false]⟩, some ⟨.view, .vals [.slice (some ⟨0, 0, none⟩) ps.length ps.length]⟩]⟩
def g_isO (ps : List Pt) : Nat → Prop := fun i => i ≤ ps.length ∧ ∀ k, k < i → rowQ ps k = true
def re_isO (ps : List Pt) : Ex := bif simQ ps then .normal else .ret
def rs_isO (ps : List Pt) : St := bif simQ ps then ⟨(topV :: topV :: .pointer (some ⟨2, 0, none⟩) :: topV :: topV :: topV :: topV :: topV :: topV :: topV :: topV :: topV :: topV :: topV :: topV :: topV :: topV :: topV :: topV :: topV :: topV :: topV :: topV :: topV :: topV :: topV :: topV :: topV :: topV :: topV :: topV :: topV :: topV :: topV :: topV :: topV :: topV :: topV :: topV :: topV :: topV :: topV :: topV :: topV :: topV :: topV :: topV :: topV :: topV :: topV :: topV :: topV :: []), [some ⟨.view, .ints (flat ps)⟩, some ⟨.box, .vals [.slice (some ⟨0, 0, none⟩) ps.length ps.length]⟩, some ⟨.box, .vals [.bool false]⟩, some ⟨.view, .vals [.slice (some ⟨0, 0, none⟩) ps.length ps.length]⟩]⟩ else ⟨(topV :: topV :: .pointer (some ⟨2, 0, none⟩) :: topV :: topV :: topV :: topV :: topV :: topV :: topV :: topV :: topV :: topV :: topV :: topV :: topV :: topV :: topV :: topV :: topV :: topV :: topV :: topV :: topV :: topV :: topV :: topV :: topV :: topV :: topV :: topV :: topV :: topV :: topV :: topV :: topV :: topV :: topV :: topV :: topV :: topV :: topV :: topV :: topV :: topV :: topV :: topV :: topV :: topV :: topV :: topV :: topV :: []), [some ⟨.view, .ints (flat ps)⟩, some ⟨.box, .vals [.slice (some ⟨0, 0, none⟩) ps.length ps.length]⟩, some ⟨.box, .vals [.bool false]⟩, some ⟨.view, .vals [.slice (some ⟨0, 0, none⟩) ps.length ps.length]⟩]⟩
set_option maxRecDepth 100000 in
theorem tr_isO (ps : List Pt) (i : Nat) : bodyR Try.prog EIs 30 12 noL (rt1 26 e_isI) (asgOf gc_isO) (bodOf gc_isO) ([23, 24].zip (encE ps i)) k_isO 4 (s_isO ps i) = .need (ps.length = ps.length) (.need (ps.length = ps.length) (.need ((0 : Int) ≤ (↑i : Int)) (.need ((flat ps).length = ps.length * (2 : Nat)) (.need (ps.length ≤ (20 : Nat)) (.need ((↑i : Int) < (↑ps.length : Int)) (.need ((ps.getD i ((0 : Int), (0 : Int))).1 = ((ptsA ps.length (flat ps)).getD (↑i : Int).toNat ((0 : Int), (0 : Int))).1 ∧ (ps.getD i ((0 : Int), (0 : Int))).2 = ((ptsA ps.length (flat ps)).getD (↑i : Int).toNat ((0 : Int), (0 : Int))).2 ∧ (ps.getD ((i + (1 : Nat)) % ps.length) ((0 : Int), (0 : Int))).1 = (nxP (ptsA ps.length (flat ps)) (↑i : Int).toNat).1 ∧ (ps.getD ((i + (1 : Nat)) % ps.length) ((0 : Int), (0 : Int))).2 = (nxP (ptsA ps.length (flat ps)) (↑i : Int).toNat).2) (brT (rowQ (ptsA ps.length (flat ps)) (↑i : Int).toNat) (.leaf .normal ⟨(topV :: .pointer (some ⟨1, 0, none⟩) :: .pointer (some ⟨2, 0, none⟩) :: topV :: topV :: topV :: topV :: topV :: topV :: topV :: topV :: topV :: topV :: topV :: topV :: topV :: topV :: topV :: topV :: topV :: topV :: topV :: .func (Fn.func 42) #[] #[.pointer (some ⟨3, 0, none⟩)] :: topV :: topV :: topV :: topV :: topV :: topV :: topV :: topV :: topV :: topV :: topV :: topV :: topV :: topV :: topV :: topV :: topV :: topV :: topV :: topV :: topV :: topV :: topV :: topV :: topV :: topV :: topV :: topV :: topV :: []), [some ⟨.view, .ints (flat ps)⟩, some ⟨.box, .vals [.slice (some ⟨0, 0, none⟩) (ps.length) (ps.length)]⟩, some ⟨.box, .vals [.bool (false)]⟩, some ⟨.view, .vals [.slice (some ⟨0, 0, none⟩) (ps.length) (ps.length)]⟩]⟩) (.leaf .ret ⟨(topV :: topV :: .pointer (some ⟨2, 0, none⟩) :: topV :: topV :: topV :: topV :: topV :: topV :: topV :: topV :: topV :: topV :: topV :: topV :: topV :: topV :: topV :: topV :: topV :: topV :: topV :: topV :: topV :: topV :: topV :: topV :: topV :: topV :: topV :: topV :: topV :: topV :: topV :: topV :: topV :: topV :: topV :: topV :: topV :: topV :: topV :: topV :: topV :: topV :: topV :: topV :: topV :: topV :: topV :: topV :: topV :: []), [some ⟨.view, .ints (flat ps)⟩, some ⟨.box, .vals [.slice (some ⟨0, 0, none⟩) (ps.length) (ps.length)]⟩, some ⟨.box, .vals [.bool (false)]⟩, some ⟨.view, .vals [.slice (some ⟨0, 0, none⟩) (ps.length) (ps.length)]⟩]⟩)))))))) := by kernel_rfl
/-- A round of this loop. -/
def Round_isO (ps : List Pt) : Prop := ∀ i : Nat, g_isO ps i → i < (ps).length → (bodyR Try.prog EIs 30 12 noL (rt1 26 e_isI) (asgOf gc_isO) (bodOf gc_isO) ([23, 24].zip (encE ps i)) k_isO 4 (s_isO ps i)).ok (RoundEndR 4 (s_isO ps) (g_isO ps) (re_isO ps) (rs_isO ps) i) (fun _ _ => False)
set_option maxRecDepth 100000 in
theorem gcode_isO : gc_isO = .rangeFunc (.tmp 22) ([23, 24] : List Nat).toArray (asgOf gc_isO) (bodOf gc_isO) := by kernel_rfl
def e_isO (s : St) (k : Ex → St → Tree) : Option Tree := match Nat.beq s.tmps.length 52, pickL s.tmps [1, 2, 22], s.mem with
  | true, [.pointer (some ⟨1, 0, none⟩), .pointer (some ⟨2, 0, none⟩), .func (.func 42) ⟨[]⟩ ⟨[.pointer (some ⟨3, 0, none⟩)]⟩], [some ⟨.view, .ints xs⟩, some ⟨.box, .vals [.slice (some ⟨0, 0, none⟩) n _]⟩, some ⟨.box, .vals [.bool false]⟩, some ⟨.box, .vals [.slice (some ⟨0, 0, none⟩) n1 _]⟩] => some (needs [n1 = n, xs.length = n * 2, n ≤ 20] (brT (simQ (ptsA n xs)) (k .normal ⟨(topV :: topV :: .pointer (some ⟨2, 0, none⟩) :: topV :: topV :: topV :: topV :: topV :: topV :: topV :: topV :: topV :: topV :: topV :: topV :: topV :: topV :: topV :: topV :: topV :: topV :: topV :: topV :: topV :: topV :: topV :: topV :: topV :: topV :: topV :: topV :: topV :: topV :: topV :: topV :: topV :: topV :: topV :: topV :: topV :: topV :: topV :: topV :: topV :: topV :: topV :: topV :: topV :: topV :: topV :: topV :: topV :: []), [some ⟨.view, .ints xs⟩, some ⟨.box, .vals [.slice (some ⟨0, 0, none⟩) n n]⟩, some ⟨.box, .vals [.bool false]⟩, some ⟨.view, .vals [.slice (some ⟨0, 0, none⟩) n n]⟩]⟩) (k .ret ⟨(topV :: topV :: .pointer (some ⟨2, 0, none⟩) :: topV :: topV :: topV :: topV :: topV :: topV :: topV :: topV :: topV :: topV :: topV :: topV :: topV :: topV :: topV :: topV :: topV :: topV :: topV :: topV :: topV :: topV :: topV :: topV :: topV :: topV :: topV :: topV :: topV :: topV :: topV :: topV :: topV :: topV :: topV :: topV :: topV :: topV :: topV :: topV :: topV :: topV :: topV :: topV :: topV :: topV :: topV :: topV :: topV :: []), [some ⟨.view, .ints xs⟩, some ⟨.box, .vals [.slice (some ⟨0, 0, none⟩) n n]⟩, some ⟨.box, .vals [.bool false]⟩, some ⟨.view, .vals [.slice (some ⟨0, 0, none⟩) n n]⟩]⟩)))
  | _, _, _ => none
set_option maxRecDepth 100000 in
theorem round_isO (ps : List Pt) (h : ps.length ≤ 20) : Round_isO ps := by
  rintro i ⟨_, hg⟩ hi
  rw [tr_isO]
  simp only [ptsA_flat, Int.toNat_natCast]
  refine ⟨by first | exact True.intro | rfl, by first | exact True.intro | rfl, by omega, flat_length ps, h, by omega, ⟨by first | exact True.intro | rfl, by first | exact True.intro | rfl, rfl, rfl⟩, ?_⟩
  refine brT_ok.2 ⟨fun hq => ?_, fun hq => ?_⟩
  · refine ⟨⟨by omega, fun k hk => ?_⟩, [], ?_⟩
    · rcases Nat.lt_or_ge k i with h1 | h1
      · exact hg k h1
      · obtain rfl : k = i := by omega
        exact hq
    · refine ⟨rfl, rfl, ?_, ?_⟩ <;> repeat' (first | exact True.intro | exact rfl | exact wv_top _ _ | exact fun _ => rfl | refine And.intro ?_ ?_)
  · have hs : simQ ps = false := allQ_no hi hq
    refine ⟨by unfold re_isO; rw [hs]; rfl, [], ?_⟩
    unfold rs_isO
    rw [hs]
    refine ⟨rfl, rfl, ?_, ?_⟩ <;> repeat' (first | exact True.intro | exact rfl | exact wv_top _ _ | exact fun _ => rfl | refine And.intro ?_ ?_)
set_option maxRecDepth 100000 in
theorem lg_isO : RangeE Try.prog e_isO gc_isO := by
  intro s k t F H hlt ht
  unfold e_isO at hlt
  split at hlt
  rotate_left
  · cases hlt
  rename_i hlen hpick hmem
  obtain ⟨tmps, mem⟩ := s
  simp only at hlen hpick hmem
  subst hmem
  obtain rfl := Option.some.inj hlt
  obtain ⟨⟨rfl, h1, h3, _⟩, ht2⟩ := needs_ok ht
  clear ht hlt
  obtain ⟨ps, rfl, rfl⟩ := even_flat h1
  rw [ptsA_flat] at ht2
  refine ⟨re_isO ps, rs_isO ps, pick2k ht2, ?_⟩
  rw [gcode_isO]
  refine range_det (enc := encE ps) (len := (ps).length) (St_of := s_isO ps) (Good := g_isO ps) (N := 4) (M := 4) (Kn := [0, 3]) (cap := [.pointer (some ⟨3, 0, none⟩)]) (kf := (k_isO .normal)) (π := []) (fun _ => rfl) (fun _ => rfl) (fun i hg hlt => bodyR_ok mixed EIs_ok (noL_good) (rt1_good (by kernel_rfl) lg_isI) (round_isO ps h3 i hg hlt)) (entersB_res (by kernel_rfl)).1 rfl ?_ (fun ρ0 ρ B w lb h1 h2 => ed_iter ps (by omega) (s := (s_isO ps 0).fs) (nb := 3) (nr := 0) (c := (ps).length) (Kn := [0, 3]) rfl rfl (by decide) (by decide) ρ0 ρ B w lb h1 h2) ?_ rfl (by decide) ?_ ⟨Nat.zero_le _, fun k hk => by omega⟩
  · intro n hn b hb
    simp only [List.mem_cons, List.not_mem_nil, or_false] at hn
    rcases hn with rfl | rfl <;> (obtain rfl := Option.some.inj hb; rfl)
  · rintro ⟨_, hg⟩
    have hq : simQ ps = true := allQ_all _ _ fun k _ h2 => hg k (by omega)
    refine ⟨by unfold re_isO; rw [hq]; rfl, [], ?_⟩
    unfold rs_isO
    rw [hq]
    refine ⟨rfl, rfl, ?_, ?_⟩ <;> repeat' (first | exact True.intro | exact rfl | exact wv_top _ _ | exact fun _ => rfl | refine And.intro ?_ ?_)
  · refine ⟨rfl, rfl, ?_, wvs_spread' [1, 2, 22] hlen rfl ?_⟩
    · repeat' (first | exact True.intro | exact rfl | exact wv_top _ _ | exact fun _ => rfl | assumption | exact Eq.symm (by assumption) | exact vI0 rfl | refine And.intro ?_ ?_)
    · rw [show pickL (viewS [0, 3] ⟨tmps, _⟩).tmps [1, 2, 22] = pickL tmps [1, 2, 22] from rfl, hpick]
      repeat' (first | exact True.intro | exact rfl | exact wv_top _ _ | exact fun _ => rfl | assumption | exact Eq.symm (by assumption) | exact vI0 rfl | refine And.intro ?_ ?_)
theorem Gr_isO {fn : Func} (hf : Try.prog.funcs[26]? = some fn) : RangesGood Try.prog (rt1 22 e_isO) (codeOf fn) := by
  obtain rfl := fn_is Try.func26 hf
  exact rt1_good (by kernel_rfl) lg_isO
def GIs : FuncId → RT := fun f => match f with
  | 26 => rt1 22 e_isO
  | _ => noR
def EIo : Env := withG EIs GIs
theorem EIo_ok : EnvOk Try.prog EIo := withG_ok EIs_ok (by
  intro f fn hf
  unfold GIs
  split
  all_goals first | with_reducible exact Gr_isO hf | exact noR_good)
set_option maxRecDepth 100000 in
theorem tr_iIss (ps : List Pt) : bodyV Try.prog EIo 30 12 26 [.row ps.length (.ints (flat ps))] = brT (decide ((↑ps.length : Int) < 3)) (.fin (.bool (false)) []) (brT (decide (20 < (↑ps.length : Int))) (.fin (.bool (false)) []) (brT (decide ((↑ps.length : Int) ≤ 20)) (.need (ps.length * (2 : Nat) ≤ (List.drop (0 : Nat) (flat ps)).length) (.need (ps.length ≤ (1000000000 : Nat)) (brT (!allV (ptsA ps.length (List.drop 0 (flat ps)))) (.fin (.bool (false)) []) (.need (ps.length = ps.length) (.need ((flat ps).length = ps.length * (2 : Nat)) (.need (ps.length ≤ (20 : Nat)) (brT (simQ (ptsA ps.length (flat ps))) (.fin (.bool (true)) []) (.fin (.bool (false)) [])))))))) (.fin (.bool (false)) []))) := by kernel_rfl
/-- Is a polygon simple, as the program finds it? -/
def issI (ps : List Pt) : Bool := decide (3 ≤ ps.length) && okL ps && simQ ps
theorem res_iIss (ps : List Pt) (h : Big ps) : Res Try.prog 26 [.row ps.length (.ints (flat ps))] (.bool (issI ps)) := by
  refine bodyV_res mixed EIo_ok (m := 30) (n := 12) rfl ?_
  rw [tr_iIss]
  unfold Big at h
  simp only [List.drop_zero, ptsA_flat, flat_length]
  unfold issI okL
  by_cases h1 : 3 ≤ ps.length
  · by_cases h2 : ps.length ≤ 20
    · have a1 : ¬ (ps.length : Int) < 3 := by omega
      have a2 : ¬ (20 : Int) < ps.length := by omega
      have a3 : (ps.length : Int) ≤ 20 := by omega
      rcases hv : allV ps with _ | _ <;> rcases hs : simQ ps with _ | _ <;> simp [brT_ok, Tree.ok, h1, h2, a1, a2, a3, h]
    · have a1 : ¬ (ps.length : Int) < 3 := by omega
      have a2 : (20 : Int) < ps.length := by omega
      simp [brT_ok, Tree.ok, h2, a1, a2]
  · have a1 : (ps.length : Int) < 3 := by omega
    simp [brT_ok, Tree.ok, h1, a1]
end Go.Proofs.Ytbhdhejefpdjfaa
