/-
  Texts that the proof needs, merged. Written by an AI agent.
-/
import Derived.Orders
import Derived.Below
import Derived.OrdersIn
import Derived.Deep.LoopGhost
import Derived.WalkKit
import Derived.Laws.CopyRow
import Derived.Laws.AppendOwn
import Derived.Laws.Slices
import Derived.Laws.MakeOwn
import Derived.Test.YtbfoheblcoakiaaRows
import Derived.ProofKit
import Derived.OpenShut
import Derived.Carry
import Derived.IntWalk
import Derived.Test.YtbfoheblcoakiaaProg
import Derived.WalkSpells
import Derived.WalkLawsBesides
import Derived.Lib.Hide
import Derived.Deep.QuietTactic
import Derived.BigQuiet
import Derived.KernelRfl
import Derived.Deep.RegionHeld3
import Derived.LoopTactic
import Derived.Laws.StructEq
import Derived.Laws.Tables
import Derived.RangeFuncNested
import Derived.RangeFuncLeaves
import Derived.Deep.Slices
import Derived.Deep.Fields
import Derived.ChangeSame
import Derived.Deep.DeepCutAuto
import Derived.Shelf.SlSortCmp.WholeK
import Derived.Sort.Grow
import Derived.Shelf.SlSortCmp.NoneTotal
import Derived.Test.YtbfoheblcoakiaaZHullsApart3
set_option linter.all false
namespace Go.Proofs.Ytbfoheblcoakiaa
open Go.RowKit
def seqL : Code → Code
  | .seq x _ => x
  | _ => .skip
def seqR : Code → Code
  | .seq _ y => y
  | _ => .skip
def inBlk : Code → Code
  | .block _ c => c
  | _ => .skip
def inLop : Code → Code
  | .loop c => c
  | _ => .skip
def rgOps : Code → List Oper
  | .region _ ops _ => ops.toList
  | _ => []
noncomputable def edC : Code := codeOf Try.f84
noncomputable def edB : Code := inLop (inBlk (seqR edC))
noncomputable def ed0 : Code := seqL edC
noncomputable def ed1 : Code := seqL edB
noncomputable def ed2 : Code := seqL (inBlk (seqL (seqR (seqR edB))))
noncomputable def ed3 : List Oper := rgOps (seqL (seqR (inBlk (seqL (seqR (seqR edB))))))
noncomputable def ed4 : Code := seqR (seqR (seqR edB))
theorem ed_is : codeOf Try.f84 = .seq ed0 (.block 0 (.loop (.seq ed1 (.seq (.cond (.tmp 8) .skip (.exit 0)) (.seq (.block 1 (.seq ed2 (.seq (.region 3 ed3.toArray true) (.cond (.tmp 25) .ret .skip)))) ed4))))) := by kernel_rfl
def edM (ps : List Pt) : List (Option Blk) := [some ⟨.view, .vals [ß 1 ps.length ps.length]⟩, some ⟨.view, .ints (flat ps)⟩]
def edS (l : Nat) (ps : List Pt) : St := ⟨.func (.yield l) #[] #[] :: .pointer (some ⟨0, 0, none⟩) :: List.replicate 25 undef, edM ps⟩
def edI (l : Nat) (ps : List Pt) (i : Nat) : St := ⟨(.func (.yield l) #[] #[] :: .pointer (some ⟨0, 0, none⟩) :: ω3 ß 1 ps.length ps.length :: .int .i64 ps.length :: .int .i64 i :: ω19 []), edM ps⟩
set_option maxRecDepth 100000 in
theorem tr_ed0 (l : Nat) (ps : List Pt) : asT Try.prog noJ (runM Try.prog (tabE B0) 30 12) ed0 (.leaf .normal) (edS l ps) = .leaf .normal ⟨[.func (Fn.yield l) #[] #[], .pointer (some ⟨0, 0, none⟩), .tuple #[], .tuple #[], .tuple #[], ß 1 (ps.length) (ps.length), .int .i64 ((↑ps.length : Int)), .int .i64 (0), .tuple #[], .tuple #[], .tuple #[], .tuple #[], .tuple #[], .tuple #[], .tuple #[], .tuple #[], .tuple #[], .tuple #[], .tuple #[], .tuple #[], .tuple #[], .tuple #[], .tuple #[], .tuple #[], .tuple #[], .tuple #[], .tuple #[]], [some ⟨.view, .vals [ß 1 (ps.length) (ps.length)]⟩, some ⟨.view, .ints (flat ps)⟩]⟩ := by kernel_rfl
set_option maxRecDepth 100000 in
theorem tr_ed1 (l : Nat) (ps : List Pt) (i : Nat) : asT Try.prog noJ (runM Try.prog (tabE B0) 30 12) ed1 (.leaf .normal) (edI l ps i) = .leaf .normal ⟨(.func (Fn.yield l) #[] #[] :: .pointer (some ⟨0, 0, none⟩) :: ω3 ß 1 (ps.length) (ps.length) :: .int .i64 ((↑ps.length : Int)) :: .int .i64 ((↑i : Int)) :: .bool (decide ((↑i : Int) < (↑ps.length : Int))) :: ω18 []), [some ⟨.view, .vals [ß 1 (ps.length) (ps.length)]⟩, some ⟨.view, .ints (flat ps)⟩]⟩ := by kernel_rfl
set_option maxRecDepth 100000 in
theorem tr_ed2 (l : Nat) (ps : List Pt) (i : Nat) : asT Try.prog noJ (runM Try.prog (tabE B0) 30 12) ed2 (fun s => thenT Try.prog 12 ed3 s (.leaf .normal)) (edI l ps i) = .need ((0 : Int) ≤ (↑i : Int) ∧ (↑i : Int) < (↑ps.length : Int)) (.need ((0 : Nat) + (↑i : Int).toNat * (2 : Nat) + (2 : Nat) ≤ (flat ps).length) (.need (¬(↑ps.length : Int) = (0 : Int)) (.need ((0 : Int) ≤ (ŵ ((↑i : Int) + (1 : Int))).tmod (↑ps.length : Int) ∧ (ŵ ((↑i : Int) + (1 : Int))).tmod (↑ps.length : Int) < (↑ps.length : Int)) (.need ((0 : Nat) + ((ŵ ((↑i : Int) + (1 : Int))).tmod (↑ps.length : Int)).toNat * (2 : Nat) + (2 : Nat) ≤ (flat ps).length) (.leaf .normal ⟨(.func (Fn.yield l) #[] #[] :: .pointer (some ⟨0, 0, none⟩) :: topV :: .int .i64 ((↑i : Int)) :: .pointer (some ⟨2, 0, none⟩) :: ß 1 (ps.length) (ps.length) :: .int .i64 ((↑ps.length : Int)) :: .int .i64 ((↑i : Int)) :: topV :: .int .i64 ((↑i : Int)) :: .pointer (some ⟨1, 0 + (↑i : Int).toNat * 2, none⟩) :: .agg #[.int .i64 ((flat ps).getD (0 + (↑i : Int).toNat * 2) 0), .int .i64 ((flat ps).getD (0 + (↑i : Int).toNat * 2 + 1) 0)] :: .func (Fn.yield l) #[] #[] :: .int .i64 ((↑i : Int)) :: .agg #[.int .i64 ((flat ps).getD (0 + (↑i : Int).toNat * 2) 0), .int .i64 ((flat ps).getD (0 + (↑i : Int).toNat * 2 + 1) 0)] :: ß 1 (ps.length) (ps.length) :: .int .i64 ((↑i : Int)) :: .int .i64 (ŵ ((↑i : Int) + 1)) :: ß 1 (ps.length) (ps.length) :: .int .i64 ((↑ps.length : Int)) :: .int .i64 ((ŵ ((↑i : Int) + 1)).tmod (↑ps.length : Int)) :: .pointer (some ⟨1, 0 + ((ŵ ((↑i : Int) + 1)).tmod (↑ps.length : Int)).toNat * 2, none⟩) :: .agg #[.int .i64 ((flat ps).getD (0 + ((ŵ ((↑i : Int) + 1)).tmod (↑ps.length : Int)).toNat * 2) 0), .int .i64 ((flat ps).getD (0 + ((ŵ ((↑i : Int) + 1)).tmod (↑ps.length : Int)).toNat * 2 + 1) 0)] :: .agg #[.int .i64 ((flat ps).getD (0 + (↑i : Int).toNat * 2) 0), .int .i64 ((flat ps).getD (0 + (↑i : Int).toNat * 2 + 1) 0), .int .i64 ((flat ps).getD (0 + ((ŵ ((↑i : Int) + 1)).tmod (↑ps.length : Int)).toNat * 2) 0), .int .i64 ((flat ps).getD (0 + ((ŵ ((↑i : Int) + 1)).tmod (↑ps.length : Int)).toNat * 2 + 1) 0)] :: ω3 []), [some ⟨.view, .vals [ß 1 (ps.length) (ps.length)]⟩, some ⟨.view, .ints (flat ps)⟩, some ⟨.box, .vals [.int .i64 ((flat ps).getD (0 + (↑i : Int).toNat * 2) 0), .int .i64 ((flat ps).getD (0 + (↑i : Int).toNat * 2 + 1) 0)]⟩, none]⟩))))) := by kernel_rfl
def edY (l : Nat) (ps : List Pt) (i : Nat) (b : Bool) : St := ⟨(.func (.yield l) #[] #[] :: .pointer (some ⟨0, 0, none⟩) :: ω3 ß 1 ps.length ps.length :: .int .i64 ps.length :: .int .i64 i :: ω16 [.bool b, topV, topV]), edM ps⟩
set_option maxRecDepth 100000 in
theorem tr_ed5 (l : Nat) (ps : List Pt) (i : Nat) (b : Bool) : seqT Try.prog noJ (runM Try.prog (tabE B0) 30 12) ed3 2 (.leaf .normal) 13 (ed3.drop 13) (edY l ps i b) = .leaf .normal ⟨(.func (Fn.yield l) #[] #[] :: .pointer (some ⟨0, 0, none⟩) :: ω3 ß 1 (ps.length) (ps.length) :: .int .i64 ((↑ps.length : Int)) :: .int .i64 ((↑i : Int)) :: ω16 [.bool (b), .bool (!b), topV]), [some ⟨.view, .vals [ß 1 (ps.length) (ps.length)]⟩, some ⟨.view, .ints (flat ps)⟩]⟩ := by kernel_rfl
def edA (ps : List Pt) (i : Nat) : Value := .agg #[.int .i64 ((flat ps).getD (0 + (↑i : Int).toNat * 2) 0), .int .i64 ((flat ps).getD (0 + (↑i : Int).toNat * 2 + 1) 0), .int .i64 ((flat ps).getD (0 + ((ŵ ((↑i : Int) + 1)).tmod (↑ps.length : Int)).toNat * 2) 0), .int .i64 ((flat ps).getD (0 + ((ŵ ((↑i : Int) + 1)).tmod (↑ps.length : Int)).toNat * 2 + 1) 0)]
def edZ (b : Bool) : St := ⟨(ω24 [.bool b, topV, topV]), []⟩
set_option maxRecDepth 100000 in
theorem tr_edZ (b : Bool) : seqT Try.prog noJ (runM Try.prog (tabE B0) 30 12) ed3 0 (.leaf .normal) 13 (ed3.drop 13) (edZ b) = .leaf .normal ⟨(ω24 [.bool (b), .bool (!b), topV]), []⟩ := by kernel_rfl
set_option maxRecDepth 100000 in
theorem tr_ed4 (l : Nat) (ps : List Pt) (i : Nat) : asT Try.prog noJ (runM Try.prog (tabE B0) 30 12) ed4 (.leaf .normal) (edI l ps i) = .leaf .normal ⟨(.func (Fn.yield l) #[] #[] :: .pointer (some ⟨0, 0, none⟩) :: ω3 ß 1 (ps.length) (ps.length) :: .int .i64 ((↑ps.length : Int)) :: .int .i64 (ŵ ((↑i : Int) + 1)) :: ω18 [.int .i64 (ŵ ((↑i : Int) + 1))]), [some ⟨.view, .vals [ß 1 (ps.length) (ps.length)]⟩, some ⟨.view, .ints (flat ps)⟩]⟩ := by kernel_rfl
def edV (ps : List Pt) (i : Nat) : Value := .agg #[.int .i64 (ps.getD i (0, 0)).1, .int .i64 (ps.getD i (0, 0)).2, .int .i64 (ps.getD ((i + 1) % ps.length) (0, 0)).1, .int .i64 (ps.getD ((i + 1) % ps.length) (0, 0)).2]
def encE (ps : List Pt) (i : Nat) : List Value := [.int .i64 i, edV ps i]
theorem edA_is {ps : List Pt} {i : Nat} (h : i < ps.length) (hl : ps.length ≤ 1000000000) : edA ps i = edV ps i := by
  have e1 : ((ŵ ((i : Int) + 1)).tmod (ps.length : Int)).toNat = (i + 1) % ps.length := by
    rw [wsucc h hl]
    rw [Int.tmod_eq_emod_of_nonneg (by omega)]
    omega
  unfold edA edV
  rw [e1]
  simp only [Nat.zero_add, Int.toNat_natCast, flat_get0, flat_get1]
theorem detA_of {P : Program} {J : TabJ} {callM : CallM} (hJ : GSound P J.g) (hcallM : CallMOk P callM) {c : Code} {s s' : St} (h : asT P J callM c (.leaf .normal) s = .leaf .normal s') : DetA P c s s' := by
  obtain ⟨u, h1, h2⟩ := asT_det (F := fun _ u => u = s') (H := fun _ _ => False) hJ hcallM c (.leaf .normal) s (by rw [h]; rfl)
  obtain rfl : u = s' := h1
  exact h2
theorem MM_ok : CallMOk Try.prog (runM Try.prog (tabE B0) 30 12) := runM_ok mixed (tabE_ok B0_ok) 30 12
def edF (nb nr : Nat) : Nat → Option (Option Nat)
  | 0 => some (some nb)
  | 1 => some (some nr)
  | _ => none
theorem view_re {ρ : Nat → Option Pl} {B B' : Nat → Prop} {w W : World} {n n' : Nat} {cs cs' : Cs} {f : Nat → Option (Option Nat)} (h : BlkOk ρ B w n ⟨.view, cs⟩) (hf : f n' = some (some n)) (hs : w.heap.size ≤ W.heap.size) (hk : ∀ p, ρ n = some p → ¬ nilPl p → W.heap[p.1]? = w.heap[p.1]?)
    (hv : ∀ (k : Nat) v', cs'.list[k]? = some v' → ∃ v, cs.list[k]? = some v ∧ ∀ x, VR ρ v x → VR (rhoOf ρ f) v' x) : BlkOk (rhoOf ρ f) B' W n' ⟨.view, cs'⟩ := by
  rcases h with ⟨p, h1, h2⟩ | ⟨g, o, cp, h1, hq, h2, h3⟩
  · exact .inl ⟨p, (rhoOf_some hf).trans h1, h2⟩
  · refine .inr ⟨g, o, cp, (rhoOf_some hf).trans h1, hq, by omega, fun k v' hv' => ?_⟩
    obtain ⟨v, k1, k2⟩ := hv k v' hv'
    obtain ⟨x, k3, k4⟩ := h3 k v k1
    exact ⟨x, (World.cell?_of_block (w := w) (a := ⟨g, o + k, none⟩) (hk _ h1 hq.not)).trans k3, k2 x k4⟩
noncomputable def o12 : Oper := (ed3[12]?).getD default
theorem o12_at : ed3.toArray[12]? = some o12 := by kernel_rfl
theorem o12_op : o12.op = .call { callee := .value (.tmp 12), args := #[.tmp 13, .tmp 23], argTypes := #[3, 62] } := by kernel_rfl
theorem o12_dst : o12.dst = some 24 := by kernel_rfl
theorem o12_guard : o12.guard = none := by kernel_rfl
theorem ed3_len : ed3.length = 14 := by kernel_rfl
def wE (ρE : Nat → Option Pl) (W : World) : Start := ⟨W, ρE, fun k => k < W.heap.size, fun _ h => h, [], none⟩
theorem wE_grown {ρE : Nat → Option Pl} {W : World} {s : FS} {a : Act} {w : World} (h : Conc (wE ρE W) s a w) : W.grownBy w none :=
  ⟨h.2.2.1.os, h.2.2.1.tape, h.2.2.1.output, h.2.2.1.size, fun k hk _ => h.2.2.1.block k hk⟩
theorem rep_lt {n k j : Nat} {v : Value} (h : k ≠ j) (hj : j < n) : ((List.replicate n topV).set k v).getD j undef = topV := by
  rw [List.getD_eq_getElem?_getD, List.getElem?_set_ne h, List.getElem?_replicate, if_pos hj]
  rfl
theorem rep_ge {n k j : Nat} {v : Value} (h : k ≠ j) (hj : n ≤ j) : ((List.replicate n topV).set k v).getD j undef = undef := by
  rw [List.getD_eq_getElem?_getD, List.getElem?_set_ne h, List.getElem?_replicate, if_neg (by omega)]
  rfl
set_option maxRecDepth 100000 in
theorem ed_iter (ps : List Pt) (hlen : ps.length ≤ 1000000000) {s : FS} {nb nr c : Nat} {Kn : List Nat} (h0 : s.blk nb = some ⟨.view, .vals [.slice (some ⟨nr, 0, none⟩) ps.length c]⟩) (h1 : s.blk nr = some ⟨.view, .ints (flat ps)⟩) (hb : nb ∈ Kn) (hr : nr ∈ Kn)
    (ρ0 ρ : Nat → Option Pl) (B : Nat → Prop) (w : World) (lb : Array Value) (hlb : VRs ρ [.pointer (some ⟨nb, 0, none⟩)] lb) (hm : MemOk ρ0 ρ B s.blk w) : Iter Try.prog 84 lb ps.length (encE ps) (gsOf s ρ Kn) w := by
  intro l J Jx W hGk hsz hab hJxab hY hJ0
  generalize hρE : rhoOf ρ (edF nb nr) = ρE
  have live : ∀ n b, s.blk n = some b → b.live = true → ∃ p, ρ n = some p := fun n b hn hl => let ⟨p, h, _⟩ := (hm.ok n b hn).place hl; ⟨p, h⟩
  have dom2 : ∀ n, 2 ≤ n → ρE n = none := fun n hn => by
    rw [← hρE]
    match n, hn with
    | n + 2, _ => rfl
  have keepG : ∀ W' : World, (∀ g, gsOf s ρ Kn g → W'.heap[g]? = w.heap[g]?) → ∀ n b p, n ∈ Kn → s.blk n = some b → b.live = true → ρ n = some p → ¬ nilPl p → W'.heap[p.1]? = w.heap[p.1]? := fun W' hk n b p hn hb hl hp hnp => hk p.1 ⟨n, hn, b, p, hb, hl, hp, hnp, rfl⟩
  have mem : ∀ W' : World, (∀ g, gsOf s ρ Kn g → W'.heap[g]? = w.heap[g]?) → w.heap.size ≤ W'.heap.size → MemOk ρE ρE (fun k => k < W'.heap.size) (fun n => (edM ps).getD n none) W' := by
    intro W' hk hs'
    refine ⟨Ext.refl _, fun n hn => ?_, fun n b hn => ?_, fun n n' b b' p p' hn ho => ?_⟩
    · match n, hn with
      | n + 2, _ => exact dom2 _ (by omega)
    · match n, hn with
      | 0, hn =>
        obtain rfl : (⟨.view, .vals [ß 1 ps.length ps.length]⟩ : Blk) = b := by simpa [edM] using hn
        rw [← hρE]
        refine view_re (hm.ok nb _ h0) rfl hs' (fun p hp hnp => keepG W' hk nb _ p hb h0 rfl hp hnp) fun k v' hv' => ?_
        match k, hv' with
        | 0, hv' =>
          obtain rfl : ß 1 ps.length ps.length = v' := by simpa [Cs.list] using hv'
          exact ⟨_, rfl, fun x hx => wv0_ok (f := edF nb nr) (v := .slice (some ⟨nr, 0, none⟩) ps.length c) ⟨rfl, rfl, rfl⟩ hx⟩
        | k + 1, hv' => simp [Cs.list] at hv'
      | 1, hn =>
        obtain rfl : (⟨.view, .ints (flat ps)⟩ : Blk) = b := by simpa [edM] using hn
        rw [← hρE]
        refine view_re (hm.ok nr _ h1) rfl hs' (fun p hp hnp => keepG W' hk nr _ p hr h1 rfl hp hnp) fun k v' hv' => ⟨v', hv', fun x hx => ?_⟩
        have hat : plainV v' = true := plain_of_atom (allAtoms_spec (c := .ints (flat ps)) rfl v' (List.mem_of_getElem? hv'))
        rw [hx.plain hat]
        exact .lit hat
      | n + 2, hn => simp [edM] at hn
    · match n, hn with
      | 0, hn =>
        obtain rfl : (⟨.view, .vals [ß 1 ps.length ps.length]⟩ : Blk) = b := by simpa [edM] using hn
        cases ho
      | 1, hn =>
        obtain rfl : (⟨.view, .ints (flat ps)⟩ : Blk) = b := by simpa [edM] using hn
        cases ho
      | n + 2, hn => simp [edM] at hn
  have ρ0some : ∃ p, ρE 0 = some p := by rw [← hρE]; exact live nb _ h0 rfl
  have ρ1some : ∃ p, ρE 1 = some p := by rw [← hρE]; exact live nr _ h1 rfl
  have only : ∀ (ρ' : Nat → Option Pl) (m : List (Option Blk)), m.length = 2 → Ext ρE ρ' → (∀ n, (fun n => m.getD n none) n = none → ρ' n = none) → ρ' = ρE := by
    intro ρ' m hm2 hext hfr
    funext n
    match n with
    | 0 => obtain ⟨p, hp⟩ := ρ0some; rw [hp]; exact hext _ _ hp
    | 1 => obtain ⟨p, hp⟩ := ρ1some; rw [hp]; exact hext _ _ hp
    | n + 2 => rw [dom2 _ (by omega)]; exact hfr _ (by simp [List.getElem?_eq_none (show m.length ≤ n + 2 by omega)])
  obtain ⟨y, rfl⟩ : ∃ y, lb = #[y] := Array.size_eq_one_iff.1 (by simpa using hlb.1.symm)
  have hy : VR ρE (.pointer (some ⟨0, 0, none⟩)) y := by
    rw [← hρE]
    exact wv0_ok (f := edF nb nr) (v := .pointer (some ⟨nb, 0, none⟩)) ⟨rfl, rfl⟩ (hlb.2 0 _ _ rfl rfl)
  have hargs : VRs ρE [.func (.yield l) #[] #[], .pointer (some ⟨0, 0, none⟩)] (#[.func (.yield l) #[] #[]] ++ #[y]) := ⟨by simp, fun i v v' hv hv' => by
    match i, hv, hv' with
    | 0, hv, hv' =>
      obtain rfl : Value.func (.yield l) #[] #[] = v := by simpa using hv
      obtain rfl : Value.func (.yield l) #[] #[] = v' := by simpa using hv'
      exact .lit rfl
    | 1, hv, hv' =>
      obtain rfl : Value.pointer (some ⟨0, 0, none⟩) = v := by simpa using hv
      obtain rfl : y = v' := by simpa using hv'
      exact hy
    | i + 2, hv, _ => simp at hv⟩
  have hstart : Conc (wE ρE W) (edS l ps).fs { tmps := (#[.func (.yield l) #[] #[]] ++ #[y]) ++ Array.replicate (Try.f84.ntmps - (#[Value.func (.yield l) #[] #[]] ++ #[y]).size) undef, defers := [] } W :=
    start_conc (n := Try.f84.ntmps) (w0 := wE ρE W) hargs (mem W hGk hsz) (BelowK.refl _ _) rfl
  have restart : ∀ (u : St) (a : Act) (W' w' : World), u.mem = edM ps → (∀ g, gsOf s ρ Kn g → w'.heap[g]? = w.heap[g]?) → w.heap.size ≤ w'.heap.size → Conc (wE ρE W') u.fs a w' → Conc (wE ρE w') u.fs a w' := by
    rintro u a W' w' hu hk hs' ⟨c1, c2, _, ρ', ct, cm⟩
    obtain rfl := only ρ' u.mem (by rw [hu]; rfl) cm.ext cm.fresh
    refine ⟨c1, c2, BelowK.refl _ _, ρ', ct, ?_⟩
    have := mem w' hk hs'
    show MemOk ρ' ρ' _ (fun n => u.mem.getD n none) w'
    rw [hu]
    exact this
  have glt : ∀ g, gsOf s ρ Kn g → g < w.heap.size := by
    rintro g ⟨n, hn, b, p, q1, q2, q3, q4, rfl⟩
    exact ((hm.ok n b q1).real q2 q3 q4).1
  have keepW : ∀ {W1 W2 : World}, (∀ g, gsOf s ρ Kn g → W1.heap[g]? = w.heap[g]?) ∧ w.heap.size ≤ W1.heap.size → W1.grownBy W2 none → (∀ g, gsOf s ρ Kn g → W2.heap[g]? = w.heap[g]?) ∧ w.heap.size ≤ W2.heap.size := fun {W1 W2} h hg =>
    ⟨fun g hgg => (hg.block g (by have := glt g hgg; omega) (by simp)).trans (h.1 g hgg), Nat.le_trans h.2 hg.size⟩
  have dw : ∀ W' : World, ∀ n, 2 ≤ n → (wE ρE W').ρ0 n = none := fun _ n hn => dom2 n hn
  have body : ∀ (i : Nat) (a : Act) (wr : World), i ≤ ps.length → J i wr → ((∀ g, gsOf s ρ Kn g → wr.heap[g]? = w.heap[g]?) ∧ w.heap.size ≤ wr.heap.size) → Conc (wE ρE wr) (edI l ps i).fs a wr →
      (Code.seq ed1 (.seq (.cond (.tmp 8) .skip (.exit 0)) (.seq (.block 1 (.seq ed2 (.seq (.region 3 ed3.toArray true) (.cond (.tmp 25) .ret .skip)))) ed4))).wpIn (fz none) 3 Try.prog (fun e a w' => match e with
        | .normal => i < ps.length ∧ J (i + 1) w' ∧ ((∀ g, gsOf s ρ Kn g → w'.heap[g]? = w.heap[g]?) ∧ w.heap.size ≤ w'.heap.size) ∧ Conc (wE ρE w') (edI l ps (i + 1)).fs a w'
        | .exit id => id = 0 ∧ J ps.length w' ∧ a.defers = []
        | .ret => Jx w' ∧ a.defers = []
        | _ => False) a wr := by
    intro i a wr hi hJ hk hc
    refine wpIn_seq (wpIn_mono (detA_of (failG_sound _) MM_ok (tr_ed1 l ps i) (wE ρE wr) a wr hc) ?_)
    rintro e a1 w1 ⟨rfl, hc1⟩
    have ev8 := evalO_is (c := .tmp 8) (t := decide ((i : Int) < (ps.length : Int))) hc1 rfl
    have hJ1 := hab _ _ _ hJ (wE_grown hc1)
    refine wpIn_seq ?_
    rcases Nat.lt_or_ge i ps.length with hlt | hge
    rotate_left
    · refine wpIn_cond_false (by rw [ev8]; congr 1; exact decide_eq_false (by omega)) (wpIn_exit ?_)
      obtain rfl : i = ps.length := by omega
      exact ⟨rfl, hJ1, hc1.1⟩
    refine wpIn_cond_true (by rw [ev8]; congr 1; exact decide_eq_true (by omega)) (wpIn_skip ?_)
    show Code.wpIn _ _ _ (.seq (.block 1 _) ed4) _ a1 w1
    have hcI : Conc (wE ρE wr) (edI l ps i).fs a1 w1 := weak_conc (N := 2) (π := []) (by
      refine ⟨rfl, rfl, ?_, ?_⟩ <;> repeat' (first | exact True.intro | exact rfl | exact wv_top _ _ | exact fun _ => rfl | refine And.intro ?_ ?_)) (dw wr) hc1
    obtain ⟨s2, h2, hA2⟩ := asT_det (F := fun e u => e = .normal ∧ u.tmps.getD 12 undef = .func (.yield l) #[] #[] ∧ u.tmps.getD 13 undef = .int .i64 i ∧ u.tmps.getD 23 undef = edA ps i ∧ WS 2 [] u (edI l ps i)) (H := fun _ _ => False) (failG_sound _) MM_ok ed2 (fun s => thenT Try.prog 12 ed3 s (.leaf .normal)) (edI l ps i) (by
      rw [tr_ed2]
      have e1 : (ŵ ((i : Int) + 1)).tmod (ps.length : Int) = ((i + 1) % ps.length : Nat) := by
        rw [wsucc hlt hlen, Int.tmod_eq_emod_of_nonneg (by omega)]
        omega
      have hmod : (i + 1) % ps.length < ps.length := Nat.mod_lt _ (by omega)
      refine ⟨⟨by omega, by omega⟩, by rw [flat_length]; omega, by omega, by rw [e1]; omega, by rw [e1, flat_length]; omega, rfl, rfl, rfl, rfl, ?_⟩
      refine ⟨rfl, rfl, ?_, ?_⟩ <;> repeat' (first | exact True.intro | exact rfl | exact wv_top _ _ | exact fun _ => rfl | refine And.intro ?_ ?_))
    obtain ⟨s3, ⟨_, t12, t13, t23, hws⟩, rule⟩ := thenT_ok mixed h2
    have after : ∀ (b : Bool) (a' : Act) (w' W2 : World), ((∀ g, gsOf s ρ Kn g → W2.heap[g]? = w.heap[g]?) ∧ w.heap.size ≤ W2.heap.size) → Conc (wE ρE wr) (edI l ps i).fs a' w' → Conc (wE ρE W2) (edY l ps i b).fs (a'.put (some 24) (.bool b)) W2 := by
      rintro b a' w' W2 ⟨hk2, hs2⟩ ⟨c1, c2, _, ρ', ct, cm⟩
      obtain rfl := only ρ' (edM ps) rfl cm.ext cm.fresh
      refine ⟨c1, by show (a'.tmps.setIfInBounds 24 (.bool b)).size = (edI l ps i).fs.n; simpa using c2, BelowK.refl _ _, ρ', fun j => ?_, mem W2 hk2 hs2⟩
      have hj := ct j
      by_cases h24 : 24 = j
      · subst h24
        have : 24 < a'.tmps.size := by rw [c2]; exact (by decide : 24 < 27)
        have e1 : (a'.put (some 24) (.bool b)).tmps.getD 24 undef = .bool b := by simp [Act.put, this]
        rw [e1]
        exact .lit rfl
      · have e1 : (a'.put (some 24) (.bool b)).tmps.getD j undef = a'.tmps.getD j undef := by simp [Act.put, Array.getElem?_setIfInBounds_ne h24]
        have e2 : (edY l ps i b).fs.tmp j = (edI l ps i).fs.tmp j := by
          show (edY l ps i b).tmps.getD j undef = (edI l ps i).tmps.getD j undef
          have : (edY l ps i b).tmps = (edI l ps i).tmps.set 24 (.bool b) := rfl
          rw [this]
          simp [h24]
        rw [e1, e2]
        exact hj
    refine wpIn_seq (wpIn_block (wpIn_seq (wpIn_mono (hA2 (wE ρE wr) a1 w1 hcI) ?_)))
    rintro e a2 w2 ⟨rfl, hc2⟩
    refine wpIn_seq (rule (wE ρE wr) a2 w2 _ 3 hc2 fun a' w' hcc => ?_)
    have hJ3 := hab _ _ _ hJ (wE_grown hcc)
    obtain ⟨fn, tmps, asg, bod, hyld, hR⟩ := hY i w' hJ3 hlt
    have hcI' := weak_conc hws (dw wr) hcc
    have v12 : a'.tmps.getD 12 undef = .func (.yield l) #[] #[] := by
      have := hcc.2.2.2
      obtain ⟨ρ', ct, _⟩ := this
      have k := ct 12
      rw [show s3.fs.tmp 12 = .func (.yield l) #[] #[] from t12] at k
      exact k.plain rfl
    have v13 : a'.tmps.getD 13 undef = .int .i64 i := by
      obtain ⟨ρ', ct, _⟩ := hcc.2.2.2
      have k := ct 13
      rw [show s3.fs.tmp 13 = .int .i64 i from t13] at k
      exact k.plain rfl
    have v23 : a'.tmps.getD 23 undef = edA ps i := by
      obtain ⟨ρ', ct, _⟩ := hcc.2.2.2
      have k := ct 23
      rw [show s3.fs.tmp 23 = edA ps i from t23] at k
      exact k.plain rfl
    rw [ed3_len]
    show wpOpsIn _ _ _ _ _ [12, 13] a' w'
    rw [wpOpsIn_cons]
    unfold wpOpIn
    have hwant : Region.wanted o12 (yielded ed3.toArray a'.tmps) = true := by simp [Region.wanted, o12_guard]
    have hex : (execOp a'.eval o12).run Try.prog w' = .ok (.round l fn tmps asg bod) w' := by
      have e12 : a'.eval (.tmp 12) = .func (.yield l) #[] #[] := v12
      have hargs2 : (#[.tmp 13, .tmp 23] : Array Operand).map a'.eval = (encE ps i).toArray := by
        have e13 : a'.eval (.tmp 13) = .int .i64 i := v13
        have e23 : a'.eval (.tmp 23) = edA ps i := v23
        simp [encE, e13, e23, edA_is hlt hlen]
      simp only [execOp, o12_op, resolve, e12, Deferred.ofValue, invoke, Sem.run_bind, Sem.run_pure, Result.andThen_ok, hargs2]
      simpa using hyld
    simp only [o12_at, hwant, if_true]
    refine ⟨fun _ _ => trivial, ?_⟩
    rw [Oper.semAt_eq _ _ _ (fun c hc => by rw [o12_op] at hc; cases hc), hex]
    refine ⟨fun h => (by cases h), RoundIn.mono hR ?_⟩
    have hk3 := keepW hk (wE_grown hcc)
    have rest : ∀ (b : Bool) (W2 : World), ((∀ g, gsOf s ρ Kn g → W2.heap[g]? = w.heap[g]?) ∧ w.heap.size ≤ W2.heap.size) → ∀ Q : Exit → Act → World → Prop, (∀ a4 w4, W2.grownBy w4 none → a4.defers = [] → a4.eval (.tmp 25) = .bool (!b) → Conc (wE ρE W2) (edI l ps i).fs a4 w4 → Q .normal a4 w4) →
        wpOpsIn (fz none) 3 Try.prog ed3.toArray Q [13] (a'.put (some 24) (.bool b)) W2 := by
      intro b W2 hk2 Q hQ
      have hcY := after b a' w' W2 hk2 hcI'
      obtain ⟨s5, h5, r5⟩ := seqT_ok (F := fun e u => e = .normal ∧ u.tmps.getD 25 undef = .bool (!b) ∧ WS 2 [] u (edI l ps i)) (H := fun _ _ => False) (failG_sound _) MM_ok (ops := ed3) (n := 2) (k := .leaf .normal) (ed3.drop 13) 13 (edY l ps i b) (fun j => by rw [List.getElem?_drop]) (by
        rw [tr_ed5]
        refine ⟨rfl, rfl, rfl, rfl, ?_, ?_⟩ <;> repeat' (first | exact True.intro | exact rfl | exact wv_top _ _ | exact fun _ => rfl | refine And.intro ?_ ?_))
      obtain ⟨_, t25, ws5⟩ := h5
      have := r5 (wE ρE W2) _ W2 Q hcY fun a4 w4 hc4 => hQ a4 w4 (wE_grown hc4) hc4.1 (by
        obtain ⟨ρ', ct, _⟩ := hc4.2.2.2
        have k := ct 25
        rw [show s5.fs.tmp 25 = .bool (!b) from t25] at k
        exact k.plain rfl) (weak_conc ws5 (dw W2) hc4)
      have e13 : List.range' 13 (ed3.drop 13).length = [13] := by rw [List.length_drop, ed3_len]; rfl
      rw [e13] at this
      exact this
    rintro e W2 (⟨rfl, hJ2, hK2⟩ | ⟨rfl, hJx⟩)
    · have hk2 : (∀ g, gsOf s ρ Kn g → W2.heap[g]? = w.heap[g]?) ∧ w.heap.size ≤ W2.heap.size := ⟨fun g hg => (hK2.2 g hg).trans (hk3.1 g hg), Nat.le_trans hk3.2 hK2.1⟩
      show wpOpsIn _ _ _ _ _ [13] (a'.put o12.dst (.bool true)) W2
      rw [o12_dst]
      refine rest true W2 hk2 _ fun a4 w4 hg4 hd4 he4 hc4 => ?_
      refine wpIn_cond_false he4 (wpIn_skip ?_)
      show Code.wpIn _ _ _ ed4 _ a4 w4
      refine wpIn_mono (detA_of (failG_sound _) MM_ok (tr_ed4 l ps i) (wE ρE W2) a4 w4 hc4) ?_
      rintro e a5 w5 ⟨rfl, hc5⟩
      have hJ5 := hab _ _ _ hJ2 (wE_grown hc5)
      have hk5 := keepW hk2 (wE_grown hc5)
      have hwi : ŵ ((i : Int) + 1) = ((i + 1 : Nat) : Int) := wsucc hlt hlen
      refine ⟨hlt, hJ5, hk5, restart _ a5 W2 w5 rfl hk5.1 hk5.2 (weak_conc (N := 2) (π := []) ?_ (dw W2) hc5)⟩
      rw [hwi]
      refine ⟨rfl, rfl, ?_, ?_⟩ <;> repeat' (first | exact True.intro | exact rfl | exact wv_top _ _ | exact fun _ => rfl | refine And.intro ?_ ?_)
    · have hcZ : Conc (wE (fun _ => none) W2) (edZ false).fs (a'.put (some 24) (.bool false)) W2 := by
        have hsz : a'.tmps.size = 27 := hcI'.2.1
        refine ⟨hcI'.1, by show (a'.tmps.setIfInBounds 24 (.bool false)).size = 27; simpa using hsz, BelowK.refl _ _, fun _ => none, fun j => ?_, ⟨Ext.refl _, fun _ _ => rfl, fun n b hn => by simp [edZ, St.fs] at hn, fun n n' b b' p p' hn => by simp [edZ, St.fs] at hn⟩⟩
        by_cases h24 : 24 = j
        · subst h24
          have e1 : (a'.put (some 24) (.bool false)).tmps.getD 24 undef = .bool false := by simp [Act.put, hsz]
          rw [e1]
          exact .lit rfl
        · rcases Nat.lt_or_ge j 27 with hj | hj
          · have e2 : (edZ false).fs.tmp j = topV := by
              exact rep_lt (n := 27) (v := .bool false) h24 hj
            rw [e2]
            exact .top
          · have e2 : (edZ false).fs.tmp j = undef := by
              exact rep_ge (n := 27) (v := .bool false) h24 hj
            have e1 : (a'.put (some 24) (.bool false)).tmps.getD j undef = undef := by
              simp [Act.put, Array.getElem?_setIfInBounds_ne h24, Array.getElem?_eq_none (show a'.tmps.size ≤ j by omega)]
            rw [e1, e2]
            exact .lit rfl
      obtain ⟨s5, ⟨_, t25⟩, r5⟩ := seqT_ok (F := fun e u => e = .normal ∧ u.tmps.getD 25 undef = .bool true) (H := fun _ _ => False) (failG_sound _) MM_ok (ops := ed3) (n := 0) (k := .leaf .normal) (ed3.drop 13) 13 (edZ false) (fun j => by rw [List.getElem?_drop]) (by
        rw [tr_edZ]
        exact ⟨rfl, rfl⟩)
      show wpOpsIn _ _ _ _ _ [13] (a'.put o12.dst (.bool false)) W2
      rw [o12_dst]
      have e13 : List.range' 13 (ed3.drop 13).length = [13] := by rw [List.length_drop, ed3_len]; rfl
      have := fun Q hQ => r5 (wE (fun _ => none) W2) _ W2 Q hcZ hQ
      rw [e13] at this
      refine this _ fun a4 w4 hc4 => ?_
      have he4 : a4.eval (.tmp 25) = .bool true := by
        obtain ⟨ρ', ct, _⟩ := hc4.2.2.2
        have k := ct 25
        rw [show s5.fs.tmp 25 = .bool true from t25] at k
        exact k.plain rfl
      refine wpIn_cond_true he4 (wpIn_ret ?_)
      exact ⟨hJxab _ _ hJx (wE_grown hc4), hc4.1⟩
  rw [show Try.f84.ntmps = Try.f84.ntmps from rfl] at hstart
  refine callsIn_of_wp (c := codeOf Try.f84) Try.func84 rfl trivial ?_ rfl
  rw [ed_is]
  refine wpIn_n (ro := none) (n := 3) (wpIn_seq (wpIn_mono (detA_of (failG_sound _) MM_ok (tr_ed0 l ps) (wE ρE W) _ W hstart) ?_))
  rintro e a1 w1 ⟨rfl, hc1⟩
  have hk1 := keepW ⟨hGk, hsz⟩ (wE_grown hc1)
  have hJ1 := hab _ _ _ hJ0 (wE_grown hc1)
  have hc1 := restart (edI l ps 0) a1 W w1 rfl hk1.1 hk1.2 (weak_conc (N := 2) (π := []) (by
    refine ⟨rfl, rfl, ?_, ?_⟩ <;> repeat' (first | exact True.intro | exact rfl | exact wv_top _ _ | exact fun _ => rfl | refine And.intro ?_ ?_)) (dw W) hc1)
  refine wpIn_block (wpIn_loop_ghost (fun n a w' => ∃ i, n = ps.length - i ∧ i ≤ ps.length ∧ J i w' ∧ ((∀ g, gsOf s ρ Kn g → w'.heap[g]? = w.heap[g]?) ∧ w.heap.size ≤ w'.heap.size) ∧ Conc (wE ρE w') (edI l ps i).fs a w') ps.length ⟨0, rfl, Nat.zero_le _, hJ1, hk1, hc1⟩ ?_)
  rintro n a wr ⟨i, rfl, hi, hJ, hk, hc⟩
  refine wpIn_mono (body i a wr hi hJ hk hc) ?_
  rintro e a2 w2 h
  cases e with
  | normal =>
    obtain ⟨hlt, h1, h2, h3⟩ := h
    exact ⟨ps.length - (i + 1), by omega, i + 1, rfl, by omega, h1, h2, h3⟩
  | exit id =>
    obtain ⟨rfl, h1, h2⟩ := h
    exact ⟨h2, _, results_none rfl _ _ _, ⟨_, rfl⟩, .inl h1⟩
  | ret => exact ⟨h.2, _, results_none rfl _ _ _, ⟨_, rfl⟩, .inr h.1⟩
  | _ => exact h.elim
def E1 : Env := mkE (T1) (fun _ _ => none) (fun _ => noL)
theorem E1_ok : EnvOk Try.prog E1 := mkEOk (T1_ok) (fun _ _ _ _ _ h => (by cases h)) (fun _ _ _ _ _ _ _ _ _ _ _ h => (by cases h))
def vB (p : Pt) : Bool := ptB p.1 p.2
def allV (ps : List Pt) : Bool := ps.all vB
noncomputable def c43 : Code := ((loopsOf (codeOf Try.f37))[0]?).getD .skip
noncomputable def c80 : Code := ((loopsOf (codeOf Try.f36))[0]?).getD .skip
set_option maxRecDepth 100000 in
theorem nl43 : loopsOf c43 = [] := by kernel_rfl
set_option maxRecDepth 100000 in
theorem nl80 : loopsOf c80 = [] := by kernel_rfl
def k43 : Ex → List Nat := keeps [0, 3] [(0, [0])] [2]
def k80 : Ex → List Nat := keeps [5, 6, 7] [] [2]
def s43 (ps : List Pt) (i : Nat) : St := ⟨(ß 0 ps.length ps.length :: topV :: topV :: .int .i64 i :: ω15 []), [some ⟨.view, .ints (flat ps)⟩]⟩
def s80 (ps : List Pt) (i : Nat) : St := ⟨(ω5 ß 0 ps.length ps.length :: .int .i64 ps.length :: .int .i64 i :: ω7 []), [some ⟨.view, .ints (flat ps)⟩]⟩
set_option maxRecDepth 100000 in
theorem tr43 (ps : List Pt) (i : Nat) : bodyL Try.prog E1 30 12 noL 1 c43 k43 1 (s43 ps i) = brT (decide ((↑i : Int) < (↑ps.length : Int))) (.need ((0 : Int) ≤ (↑i : Int) ∧ (↑i : Int) < (↑ps.length : Int)) (.need ((0 : Nat) + (↑i : Int).toNat * (2 : Nat) + (2 : Nat) ≤ (flat ps).length) (brT (!ptB ((flat ps).getD (0 + (↑i : Int).toNat * 2) 0) ((flat ps).getD (0 + (↑i : Int).toNat * 2 + 1) 0)) (.leaf .ret ⟨(topV :: topV :: .bool (false) :: ω16 []), [some ⟨.view, .ints (flat ps)⟩]⟩) (.leaf .normal ⟨(ß 0 (ps.length) (ps.length) :: topV :: topV :: .int .i64 (ŵ ((↑i : Int) + 1)) :: ω15 []), [some ⟨.view, .ints (flat ps)⟩]⟩)))) (.leaf (.exit 0) ⟨(ß 0 (ps.length) (ps.length) :: ω18 []), [some ⟨.view, .ints (flat ps)⟩]⟩) := by kernel_rfl
set_option maxRecDepth 100000 in
theorem tr80 (ps : List Pt) (i : Nat) : bodyL Try.prog E1 30 12 noL 1 c80 k80 1 (s80 ps i) = brT (decide ((↑i : Int) < (↑ps.length : Int))) (.need ((0 : Int) ≤ (↑i : Int) ∧ (↑i : Int) < (↑ps.length : Int)) (.need ((0 : Nat) + (↑i : Int).toNat * (2 : Nat) + (2 : Nat) ≤ (flat ps).length) (brT (!ptB ((flat ps).getD (0 + (↑i : Int).toNat * 2) 0) ((flat ps).getD (0 + (↑i : Int).toNat * 2 + 1) 0)) (.leaf .ret ⟨(topV :: topV :: .bool (false) :: ω12 []), [some ⟨.view, .ints (flat ps)⟩]⟩) (.leaf .normal ⟨(ω5 ß 0 (ps.length) (ps.length) :: .int .i64 ((↑ps.length : Int)) :: .int .i64 (ŵ ((↑i : Int) + 1)) :: ω7 []), [some ⟨.view, .ints (flat ps)⟩]⟩)))) (.leaf (.exit 0) ⟨(ω15 []), [some ⟨.view, .ints (flat ps)⟩]⟩) := by kernel_rfl
def re43 (ps : List Pt) (i : Nat) : Ex := bif (ps.drop i).all vB then .exit 0 else .ret
def rs43 (ps : List Pt) (i : Nat) : St := bif (ps.drop i).all vB then ⟨(ß 0 ps.length ps.length :: ω18 []), [some ⟨.view, .ints (flat ps)⟩]⟩ else ⟨(topV :: topV :: .bool false :: ω16 []), [some ⟨.view, .ints (flat ps)⟩]⟩
def re80 (ps : List Pt) (i : Nat) : Ex := bif (ps.drop i).all vB then .exit 0 else .ret
def rs80 (ps : List Pt) (i : Nat) : St := bif (ps.drop i).all vB then ⟨(ω15 []), [some ⟨.view, .ints (flat ps)⟩]⟩ else ⟨(topV :: topV :: .bool false :: ω12 []), [some ⟨.view, .ints (flat ps)⟩]⟩
theorem round43 (ps : List Pt) (hn : ps.length ≤ 1000000000) (i : Nat) (hi : i ≤ ps.length) :
    (bodyL Try.prog E1 30 12 noL 1 c43 k43 1 (s43 ps i)).ok (RoundEnd 1 (s43 ps) (fun i => i ≤ ps.length) (fun i => ps.length - i) (re43 ps) (rs43 ps) i) (fun _ _ => False) := by
  rw [tr43]
  simp only [brT_ok, Tree.ok, decide_eq_true_eq, decide_eq_false_iff_not, Int.toNat_natCast, Nat.zero_add, flat_length, flat_get0, flat_get1, Bool.not_eq_true', Bool.not_eq_false']
  refine ⟨fun hlt => ⟨by omega, by omega, fun hv => ?_, fun hv => ?_⟩, fun hge => ?_⟩
  · have e : (ps.drop i).all vB = false := by rw [all_drop (by omega) (0, 0)]; simp only [vB, hv, Bool.false_and]
    refine ⟨by simp only [re43, e, cond_false], [], ?_⟩
    simp only [rs43, e, cond_false]
    repeat' (first | exact True.intro | exact rfl | refine And.intro ?_ ?_)
  · have e : (ps.drop i).all vB = (ps.drop (i + 1)).all vB := by rw [all_drop (by omega) (0, 0)]; simp only [vB, hv, Bool.true_and]
    rw [wsucc (n := ps.length) (by omega) hn]
    refine ⟨i + 1, [], by omega, by dsimp only; omega, by simp only [re43, e], by simp only [rs43, e], ?_⟩
    repeat' (first | exact True.intro | exact rfl | refine And.intro ?_ ?_)
  · have e : (ps.drop i).all vB = true := all_end (by omega) _
    refine ⟨by simp only [re43, e, cond_true], [], ?_⟩
    simp only [rs43, e, cond_true]
    repeat' (first | exact True.intro | exact rfl | refine And.intro ?_ ?_)
theorem round80 (ps : List Pt) (hn : ps.length ≤ 1000000000) (i : Nat) (hi : i ≤ ps.length) :
    (bodyL Try.prog E1 30 12 noL 1 c80 k80 1 (s80 ps i)).ok (RoundEnd 1 (s80 ps) (fun i => i ≤ ps.length) (fun i => ps.length - i) (re80 ps) (rs80 ps) i) (fun _ _ => False) := by
  rw [tr80]
  simp only [brT_ok, Tree.ok, decide_eq_true_eq, decide_eq_false_iff_not, Int.toNat_natCast, Nat.zero_add, flat_length, flat_get0, flat_get1, Bool.not_eq_true', Bool.not_eq_false']
  refine ⟨fun hlt => ⟨by omega, by omega, fun hv => ?_, fun hv => ?_⟩, fun hge => ?_⟩
  · have e : (ps.drop i).all vB = false := by rw [all_drop (by omega) (0, 0)]; simp only [vB, hv, Bool.false_and]
    refine ⟨by simp only [re80, e, cond_false], [], ?_⟩
    simp only [rs80, e, cond_false]
    repeat' (first | exact True.intro | exact rfl | refine And.intro ?_ ?_)
  · have e : (ps.drop i).all vB = (ps.drop (i + 1)).all vB := by rw [all_drop (by omega) (0, 0)]; simp only [vB, hv, Bool.true_and]
    rw [wsucc (n := ps.length) (by omega) hn]
    refine ⟨i + 1, [], by omega, by dsimp only; omega, by simp only [re80, e], by simp only [rs80, e], ?_⟩
    repeat' (first | exact True.intro | exact rfl | refine And.intro ?_ ?_)
  · have e : (ps.drop i).all vB = true := all_end (by omega) _
    refine ⟨by simp only [re80, e, cond_true], [], ?_⟩
    simp only [rs80, e, cond_true]
    repeat' (first | exact True.intro | exact rfl | refine And.intro ?_ ?_)
def lt43 : LT := fun j s k => match j, s with
  | 0, ⟨[ß 0 n _, _, _, .int .i64 i, _, _, _, _, _, _, _, _, _, _, _, _, _, _, _], [some ⟨.view, .ints xs⟩]⟩ =>
    some (needs [i = 0, xs.length = n * 2, n ≤ 1000000000] (brT (allV (ptsA n xs)) (k (.exit 0) ⟨(ß 0 n n :: ω18 []), [some ⟨.view, .ints xs⟩]⟩) (k .ret ⟨(topV :: topV :: .bool false :: ω16 []), [some ⟨.view, .ints xs⟩]⟩)))
  | _, _ => none
def lt80 : LT := fun j s k => match j, s with
  | 0, ⟨[_, _, _, _, _, ß 0 n _, .int .i64 l, .int .i64 i, _, _, _, _, _, _, _], [some ⟨.view, .ints xs⟩]⟩ =>
    some (needs [i = 0, l = n, xs.length = n * 2, n ≤ 1000000000] (brT (allV (ptsA n xs)) (k (.exit 0) ⟨(ω15 []), [some ⟨.view, .ints xs⟩]⟩) (k .ret ⟨(topV :: topV :: .bool false :: ω12 []), [some ⟨.view, .ints xs⟩]⟩)))
  | _, _ => none
set_option maxRecDepth 100000 in
theorem lg43 : LoopsGood Try.prog lt43 0 (codeOf Try.f37) := by
  intro i d hd s k t F H hlt ht
  rw [Nat.zero_add] at hlt
  unfold lt43 at hlt
  split at hlt
  rotate_left
  · cases hlt
  obtain rfl : c43 = d := by unfold c43; rw [hd]; rfl
  obtain rfl := Option.some.inj hlt
  obtain ⟨⟨rfl, h1, h2, _⟩, ht2⟩ := needs_ok ht
  clear ht hlt
  obtain ⟨ps, rfl, rfl⟩ := even_flat h1
  rw [ptsA_flat] at ht2
  refine ⟨_, _, pick2k ht2, loop_run mixed E1_ok (s43 ps) (fun i => i ≤ ps.length) (fun i => ps.length - i) (re43 ps) (rs43 ps) k43 (fun _ => rfl) (noLoops nl43) (round43 ps h2) (x := 0) (Nat.zero_le _) (π := []) rfl ?_⟩
  repeat' (first | exact True.intro | exact rfl | exact wv_top _ _ | refine And.intro ?_ ?_)
set_option maxRecDepth 100000 in
theorem lg80 : LoopsGood Try.prog lt80 0 (codeOf Try.f36) := by
  intro i d hd s k t F H hlt ht
  rw [Nat.zero_add] at hlt
  unfold lt80 at hlt
  split at hlt
  rotate_left
  · cases hlt
  obtain rfl : c80 = d := by unfold c80; rw [hd]; rfl
  obtain rfl := Option.some.inj hlt
  obtain ⟨⟨rfl, rfl, h1, h2, _⟩, ht2⟩ := needs_ok ht
  clear ht hlt
  obtain ⟨ps, rfl, rfl⟩ := even_flat h1
  rw [ptsA_flat] at ht2
  refine ⟨_, _, pick2k ht2, loop_run mixed E1_ok (s80 ps) (fun i => i ≤ ps.length) (fun i => ps.length - i) (re80 ps) (rs80 ps) k80 (fun _ => rfl) (noLoops nl80) (round80 ps h2) (x := 0) (Nat.zero_le _) (π := []) rfl ?_⟩
  repeat' (first | exact True.intro | exact rfl | exact wv_top _ _ | refine And.intro ?_ ?_)
def L2 : FuncId → LT := fun f => match f with
  | 37 => lt43
  | 36 => lt80
  | _ => noL
def E2 : Env := mkE (T1) (fun _ _ => none) (L2)
theorem E2_ok : EnvOk Try.prog E2 := by
  refine mkEOk T1_ok (fun _ _ _ _ _ h => (by cases h)) fun f fn hf => ?_
  show LoopsGood Try.prog (L2 f) 0 (codeOf fn)
  unfold L2
  split
  · obtain rfl : Try.f37 = fn := by rw [Try.func37] at hf; simpa using hf
    exact lg43
  · obtain rfl : Try.f36 = fn := by rw [Try.func36] at hf; simpa using hf
    exact lg80
  · exact noL_good
set_option maxRecDepth 100000 in
theorem tr_f43 (ps : List Pt) : bodyX Try.prog E2 30 12 37 [.row ps.length (.ints (flat ps))] = .need ((0 : Int) = (0 : Int)) (.need ((flat ps).length = ps.length * (2 : Nat)) (.need (ps.length ≤ (1000000000 : Nat)) (brT (allV (ptsA ps.length (flat ps))) (.fin (.bool (decide ((↑ps.length : Int) ≤ 20))) [some ⟨.view, .ints (flat ps)⟩]) (.fin (.bool (false)) [some ⟨.view, .ints (flat ps)⟩])))) := by kernel_rfl
set_option maxRecDepth 100000 in
theorem tr_f80 (ps : List Pt) : bodyX Try.prog E2 30 12 36 [.row ps.length (.ints (flat ps))] = .need ((0 : Int) = (0 : Int)) (.need ((↑ps.length : Int) = (↑ps.length : Int)) (.need ((flat ps).length = ps.length * (2 : Nat)) (.need (ps.length ≤ (1000000000 : Nat)) (brT (allV (ptsA ps.length (flat ps))) (.fin (.bool (true)) [some ⟨.view, .ints (flat ps)⟩]) (.fin (.bool (false)) [some ⟨.view, .ints (flat ps)⟩]))))) := by kernel_rfl
def Big (ps : List Pt) : Prop := ps.length ≤ 1000000000
def okL (ps : List Pt) : Bool := allV ps && decide (ps.length ≤ 20)
theorem res_f43 (ps : List Pt) (h : Big ps) : Res Try.prog 37 [.row ps.length (.ints (flat ps))] (.bool (okL ps)) := by
  refine bodyX_res mixed E2_ok (m := 30) (n := 12) rfl ?_
  rw [tr_f43, ptsA_flat]
  unfold Big at h
  unfold okL
  cases hv : allV ps <;> simp [Tree.ok, brT, flat_length, h]
  omega
theorem res_f80 (ps : List Pt) (h : Big ps) : Res Try.prog 36 [.row ps.length (.ints (flat ps))] (.bool (allV ps)) := by
  refine bodyX_res mixed E2_ok (m := 30) (n := 12) rfl ?_
  rw [tr_f80, ptsA_flat]
  unfold Big at h
  cases hv : allV ps <;> simp [Tree.ok, brT, flat_length, h]
def pL (g : List Pt → Value) : List DArg → Option (Value × List Prop)
  | [.row n (.ints xs)] => some (g (ptsA n xs), [n * 2 ≤ xs.length, n ≤ 1000000000])
  | _ => none
theorem pL_ok {f : FuncId} {g : List Pt → Value} (h : ∀ ps, Big ps → Res Try.prog f [.row ps.length (.ints (flat ps))] (g ps)) {ds : List DArg} {v : Value} {C : List Prop} (hd : pL g ds = some (v, C)) (hC : AllP C) : Res Try.prog f ds v := by
  unfold pL at hd
  split at hd
  · rename_i n xs
    obtain ⟨rfl, rfl⟩ : _ ∧ _ := by simpa using hd
    obtain ⟨h1, h2⟩ := ptsA_spec hC.1
    have h0 := h (ptsA n xs) (by unfold Big; rw [h2]; exact hC.2.1)
    exact res_pts1 (pre := []) (post := []) hC.1 h0
  · cases hd
def T2 : Tab := fun f ds => match f with
  | 37 => pL (fun ps => .bool (okL ps)) ds
  | 36 => (match pL (fun ps => .bool (allV ps)) ds with
    | some r => some r
    | none => T1 f ds)
  | f => T1 f ds
theorem T2_ok : TabOk Try.prog T2 := by
  intro f ds v C h hC
  unfold T2 at h
  split at h
  · exact pL_ok res_f43 h hC
  · split at h
    · rename_i hr
      rw [h] at hr
      exact pL_ok res_f80 hr hC
    · exact T1_ok _ _ _ _ h hC
  · exact T1_ok _ _ _ _ h hC
def E3 : Env := mkE (T2) (fun _ _ => none) (fun _ => noL)
theorem E3_ok : EnvOk Try.prog E3 := mkEOk (T2_ok) (fun _ _ _ _ _ h => (by cases h)) (fun _ _ _ => noL_good)
theorem allV_get {ps : List Pt} (h : allV ps = true) (i : Nat) : -1000 ≤ (ps.getD i (0, 0)).1 ∧ (ps.getD i (0, 0)).1 ≤ 1000 ∧ -1000 ≤ (ps.getD i (0, 0)).2 ∧ (ps.getD i (0, 0)).2 ≤ 1000 := by
  rcases Nat.lt_or_ge i ps.length with hlt | hge
  · have := List.all_eq_true.1 h (ps.getD i (0, 0)) (by simp [hlt])
    simpa [vB, ptB] using this
  · simp [hge]
theorem brT_t (x y : Tree) : brT true x y = x := rfl
theorem brT_f (x y : Tree) : brT false x y = y := rfl
def eqL (ps qs : List Pt) : Bool := decide (ps = qs)
def sq (p q : Pt) : Int := (p.1 - q.1) * (p.1 - q.1) + (p.2 - q.2) * (p.2 - q.2)
def cnt (n : Int) (q : Pt) (ps : List Pt) : Int := (ps.countP fun p => decide (sq p q ≤ n) : Nat)
theorem cnt_yes {ps : List Pt} {i : Nat} (h : i < ps.length) (n : Int) (q : Pt) (hh : sq (ps.getD i (0, 0)) q ≤ n) : cnt n q (ps.drop i) = cnt n q (ps.drop (i + 1)) + 1 := by
  unfold cnt
  rw [drop_cons h (0, 0), List.countP_cons]
  simp only [hh, decide_true, if_true]
  omega
theorem cnt_no {ps : List Pt} {i : Nat} (h : i < ps.length) (n : Int) (q : Pt) (hh : ¬ sq (ps.getD i (0, 0)) q ≤ n) : cnt n q (ps.drop i) = cnt n q (ps.drop (i + 1)) := by
  unfold cnt
  rw [drop_cons h (0, 0), List.countP_cons]
  simp only [hh, decide_false, if_false, Bool.false_eq_true]
  omega
theorem cnt_end {ps : List Pt} {i : Nat} (h : ps.length ≤ i) (n : Int) (q : Pt) : cnt n q (ps.drop i) = 0 := by
  unfold cnt
  rw [List.drop_of_length_le h]
  rfl
noncomputable def c_toPts : Code := ((loopsOf (codeOf Try.f24))[0]?).getD .skip
def k_toPts : Ex → List Nat := keeps [0, 3, 4] [(0, [3])] [2]
def s_toPts (ps : List Pt) (n : Nat) : Nat × (List Pt) → St := fun (i, qs) => ⟨(ß 0 ps.length ps.length :: topV :: topV :: ß 1 n n :: .int .i64 i :: ω18 []), [some ⟨.view, .ints (flat ps)⟩, some ⟨.row 32 2, .ints (flat qs)⟩]⟩
def re_toPts : Nat × (List Pt) → Ex := fun _ => .exit 0
def rs_toPts (ps : List Pt) (n : Nat) : Nat × (List Pt) → St := fun (i, qs) => ⟨(ω3 ß 1 n n :: ω19 []), [some ⟨.view, .ints (flat ps)⟩, some ⟨.row 32 2, .ints (flat ps)⟩]⟩
set_option maxRecDepth 100000 in
theorem tr_toPts (ps : List Pt) (n : Nat) (i : Nat) (qs : List Pt) : bodyL Try.prog E3 30 12 noL 1 c_toPts k_toPts 2 (s_toPts ps n (i, qs)) = brT (decide ((↑i : Int) < (↑ps.length : Int))) (.need ((0 : Int) ≤ (↑i : Int) ∧ (↑i : Int) < (↑ps.length : Int)) (.need ((0 : Nat) + (↑i : Int).toNat * (2 : Nat) + (2 : Nat) ≤ (flat ps).length) (.need ((0 : Int) ≤ (↑i : Int) ∧ (↑i : Int) < (↑n : Int)) (.need ((0 : Nat) + (↑i : Int).toNat * (2 : Nat) + (2 : Nat) ≤ (flat qs).length) (.leaf .normal ⟨(ß 0 (ps.length) (ps.length) :: topV :: topV :: ß 1 (n) (n) :: .int .i64 (ŵ ((↑i : Int) + 1)) :: ω18 []), [some ⟨.view, .ints (flat ps)⟩, some ⟨.row 32 2, .ints (setInts (flat qs) (0 + (↑i : Int).toNat * 2) [(flat ps).getD (0 + (↑i : Int).toNat * 2) 0, (flat ps).getD (0 + (↑i : Int).toNat * 2 + 1) 0])⟩]⟩))))) (.leaf (.exit 0) ⟨(ω3 ß 1 (n) (n) :: ω19 []), [some ⟨.view, .ints (flat ps)⟩, some ⟨.row 32 2, .ints (flat qs)⟩]⟩) := by kernel_rfl
set_option maxRecDepth 100000 in
theorem nl_toPts : loopsOf c_toPts = [] := by kernel_rfl
def inv_toPts (ps : List Pt) (n : Nat) : Nat × (List Pt) → Prop := fun (i, qs) => i ≤ ps.length ∧ ps.length = n ∧ qs.length = n ∧ qs.take i = ps.take i
def me_toPts (ps : List Pt) (n : Nat) : Nat × (List Pt) → Nat := fun (i, qs) => ps.length - i
def Round_toPts (ps : List Pt) (n : Nat) : Prop := ∀ xx : Nat × (List Pt), inv_toPts ps n xx → (bodyL Try.prog E3 30 12 noL 1 c_toPts k_toPts 2 (s_toPts ps n xx)).ok (RoundEnd 2 (s_toPts ps n) (inv_toPts ps n) (me_toPts ps n) re_toPts (rs_toPts ps n) xx) (fun _ _ => False)
def e_toPts (s : St) (k : Ex → St → Tree) : Option Tree := match Nat.beq s.tmps.length 23, pickL s.tmps [0, 3, 4], s.mem with
  | true, [ß 0 n _, ß 1 m _, .int .i64 i], [some ⟨.view, .ints xs⟩, some ⟨.row 32 2, .ints ys⟩] => some (needs [i = 0, m = n, xs.length = n * 2, ys.length = n * 2, n ≤ 1000000000] (k (.exit 0) ⟨(ω3 ß 1 m m :: ω19 []), [some ⟨.view, .ints xs⟩, some ⟨.row 32 2, .ints xs⟩]⟩))
  | _, _, _ => none
set_option maxRecDepth 100000 in
theorem round_toPts (ps : List Pt) (n : Nat) (h : ps.length ≤ 1000000000) : Round_toPts ps n := by
  rintro ⟨i, qs⟩ ⟨h1, h2, h3, h4⟩
  rw [tr_toPts]
  simp only [brT_ok, Tree.ok, decide_eq_true_eq, decide_eq_false_iff_not, Int.toNat_natCast, Nat.zero_add, flat_length, flat_get0, flat_get1, Cs.size]
  refine ⟨fun hlt => ⟨by omega, by omega, by omega, by omega, ?_⟩, fun hge => ?_⟩
  · rw [wsucc (n := ps.length) (by omega) h, flat_set qs i (by omega)]
    refine ⟨(i + 1, qs.set i (ps.getD i (0, 0))), [], ⟨by omega, h2, by simp [h3], ?_⟩, ?_, rfl, rfl, ?_⟩
    · exact take_set_succ (by omega) (by omega) h4 _
    · show ps.length - (i + 1) < ps.length - i; omega
    · repeat' (first | exact True.intro | exact rfl | exact fun _ => rfl | refine And.intro ?_ ?_)
  · have e : qs = ps := by
      rw [List.take_of_length_le (by omega), List.take_of_length_le (by omega)] at h4
      exact h4
    subst e
    refine ⟨rfl, [], ?_⟩
    repeat' (first | exact True.intro | exact rfl | exact fun _ => rfl | refine And.intro ?_ ?_)
set_option maxRecDepth 100000 in
theorem lg_toPts : LoopE Try.prog e_toPts c_toPts := by
  intro s k t F H hlt ht
  unfold e_toPts at hlt
  split at hlt
  rotate_left
  · cases hlt
  rename_i hlen hpick hmem
  obtain ⟨tmps, mem⟩ := s
  simp only at hlen hpick hmem
  subst hmem
  obtain rfl := Option.some.inj hlt
  obtain ⟨⟨rfl, rfl, h1, h2, h3, _⟩, ht2⟩ := needs_ok ht
  clear ht hlt
  obtain ⟨ps, rfl, rfl⟩ := even_flat h1
  obtain ⟨qs, rfl, hq⟩ := even_flat h2
  refine ⟨_, _, ht2, loop_run mixed E3_ok (s_toPts ps ps.length) (inv_toPts ps ps.length) (me_toPts ps ps.length) re_toPts (rs_toPts ps ps.length) k_toPts (fun _ => rfl) (noLoops nl_toPts) (round_toPts ps ps.length h3) (x := (0, qs)) ⟨Nat.zero_le _, rfl, hq, rfl⟩ (π := []) rfl ?_⟩
  refine ⟨rfl, rfl, ?_, wvs_spread' [0, 3, 4] hlen rfl ?_⟩
  · repeat' (first | exact True.intro | exact rfl | exact wv_top _ _ | exact fun _ => rfl | assumption | exact Eq.symm (by assumption) | exact vI0 rfl | refine And.intro ?_ ?_)
  · rw [hpick]
    repeat' (first | exact True.intro | exact rfl | exact wv_top _ _ | exact fun _ => rfl | assumption | exact Eq.symm (by assumption) | exact vI0 rfl | refine And.intro ?_ ?_)
noncomputable def c_eqPts : Code := ((loopsOf (codeOf Try.f26))[0]?).getD .skip
def k_eqPts : Ex → List Nat := keeps [0, 1, 5] [(0, [])] [4]
def s_eqPts (ps : List Pt) (qs : List Pt) : Nat → St := fun i => ⟨(ß 0 ps.length ps.length :: ß 1 qs.length qs.length :: ω3 .int .i64 i :: ω21 []), [some ⟨.view, .ints (flat ps)⟩, some ⟨.view, .ints (flat qs)⟩]⟩
def re_eqPts (ps : List Pt) (qs : List Pt) : Nat → Ex := fun i => bif decide (ps.drop i = qs.drop i) then .exit 0 else .ret
def rs_eqPts (ps : List Pt) (qs : List Pt) : Nat → St := fun i => bif decide (ps.drop i = qs.drop i) then ⟨(ω27 []), [some ⟨.view, .ints (flat ps)⟩, some ⟨.view, .ints (flat qs)⟩]⟩ else ⟨(ω4 .bool false :: ω22 []), [some ⟨.view, .ints (flat ps)⟩, some ⟨.view, .ints (flat qs)⟩]⟩
set_option maxRecDepth 100000 in
theorem tr_eqPts (ps : List Pt) (qs : List Pt) (i : Nat) : bodyL Try.prog E3 30 12 noL 1 c_eqPts k_eqPts 2 (s_eqPts ps qs i) = brT (decide ((↑i : Int) < (↑ps.length : Int))) (brT (!(flat ps).getD (0 + (↑i : Int).toNat * 2) 0 == (flat qs).getD (0 + (↑i : Int).toNat * 2) 0) (.need ((0 : Int) ≤ (↑i : Int) ∧ (↑i : Int) < (↑ps.length : Int)) (.need ((0 : Nat) + (↑i : Int).toNat * (2 : Nat) + (2 : Nat) ≤ (flat ps).length) (.need ((0 : Int) ≤ (↑i : Int) ∧ (↑i : Int) < (↑qs.length : Int)) (.need ((0 : Nat) + (↑i : Int).toNat * (2 : Nat) + (2 : Nat) ≤ (flat qs).length) (.leaf .ret ⟨(ω4 .bool (false) :: ω22 []), [some ⟨.view, .ints (flat ps)⟩, some ⟨.view, .ints (flat qs)⟩]⟩))))) (brT (!(flat ps).getD (0 + (↑i : Int).toNat * 2 + 1) 0 == (flat qs).getD (0 + (↑i : Int).toNat * 2 + 1) 0) (.need ((0 : Int) ≤ (↑i : Int) ∧ (↑i : Int) < (↑ps.length : Int)) (.need ((0 : Nat) + (↑i : Int).toNat * (2 : Nat) + (2 : Nat) ≤ (flat ps).length) (.need ((0 : Int) ≤ (↑i : Int) ∧ (↑i : Int) < (↑qs.length : Int)) (.need ((0 : Nat) + (↑i : Int).toNat * (2 : Nat) + (2 : Nat) ≤ (flat qs).length) (.leaf .ret ⟨(ω4 .bool (false) :: ω22 []), [some ⟨.view, .ints (flat ps)⟩, some ⟨.view, .ints (flat qs)⟩]⟩))))) (.need ((0 : Int) ≤ (↑i : Int) ∧ (↑i : Int) < (↑ps.length : Int)) (.need ((0 : Nat) + (↑i : Int).toNat * (2 : Nat) + (2 : Nat) ≤ (flat ps).length) (.need ((0 : Int) ≤ (↑i : Int) ∧ (↑i : Int) < (↑qs.length : Int)) (.need ((0 : Nat) + (↑i : Int).toNat * (2 : Nat) + (2 : Nat) ≤ (flat qs).length) (.leaf .normal ⟨(ß 0 (ps.length) (ps.length) :: ß 1 (qs.length) (qs.length) :: ω3 .int .i64 (ŵ ((↑i : Int) + 1)) :: ω21 []), [some ⟨.view, .ints (flat ps)⟩, some ⟨.view, .ints (flat qs)⟩]⟩))))))) (.leaf (.exit 0) ⟨(ω27 []), [some ⟨.view, .ints (flat ps)⟩, some ⟨.view, .ints (flat qs)⟩]⟩) := by kernel_rfl
set_option maxRecDepth 100000 in
theorem nl_eqPts : loopsOf c_eqPts = [] := by kernel_rfl
def inv_eqPts (ps : List Pt) (qs : List Pt) : Nat → Prop := fun i => i ≤ ps.length ∧ ps.length = qs.length
def me_eqPts (ps : List Pt) (qs : List Pt) : Nat → Nat := fun i => ps.length - i
def Round_eqPts (ps : List Pt) (qs : List Pt) : Prop := ∀ xx : Nat, inv_eqPts ps qs xx → (bodyL Try.prog E3 30 12 noL 1 c_eqPts k_eqPts 2 (s_eqPts ps qs xx)).ok (RoundEnd 2 (s_eqPts ps qs) (inv_eqPts ps qs) (me_eqPts ps qs) (re_eqPts ps qs) (rs_eqPts ps qs) xx) (fun _ _ => False)
def e_eqPts (s : St) (k : Ex → St → Tree) : Option Tree := match Nat.beq s.tmps.length 27, pickL s.tmps [0, 1, 5], s.mem with
  | true, [ß 0 n _, ß 1 m _, .int .i64 i], [some ⟨.view, .ints xs⟩, some ⟨.view, .ints ys⟩] => some (needs [i = 0, m = n, xs.length = n * 2, ys.length = n * 2, n ≤ 1000000000] (brT (eqL (ptsA n xs) (ptsA n ys)) (k (.exit 0) ⟨(ω27 []), [some ⟨.view, .ints xs⟩, some ⟨.view, .ints ys⟩]⟩) (k .ret ⟨(ω4 .bool false :: ω22 []), [some ⟨.view, .ints xs⟩, some ⟨.view, .ints ys⟩]⟩)))
  | _, _, _ => none
set_option maxRecDepth 100000 in
theorem round_eqPts (ps qs : List Pt) (h : ps.length ≤ 1000000000) : Round_eqPts ps qs := by
  rintro i ⟨h1, h2⟩
  rw [tr_eqPts]
  simp only [brT_ok, Tree.ok, decide_eq_true_eq, decide_eq_false_iff_not, Int.toNat_natCast, Nat.zero_add, flat_length, flat_get0, flat_get1, Bool.not_eq_true', Bool.not_eq_false', beq_iff_eq, beq_eq_false_iff_ne]
  refine ⟨fun hlt => ?_, fun hge => ?_⟩
  · have hd1 := drop_cons (l := ps) (k := i) (by omega) (0, 0)
    have hd2 := drop_cons (l := qs) (k := i) (by omega) (0, 0)
    have ne : ps.getD i (0, 0) ≠ qs.getD i (0, 0) → decide (ps.drop i = qs.drop i) = false := fun hne => by
      rw [hd1, hd2]
      simp only [List.cons.injEq, decide_eq_false_iff_not]
      exact fun h => hne h.1
    refine ⟨fun hv => ⟨by omega, by omega, by omega, by omega, ?_⟩, fun hv => ⟨fun hv2 => ⟨by omega, by omega, by omega, by omega, ?_⟩, fun hv2 => ⟨by omega, by omega, by omega, by omega, ?_⟩⟩⟩
    · have e := ne fun h => hv (by rw [h])
      refine ⟨by simp only [re_eqPts, e, cond_false], [], ?_⟩
      simp only [rs_eqPts, e, cond_false]
      repeat' (first | exact True.intro | exact rfl | exact fun _ => rfl | refine And.intro ?_ ?_)
    · have e := ne fun h => hv2 (by rw [h])
      refine ⟨by simp only [re_eqPts, e, cond_false], [], ?_⟩
      simp only [rs_eqPts, e, cond_false]
      repeat' (first | exact True.intro | exact rfl | exact fun _ => rfl | refine And.intro ?_ ?_)
    · have hp : ps.getD i (0, 0) = qs.getD i (0, 0) := Prod.ext hv hv2
      have e : decide (ps.drop i = qs.drop i) = decide (ps.drop (i + 1) = qs.drop (i + 1)) := by
        rw [hd1, hd2, hp]
        simp
      rw [wsucc (n := ps.length) (by omega) h]
      refine ⟨i + 1, [], ⟨by omega, h2⟩, ?_, by simp only [re_eqPts, e], by simp only [rs_eqPts, e], ?_⟩
      · show ps.length - (i + 1) < ps.length - i; omega
      · repeat' (first | exact True.intro | exact rfl | exact fun _ => rfl | refine And.intro ?_ ?_)
  · have e : decide (ps.drop i = qs.drop i) = true := by rw [List.drop_of_length_le (by omega), List.drop_of_length_le (by omega)]; rfl
    refine ⟨by simp only [re_eqPts, e, cond_true], [], ?_⟩
    simp only [rs_eqPts, e, cond_true]
    repeat' (first | exact True.intro | exact rfl | exact fun _ => rfl | refine And.intro ?_ ?_)
set_option maxRecDepth 100000 in
theorem lg_eqPts : LoopE Try.prog e_eqPts c_eqPts := by
  intro s k t F H hlt ht
  unfold e_eqPts at hlt
  split at hlt
  rotate_left
  · cases hlt
  rename_i hlen hpick hmem
  obtain ⟨tmps, mem⟩ := s
  simp only at hlen hpick hmem
  subst hmem
  obtain rfl := Option.some.inj hlt
  obtain ⟨⟨rfl, rfl, h1, h2, h3, _⟩, ht2⟩ := needs_ok ht
  clear ht hlt
  obtain ⟨ps, rfl, rfl⟩ := even_flat h1
  obtain ⟨qs, rfl, hq⟩ := even_flat h2
  rw [ptsA_flat, ← hq, ptsA_flat] at ht2
  refine ⟨_, _, pick2k ht2, loop_run mixed E3_ok (s_eqPts ps qs) (inv_eqPts ps qs) (me_eqPts ps qs) (re_eqPts ps qs) (rs_eqPts ps qs) k_eqPts (fun _ => rfl) (noLoops nl_eqPts) (round_eqPts ps qs h3) (x := 0) ⟨Nat.zero_le _, hq.symm⟩ (π := []) rfl ?_⟩
  refine ⟨rfl, rfl, ?_, wvs_spread' [0, 1, 5] hlen rfl ?_⟩
  · repeat' (first | exact True.intro | exact rfl | exact wv_top _ _ | exact fun _ => rfl | assumption | exact Eq.symm (by assumption) | exact vI0 rfl | refine And.intro ?_ ?_)
  · rw [hpick]
    repeat' (first | exact True.intro | exact rfl | exact wv_top _ _ | exact fun _ => rfl | assumption | exact Eq.symm (by assumption) | exact vI0 rfl | refine And.intro ?_ ?_)
noncomputable def c_specCW : Code := ((loopsOf (codeOf Try.f33))[0]?).getD .skip
def k_specCW : Ex → List Nat := keeps [0, 2, 4, 7, 8] [(0, [7])] [6]
def s_specCW (ps : List Pt) (x y n : Int) : Nat × Int → St := fun (i, o) => ⟨(ß 0 ps.length ps.length :: topV :: .int .i64 n :: topV :: .pointer (some ⟨3, 0, none⟩) :: topV :: topV :: .int .i64 o :: .int .i64 i :: ω25 []), [some ⟨.view, .ints (flat ps)⟩, none, none, some ⟨.box, .vals [.int .i64 x, .int .i64 y]⟩]⟩
def re_specCW : Nat × Int → Ex := fun _ => .exit 0
def rs_specCW (ps : List Pt) (x y n : Int) : Nat × Int → St := fun (i, o) => ⟨(ω7 .int .i64 (o + cnt n (x, y) (ps.drop i)) :: ω26 []), [some ⟨.view, .ints (flat ps)⟩, none, none, some ⟨.box, .vals [.int .i64 x, .int .i64 y]⟩]⟩
set_option maxRecDepth 100000 in
theorem tr_specCW (ps : List Pt) (x y n : Int) (i : Nat) (o : Int) : bodyL Try.prog E3 30 12 noL 1 c_specCW k_specCW 4 (s_specCW ps x y n (i, o)) = brT (decide ((↑i : Int) < (↑ps.length : Int))) (.need ((0 : Int) ≤ (↑i : Int) ∧ (↑i : Int) < (↑ps.length : Int)) (.need ((0 : Nat) + (↑i : Int).toNat * (2 : Nat) + (2 : Nat) ≤ (flat ps).length) (brT (decide (ŵ (ŵ (ŵ ((flat ps).getD (0 + (↑i : Int).toNat * 2) 0 - x) * ŵ ((flat ps).getD (0 + (↑i : Int).toNat * 2) 0 - x)) + ŵ (ŵ ((flat ps).getD (0 + (↑i : Int).toNat * 2 + 1) 0 - y) * ŵ ((flat ps).getD (0 + (↑i : Int).toNat * 2 + 1) 0 - y))) ≤ n)) (.leaf .normal ⟨(ß 0 (ps.length) (ps.length) :: topV :: .int .i64 (n) :: topV :: .pointer (some ⟨3, 0, none⟩) :: topV :: topV :: .int .i64 (ŵ (o + 1)) :: .int .i64 (ŵ ((↑i : Int) + 1)) :: ω25 []), [some ⟨.view, .ints (flat ps)⟩, none, none, some ⟨.box, .vals [.int .i64 (x), .int .i64 (y)]⟩]⟩) (.leaf .normal ⟨(ß 0 (ps.length) (ps.length) :: topV :: .int .i64 (n) :: topV :: .pointer (some ⟨3, 0, none⟩) :: topV :: topV :: .int .i64 (o) :: .int .i64 (ŵ ((↑i : Int) + 1)) :: ω25 []), [some ⟨.view, .ints (flat ps)⟩, none, none, some ⟨.box, .vals [.int .i64 (x), .int .i64 (y)]⟩]⟩)))) (.leaf (.exit 0) ⟨(ω7 .int .i64 (o) :: ω26 []), [some ⟨.view, .ints (flat ps)⟩, none, none, some ⟨.box, .vals [.int .i64 (x), .int .i64 (y)]⟩]⟩) := by kernel_rfl
set_option maxRecDepth 100000 in
theorem nl_specCW : loopsOf c_specCW = [] := by kernel_rfl
def inv_specCW (ps : List Pt) (x y n : Int) : Nat × Int → Prop := fun (i, o) => i ≤ ps.length ∧ 0 ≤ o ∧ o ≤ i
def me_specCW (ps : List Pt) (x y n : Int) : Nat × Int → Nat := fun (i, o) => ps.length - i
def Round_specCW (ps : List Pt) (x y n : Int) : Prop := ∀ xx : Nat × Int, inv_specCW ps x y n xx → (bodyL Try.prog E3 30 12 noL 1 c_specCW k_specCW 4 (s_specCW ps x y n xx)).ok (RoundEnd 4 (s_specCW ps x y n) (inv_specCW ps x y n) (me_specCW ps x y n) re_specCW (rs_specCW ps x y n) xx) (fun _ _ => False)
def e_specCW (s : St) (k : Ex → St → Tree) : Option Tree := match Nat.beq s.tmps.length 34, pickL s.tmps [0, 2, 4, 7, 8], s.mem with
  | true, [ß 0 m _, .int .i64 n, .pointer (some ⟨3, 0, none⟩), .int .i64 o, .int .i64 i], [some ⟨.view, .ints xs⟩, none, none, some ⟨.box, .vals [.int .i64 x, .int .i64 y]⟩] => some (needs [i = 0, o = 0, xs.length = m * 2, m ≤ 20, allV (ptsA m xs) = true, ptB x y = true] (k (.exit 0) ⟨(ω7 .int .i64 (0 + cnt n (x, y) (ptsA m xs)) :: ω26 []), [some ⟨.view, .ints xs⟩, none, none, some ⟨.box, .vals [.int .i64 x, .int .i64 y]⟩]⟩))
  | _, _, _ => none
set_option maxRecDepth 100000 in
theorem round_specCW (ps : List Pt) (x y n : Int) (h : ps.length ≤ 20) (hv : allV ps = true) (hq : ptB x y = true) : Round_specCW ps x y n := by
  rintro ⟨i, o⟩ ⟨h1, h2, h3⟩
  rw [tr_specCW]
  have b := allV_get hv i
  have hq : -1000 ≤ x ∧ x ≤ 1000 ∧ -1000 ≤ y ∧ y ≤ 1000 := by simpa [ptB] using hq
  have m1 := mul_bd (x := (ps.getD i (0, 0)).1 - x) (y := (ps.getD i (0, 0)).1 - x) 2000 2000 (by omega) (by omega)
  have m2 := mul_bd (x := (ps.getD i (0, 0)).2 - y) (y := (ps.getD i (0, 0)).2 - y) 2000 2000 (by omega) (by omega)
  simp only [brT_ok, Tree.ok, decide_eq_true_eq, decide_eq_false_iff_not, Int.toNat_natCast, Nat.zero_add, flat_length, flat_get0, flat_get1]
  refine ⟨fun hlt => ⟨by omega, by omega, ?_⟩, fun hge => ?_⟩
  · rw [wsucc (n := ps.length) (by omega) (by omega)]
    simp (disch := omega) only [wr]
    refine ⟨fun hle => ?_, fun hle => ?_⟩
    · have hc := cnt_yes (ps := ps) (i := i) (by omega) n (x, y) hle
      refine ⟨(i + 1, o + 1), [], ⟨by omega, by omega, by omega⟩, ?_, rfl, by simp only [rs_specCW, hc]; rw [show o + 1 + cnt n (x, y) (ps.drop (i + 1)) = o + (cnt n (x, y) (ps.drop (i + 1)) + 1) by omega], ?_⟩
      · show ps.length - (i + 1) < ps.length - i; omega
      · repeat' (first | exact True.intro | exact rfl | exact fun _ => rfl | refine And.intro ?_ ?_)
    · have hc := cnt_no (ps := ps) (i := i) (by omega) n (x, y) hle
      refine ⟨(i + 1, o), [], ⟨by omega, by omega, by omega⟩, ?_, rfl, by simp only [rs_specCW, hc], ?_⟩
      · show ps.length - (i + 1) < ps.length - i; omega
      · repeat' (first | exact True.intro | exact rfl | exact fun _ => rfl | refine And.intro ?_ ?_)
  · refine ⟨rfl, [], ?_⟩
    simp only [rs_specCW, cnt_end (ps := ps) (i := i) (by omega) n (x, y), Int.add_zero]
    repeat' (first | exact True.intro | exact rfl | exact fun _ => rfl | refine And.intro ?_ ?_)
set_option maxRecDepth 100000 in
theorem lg_specCW : LoopE Try.prog e_specCW c_specCW := by
  intro s k t F H hlt ht
  unfold e_specCW at hlt
  split at hlt
  rotate_left
  · cases hlt
  rename_i hlen hpick hmem
  obtain ⟨tmps, mem⟩ := s
  simp only at hlen hpick hmem
  subst hmem
  obtain rfl := Option.some.inj hlt
  obtain ⟨⟨rfl, rfl, h1, h3, h4, h5, _⟩, ht2⟩ := needs_ok ht
  clear ht hlt
  obtain ⟨ps, rfl, rfl⟩ := even_flat h1
  rw [ptsA_flat] at ht2 h4
  refine ⟨_, _, ht2, loop_run mixed E3_ok (s_specCW ps _ _ _) (inv_specCW ps _ _ _) (me_specCW ps _ _ _) re_specCW (rs_specCW ps _ _ _) k_specCW (fun _ => rfl) (noLoops nl_specCW) (round_specCW ps _ _ _ h3 h4 h5) (x := (0, 0)) ⟨Nat.zero_le _, Int.le_refl _, Int.le_refl _⟩ (π := []) rfl ?_⟩
  refine ⟨rfl, rfl, ?_, wvs_spread' [0, 2, 4, 7, 8] hlen rfl ?_⟩
  · repeat' (first | exact True.intro | exact rfl | exact wv_top _ _ | exact fun _ => rfl | assumption | exact Eq.symm (by assumption) | exact vI0 rfl | refine And.intro ?_ ?_)
  · rw [hpick]
    repeat' (first | exact True.intro | exact rfl | exact wv_top _ _ | exact fun _ => rfl | assumption | exact Eq.symm (by assumption) | exact vI0 rfl | refine And.intro ?_ ?_)
noncomputable def c_implCW : Code := ((loopsOf (codeOf Try.f32))[0]?).getD .skip
def k_implCW : Ex → List Nat := keeps [2, 4, 7, 18, 19, 20] [(0, [7])] [6]
def s_implCW (ps : List Pt) (x y n : Int) : Nat × Int → St := fun (i, o) => ⟨(topV :: topV :: .int .i64 n :: topV :: .pointer (some ⟨3, 0, none⟩) :: topV :: topV :: .int .i64 o :: ω10 ß 0 ps.length ps.length :: .int .i64 ps.length :: .int .i64 i :: ω12 []), [some ⟨.view, .ints (flat ps)⟩, none, none, some ⟨.box, .vals [.int .i64 x, .int .i64 y]⟩]⟩
def re_implCW : Nat × Int → Ex := fun _ => .exit 0
def rs_implCW (ps : List Pt) (x y n : Int) : Nat × Int → St := fun (i, o) => ⟨(ω7 .int .i64 (o + cnt n (x, y) (ps.drop i)) :: ω25 []), [some ⟨.view, .ints (flat ps)⟩, none, none, some ⟨.box, .vals [.int .i64 x, .int .i64 y]⟩]⟩
set_option maxRecDepth 100000 in
theorem tr_implCW (ps : List Pt) (x y n : Int) (i : Nat) (o : Int) : bodyL Try.prog E3 30 12 noL 1 c_implCW k_implCW 4 (s_implCW ps x y n (i, o)) = brT (decide ((↑i : Int) < (↑ps.length : Int))) (.need ((0 : Int) ≤ (↑i : Int) ∧ (↑i : Int) < (↑ps.length : Int)) (.need ((0 : Nat) + (↑i : Int).toNat * (2 : Nat) + (2 : Nat) ≤ (flat ps).length) (brT (!(ptB ((flat ps).getD (0 + (↑i : Int).toNat * 2) 0) ((flat ps).getD (0 + (↑i : Int).toNat * 2 + 1) 0) && ptB x y)) (brT (decide (-1 ≤ n)) (.leaf .normal ⟨(topV :: topV :: .int .i64 (n) :: topV :: .pointer (some ⟨3, 0, none⟩) :: topV :: topV :: .int .i64 (ŵ (o + 1)) :: ω10 ß 0 (ps.length) (ps.length) :: .int .i64 ((↑ps.length : Int)) :: .int .i64 (ŵ ((↑i : Int) + 1)) :: ω12 []), [some ⟨.view, .ints (flat ps)⟩, none, none, some ⟨.box, .vals [.int .i64 (x), .int .i64 (y)]⟩]⟩) (.leaf .normal ⟨(topV :: topV :: .int .i64 (n) :: topV :: .pointer (some ⟨3, 0, none⟩) :: topV :: topV :: .int .i64 (o) :: ω10 ß 0 (ps.length) (ps.length) :: .int .i64 ((↑ps.length : Int)) :: .int .i64 (ŵ ((↑i : Int) + 1)) :: ω12 []), [some ⟨.view, .ints (flat ps)⟩, none, none, some ⟨.box, .vals [.int .i64 (x), .int .i64 (y)]⟩]⟩)) (brT (decide (ŵ (ŵ (ŵ ((flat ps).getD (0 + (↑i : Int).toNat * 2) 0 - x) * ŵ ((flat ps).getD (0 + (↑i : Int).toNat * 2) 0 - x)) + ŵ (ŵ ((flat ps).getD (0 + (↑i : Int).toNat * 2 + 1) 0 - y) * ŵ ((flat ps).getD (0 + (↑i : Int).toNat * 2 + 1) 0 - y))) ≤ n)) (.leaf .normal ⟨(topV :: topV :: .int .i64 (n) :: topV :: .pointer (some ⟨3, 0, none⟩) :: topV :: topV :: .int .i64 (ŵ (o + 1)) :: ω10 ß 0 (ps.length) (ps.length) :: .int .i64 ((↑ps.length : Int)) :: .int .i64 (ŵ ((↑i : Int) + 1)) :: ω12 []), [some ⟨.view, .ints (flat ps)⟩, none, none, some ⟨.box, .vals [.int .i64 (x), .int .i64 (y)]⟩]⟩) (.leaf .normal ⟨(topV :: topV :: .int .i64 (n) :: topV :: .pointer (some ⟨3, 0, none⟩) :: topV :: topV :: .int .i64 (o) :: ω10 ß 0 (ps.length) (ps.length) :: .int .i64 ((↑ps.length : Int)) :: .int .i64 (ŵ ((↑i : Int) + 1)) :: ω12 []), [some ⟨.view, .ints (flat ps)⟩, none, none, some ⟨.box, .vals [.int .i64 (x), .int .i64 (y)]⟩]⟩))))) (.leaf (.exit 0) ⟨(ω7 .int .i64 (o) :: ω25 []), [some ⟨.view, .ints (flat ps)⟩, none, none, some ⟨.box, .vals [.int .i64 (x), .int .i64 (y)]⟩]⟩) := by kernel_rfl
set_option maxRecDepth 100000 in
theorem nl_implCW : loopsOf c_implCW = [] := by kernel_rfl
def inv_implCW (ps : List Pt) (x y n : Int) : Nat × Int → Prop := fun (i, o) => i ≤ ps.length ∧ 0 ≤ o ∧ o ≤ i
def me_implCW (ps : List Pt) (x y n : Int) : Nat × Int → Nat := fun (i, o) => ps.length - i
def Round_implCW (ps : List Pt) (x y n : Int) : Prop := ∀ xx : Nat × Int, inv_implCW ps x y n xx → (bodyL Try.prog E3 30 12 noL 1 c_implCW k_implCW 4 (s_implCW ps x y n xx)).ok (RoundEnd 4 (s_implCW ps x y n) (inv_implCW ps x y n) (me_implCW ps x y n) re_implCW (rs_implCW ps x y n) xx) (fun _ _ => False)
def e_implCW (s : St) (k : Ex → St → Tree) : Option Tree := match Nat.beq s.tmps.length 33, pickL s.tmps [2, 4, 7, 18, 19, 20], s.mem with
  | true, [.int .i64 n, .pointer (some ⟨3, 0, none⟩), .int .i64 o, ß 0 m _, .int .i64 l, .int .i64 i], [some ⟨.view, .ints xs⟩, none, none, some ⟨.box, .vals [.int .i64 x, .int .i64 y]⟩] => some (needs [i = 0, o = 0, l = m, xs.length = m * 2, m ≤ 20, allV (ptsA m xs) = true, ptB x y = true] (k (.exit 0) ⟨(ω7 .int .i64 (0 + cnt n (x, y) (ptsA m xs)) :: ω25 []), [some ⟨.view, .ints xs⟩, none, none, some ⟨.box, .vals [.int .i64 x, .int .i64 y]⟩]⟩))
  | _, _, _ => none
set_option maxRecDepth 100000 in
theorem round_implCW (ps : List Pt) (x y n : Int) (h : ps.length ≤ 20) (hv : allV ps = true) (hq : ptB x y = true) : Round_implCW ps x y n := by
  rintro ⟨i, o⟩ ⟨h1, h2, h3⟩
  rw [tr_implCW]
  have b := allV_get hv i
  have hpt : ptB (ps.getD i (0, 0)).1 (ps.getD i (0, 0)).2 = true := by simpa [ptB] using b
  have hq2 : -1000 ≤ x ∧ x ≤ 1000 ∧ -1000 ≤ y ∧ y ≤ 1000 := by simpa [ptB] using hq
  have m1 := mul_bd (x := (ps.getD i (0, 0)).1 - x) (y := (ps.getD i (0, 0)).1 - x) 2000 2000 (by omega) (by omega)
  have m2 := mul_bd (x := (ps.getD i (0, 0)).2 - y) (y := (ps.getD i (0, 0)).2 - y) 2000 2000 (by omega) (by omega)
  simp only [Int.toNat_natCast, Nat.zero_add, flat_length, flat_get0, flat_get1, hpt, hq, Bool.and_self, Bool.not_true, brT_f]
  simp only [brT_ok, Tree.ok, decide_eq_true_eq, decide_eq_false_iff_not]
  refine ⟨fun hlt => ⟨by omega, by omega, ?_⟩, fun hge => ?_⟩
  · rw [wsucc (n := ps.length) (by omega) (by omega)]
    simp (disch := omega) only [wr]
    refine ⟨fun hle => ?_, fun hle => ?_⟩
    · have hc := cnt_yes (ps := ps) (i := i) (by omega) n (x, y) hle
      refine ⟨(i + 1, o + 1), [], ⟨by omega, by omega, by omega⟩, ?_, rfl, by simp only [rs_implCW, hc]; rw [show o + 1 + cnt n (x, y) (ps.drop (i + 1)) = o + (cnt n (x, y) (ps.drop (i + 1)) + 1) by omega], ?_⟩
      · show ps.length - (i + 1) < ps.length - i; omega
      · repeat' (first | exact True.intro | exact rfl | exact fun _ => rfl | refine And.intro ?_ ?_)
    · have hc := cnt_no (ps := ps) (i := i) (by omega) n (x, y) hle
      refine ⟨(i + 1, o), [], ⟨by omega, by omega, by omega⟩, ?_, rfl, by simp only [rs_implCW, hc], ?_⟩
      · show ps.length - (i + 1) < ps.length - i; omega
      · repeat' (first | exact True.intro | exact rfl | exact fun _ => rfl | refine And.intro ?_ ?_)
  · refine ⟨rfl, [], ?_⟩
    simp only [rs_implCW, cnt_end (ps := ps) (i := i) (by omega) n (x, y), Int.add_zero]
    repeat' (first | exact True.intro | exact rfl | exact fun _ => rfl | refine And.intro ?_ ?_)
set_option maxRecDepth 100000 in
theorem lg_implCW : LoopE Try.prog e_implCW c_implCW := by
  intro s k t F H hlt ht
  unfold e_implCW at hlt
  split at hlt
  rotate_left
  · cases hlt
  rename_i hlen hpick hmem
  obtain ⟨tmps, mem⟩ := s
  simp only at hlen hpick hmem
  subst hmem
  obtain rfl := Option.some.inj hlt
  obtain ⟨⟨rfl, rfl, rfl, h1, h3, h4, h5, _⟩, ht2⟩ := needs_ok ht
  clear ht hlt
  obtain ⟨ps, rfl, rfl⟩ := even_flat h1
  rw [ptsA_flat] at ht2 h4
  refine ⟨_, _, ht2, loop_run mixed E3_ok (s_implCW ps _ _ _) (inv_implCW ps _ _ _) (me_implCW ps _ _ _) re_implCW (rs_implCW ps _ _ _) k_implCW (fun _ => rfl) (noLoops nl_implCW) (round_implCW ps _ _ _ h3 h4 h5) (x := (0, 0)) ⟨Nat.zero_le _, Int.le_refl _, Int.le_refl _⟩ (π := []) rfl ?_⟩
  refine ⟨rfl, rfl, ?_, wvs_spread' [2, 4, 7, 18, 19, 20] hlen rfl ?_⟩
  · repeat' (first | exact True.intro | exact rfl | exact wv_top _ _ | exact fun _ => rfl | assumption | exact Eq.symm (by assumption) | exact vI0 rfl | refine And.intro ?_ ?_)
  · rw [hpick]
    repeat' (first | exact True.intro | exact rfl | exact wv_top _ _ | exact fun _ => rfl | assumption | exact Eq.symm (by assumption) | exact vI0 rfl | refine And.intro ?_ ?_)
def L4 : FuncId → LT := fun f => match f with
  | 24 => lt1 e_toPts
  | 26 => lt1 e_eqPts
  | 33 => lt1 e_specCW
  | 32 => lt1 e_implCW
  | _ => noL
def E4 : Env := mkE (T2) (fun _ _ => none) (L4)
theorem code_of {f : FuncId} {fn g : Func} (h : Try.prog.funcs[f]? = some g) (hf : Try.prog.funcs[f]? = some fn) : g = fn := by rw [h] at hf; simpa using hf
theorem Lr_toPts {fn : Func} (hf : Try.prog.funcs[24]? = some fn) : LoopsGood Try.prog (lt1 e_toPts) 0 (codeOf fn) := by
  obtain rfl := code_of Try.func24 hf
  exact lt1_good lg_toPts
theorem Lr_eqPts {fn : Func} (hf : Try.prog.funcs[26]? = some fn) : LoopsGood Try.prog (lt1 e_eqPts) 0 (codeOf fn) := by
  obtain rfl := code_of Try.func26 hf
  exact lt1_good lg_eqPts
theorem Lr_specCW {fn : Func} (hf : Try.prog.funcs[33]? = some fn) : LoopsGood Try.prog (lt1 e_specCW) 0 (codeOf fn) := by
  obtain rfl := code_of Try.func33 hf
  exact lt1_good lg_specCW
theorem Lr_implCW {fn : Func} (hf : Try.prog.funcs[32]? = some fn) : LoopsGood Try.prog (lt1 e_implCW) 0 (codeOf fn) := by
  obtain rfl := code_of Try.func32 hf
  exact lt1_good lg_implCW
theorem L4_ok : ∀ f fn, Try.prog.funcs[f]? = some fn → LoopsGood Try.prog (L4 f) 0 (codeOf fn) := by
  intro f fn hf
  unfold L4
  split
  all_goals first | with_reducible exact Lr_toPts hf | with_reducible exact Lr_eqPts hf | with_reducible exact Lr_specCW hf | with_reducible exact Lr_implCW hf | exact noL_good
theorem E4_ok : EnvOk Try.prog E4 := mkEOk (T2_ok) (fun _ _ _ _ _ h => (by cases h)) (L4_ok)
set_option maxRecDepth 100000 in
theorem tr_toPointS (ps : List Pt) : bodyX Try.prog E4 30 12 24 [.row ps.length (.ints (flat ps))] = .need ((0 : Int) ≤ (↑ps.length : Int) ∧ (↑ps.length : Int) ≤ (↑ps.length : Int) ∧ (16 : Nat) * (↑ps.length : Int).toNat ≤ (281474976710656 : Nat) ∧ (↑ps.length : Int) ≤ (9223372036854775807 : Int)) (.need ((0 : Int) = (0 : Int)) (.need ((↑ps.length : Int).toNat = ps.length) (.need ((flat ps).length = ps.length * (2 : Nat)) (.need ((List.replicate ((↑ps.length : Int).toNat * (2 : Nat)) (0 : Int)).length = ps.length * (2 : Nat)) (.need (ps.length ≤ (1000000000 : Nat)) (.fin (ß 1 ((↑ps.length : Int).toNat) ((↑ps.length : Int).toNat)) [some ⟨.view, .ints (flat ps)⟩, some ⟨.row 32 2, .ints (flat ps)⟩])))))) := by kernel_rfl
set_option maxRecDepth 100000 in
theorem tr_eqPointS (ps qs : List Pt) : bodyX Try.prog E4 30 12 26 [.row ps.length (.ints (flat ps)), .row qs.length (.ints (flat qs))] = brT (!(↑ps.length : Int) == (↑qs.length : Int)) (.fin (.bool (false)) [some ⟨.view, .ints (flat ps)⟩, some ⟨.view, .ints (flat qs)⟩]) (.need ((0 : Int) = (0 : Int)) (.need (qs.length = ps.length) (.need ((flat ps).length = ps.length * (2 : Nat)) (.need ((flat qs).length = ps.length * (2 : Nat)) (.need (ps.length ≤ (1000000000 : Nat)) (brT (eqL (ptsA ps.length (flat ps)) (ptsA ps.length (flat qs))) (.fin (.bool (true)) [some ⟨.view, .ints (flat ps)⟩, some ⟨.view, .ints (flat qs)⟩]) (.fin (.bool (false)) [some ⟨.view, .ints (flat ps)⟩, some ⟨.view, .ints (flat qs)⟩]))))))) := by kernel_rfl
set_option maxRecDepth 100000 in
theorem tr_specCount (ps : List Pt) (x y n : Int) : bodyX Try.prog E4 30 12 33 [.row ps.length (.ints (flat ps)), .v (.agg #[iv x, iv y]), .v (iv n)] = .need (ps.length * (2 : Nat) ≤ (List.drop 0 (flat ps)).length) (.need (ps.length ≤ (1000000000 : Nat)) (brT (!okL (ptsA ps.length (List.drop 0 (flat ps)))) (.fin (.int .i64 (-1)) [some ⟨.view, .ints (flat ps)⟩, none, none, some ⟨.box, .vals [.int .i64 (x), .int .i64 (y)]⟩]) (brT (!ptB x y) (.fin (.int .i64 (-1)) [some ⟨.view, .ints (flat ps)⟩, none, none, some ⟨.box, .vals [.int .i64 (x), .int .i64 (y)]⟩]) (.need ((0 : Int) = (0 : Int)) (.need ((0 : Int) = (0 : Int)) (.need ((flat ps).length = ps.length * (2 : Nat)) (.need (ps.length ≤ (20 : Nat)) (.need (allV (ptsA ps.length (flat ps)) = true) (.need (ptB x y = true) (.fin (.int .i64 (0 + cnt n (x, y) (ptsA ps.length (flat ps)))) [some ⟨.view, .ints (flat ps)⟩, none, none, some ⟨.box, .vals [.int .i64 (x), .int .i64 (y)]⟩])))))))))) := by kernel_rfl
set_option maxRecDepth 100000 in
theorem tr_implCount (ps : List Pt) (x y n : Int) : bodyX Try.prog E4 30 12 32 [.row ps.length (.ints (flat ps)), .v (.agg #[iv x, iv y]), .v (iv n)] = brT (decide ((↑ps.length : Int) ≤ 20)) (.need (ps.length * (2 : Nat) ≤ (List.drop 0 (flat ps)).length) (.need (ps.length ≤ (1000000000 : Nat)) (brT (!allV (ptsA ps.length (List.drop 0 (flat ps)))) (.fin (.int .i64 (-1)) [some ⟨.view, .ints (flat ps)⟩, none, none, some ⟨.box, .vals [.int .i64 (x), .int .i64 (y)]⟩]) (brT (!ptB x y) (.fin (.int .i64 (-1)) [some ⟨.view, .ints (flat ps)⟩, none, none, some ⟨.box, .vals [.int .i64 (x), .int .i64 (y)]⟩]) (.need ((0 : Int) = (0 : Int)) (.need ((0 : Int) = (0 : Int)) (.need ((↑ps.length : Int) = (↑ps.length : Int)) (.need ((flat ps).length = ps.length * (2 : Nat)) (.need (ps.length ≤ (20 : Nat)) (.need (allV (ptsA ps.length (flat ps)) = true) (.need (ptB x y = true) (.fin (.int .i64 (0 + cnt n (x, y) (ptsA ps.length (flat ps)))) [some ⟨.view, .ints (flat ps)⟩, none, none, some ⟨.box, .vals [.int .i64 (x), .int .i64 (y)]⟩])))))))))))) (.fin (.int .i64 (-1)) [some ⟨.view, .ints (flat ps)⟩, none, none, some ⟨.box, .vals [.int .i64 (x), .int .i64 (y)]⟩]) := by kernel_rfl
theorem resR_toPointS (ps : List Pt) (h : Big ps) : ResR Try.prog 24 [.row ps.length (.ints (flat ps))] (ß 0 ps.length ps.length) ⟨.row 32 2, .ints (flat ps)⟩ := by
  refine bodyX_resR mixed E4_ok (m := 30) (n := 12) rfl ?_
  rw [tr_toPointS]
  unfold Big at h
  simp only [Tree.ok, flat_length, Int.toNat_natCast, List.length_replicate]
  exact ⟨by omega, trivial, trivial, trivial, trivial, h, some 1, ⟨rfl, rfl, rfl⟩, rfl, rfl, rfl⟩
theorem res_eqPointS (ps qs : List Pt) (h : Big ps) : Res Try.prog 26 [.row ps.length (.ints (flat ps)), .row qs.length (.ints (flat qs))] (.bool (eqL ps qs)) := by
  refine bodyX_res mixed E4_ok (m := 30) (n := 12) rfl ?_
  rw [tr_eqPointS]
  unfold Big at h
  by_cases hl : ps.length = qs.length
  · have e : ptsA ps.length (flat qs) = qs := by rw [hl, ptsA_flat]
    rw [e, ptsA_flat, show (!((ps.length : Int) == (qs.length : Int))) = false by simp [hl]]
    simp only [brT_f, Tree.ok, flat_length]
    refine ⟨trivial, hl.symm, trivial, by omega, h, ?_⟩
    cases eqL ps qs <;> rfl
  · have e : eqL ps qs = false := by
      unfold eqL
      rw [decide_eq_false_iff_not]
      rintro rfl
      exact hl rfl
    rw [show (!((ps.length : Int) == (qs.length : Int))) = true by simp; omega]
    simp only [brT_t, Tree.ok, e]
def cwV (ps : List Pt) (x y n : Int) : Int := bif okL ps && ptB x y then cnt n (x, y) ps else -1
theorem res_specCount (ps : List Pt) (x y n : Int) (h : Big ps) : Res Try.prog 33 [.row ps.length (.ints (flat ps)), .v (.agg #[iv x, iv y]), .v (iv n)] (iv (cwV ps x y n)) := by
  refine bodyX_res mixed E4_ok (m := 30) (n := 12) rfl ?_
  rw [tr_specCount]
  unfold Big at h
  simp only [List.drop_zero, ptsA_flat, flat_length, Int.zero_add]
  unfold cwV
  cases hk : okL ps
  · simp [Tree.ok, brT, h]
  · simp only [okL, Bool.and_eq_true, decide_eq_true_eq] at hk
    cases hq : ptB x y <;> simp [Tree.ok, brT, h, hk]
theorem res_implCount (ps : List Pt) (x y n : Int) (h : Big ps) : Res Try.prog 32 [.row ps.length (.ints (flat ps)), .v (.agg #[iv x, iv y]), .v (iv n)] (iv (cwV ps x y n)) := by
  refine bodyX_res mixed E4_ok (m := 30) (n := 12) rfl ?_
  rw [tr_implCount]
  unfold Big at h
  simp only [List.drop_zero, ptsA_flat, flat_length, Int.zero_add]
  unfold cwV okL
  by_cases hl : ps.length ≤ 20
  · have hl2 : (ps.length : Int) ≤ 20 := by omega
    cases hk : allV ps <;> cases hq : ptB x y <;> simp [Tree.ok, brT, h, hl, hl2]
  · have hl2 : ¬ (ps.length : Int) ≤ 20 := by omega
    simp [Tree.ok, brT, hl, hl2]
def pCW : List DArg → Option (Value × List Prop)
  | [.row m (.ints xs), .v (.agg ⟨[.int .i64 x, .int .i64 y]⟩), .v (.int .i64 n)] => some (iv (cwV (ptsA m xs) x y n), [m * 2 ≤ xs.length, m ≤ 1000000000])
  | _ => none
def pEq2 : List DArg → Option (Value × List Prop)
  | [.row m (.ints xs), .row n (.ints ys)] => some (.bool (eqL (ptsA m xs) (ptsA n ys)), [m * 2 ≤ xs.length, n * 2 ≤ ys.length, m ≤ 1000000000])
  | _ => none
def T3 : Tab := fun f ds => match f with
  | 26 => pEq2 ds
  | 33 => pCW ds
  | 32 => pCW ds
  | f => T2 f ds
theorem pCW_ok {f : FuncId} (h : ∀ (ps : List Pt) (x y n : Int), Big ps → Res Try.prog f [.row ps.length (.ints (flat ps)), .v (.agg #[iv x, iv y]), .v (iv n)] (iv (cwV ps x y n))) {ds : List DArg} {v : Value} {C : List Prop} (hd : pCW ds = some (v, C)) (hC : AllP C) : Res Try.prog f ds v := by
  unfold pCW at hd
  split at hd
  · rename_i m xs x y n
    obtain ⟨rfl, rfl⟩ : _ ∧ _ := by simpa using hd
    obtain ⟨_, h2⟩ := ptsA_spec hC.1
    exact res_pts1 (pre := []) (post := [_, _]) hC.1 (h (ptsA m xs) x y n (by unfold Big; rw [h2]; exact hC.2.1))
  · cases hd
theorem pEq2_ok {ds : List DArg} {v : Value} {C : List Prop} (h : pEq2 ds = some (v, C)) (hC : AllP C) : Res Try.prog 26 ds v := by
  unfold pEq2 at h
  split at h
  · rename_i m xs n ys
    obtain ⟨rfl, rfl⟩ : _ ∧ _ := by simpa using h
    obtain ⟨_, h2⟩ := ptsA_spec hC.1
    have h0 := res_eqPointS (ptsA m xs) (ptsA n ys) (by unfold Big; rw [h2]; exact hC.2.2.1)
    exact res_pts1 (pre := []) (post := [_]) hC.1 (res_pts1 (pre := [_]) (post := []) hC.2.1 h0)
  · cases h
theorem pCWs_ok {ds : List DArg} {v : Value} {C : List Prop} (h : pCW ds = some (v, C)) (hC : AllP C) : Res Try.prog 33 ds v := pCW_ok res_specCount h hC
theorem pCWi_ok {ds : List DArg} {v : Value} {C : List Prop} (h : pCW ds = some (v, C)) (hC : AllP C) : Res Try.prog 32 ds v := pCW_ok res_implCount h hC
theorem T3_ok : TabOk Try.prog T3 := by
  intro f ds v C h hC
  unfold T3 at h
  (try split at h)
  all_goals first | with_reducible exact pEq2_ok h hC | with_reducible exact pCWs_ok h hC | with_reducible exact pCWi_ok h hC | exact T2_ok _ _ _ _ h hC
def R4 : TabR := fun f ds => match f, ds with
  | 24, [.row n (.ints xs)] => some (ß 0 n n, ⟨.row 32 2, .ints (xs.take (n * 2))⟩, [n * 2 ≤ xs.length, n ≤ 1000000000])
  | _, _ => none
theorem R4_ok : TabROk Try.prog R4 := by
  intro f ds v b C h hC
  unfold R4 at h
  (try split at h)
  all_goals first
    | (rename_i n xs
       obtain ⟨rfl, rfl, rfl⟩ : _ ∧ _ ∧ _ := by simpa using h
       obtain ⟨h1, h2⟩ := ptsA_spec hC.1
       have h0 := resR_toPointS (ptsA n xs) (by unfold Big; rw [h2]; exact hC.2.1)
       have h3 := resR_pts1 (pre := []) (post := []) hC.1 h0
       rw [h2, ← h1] at h3
       exact h3)
    | cases h
def orT (A B : Tab) : Tab := fun f ds => match A f ds with
  | some x => some x
  | none => B f ds
theorem orT_ok {P : Program} {A B : Tab} (hA : TabOk P A) (hB : TabOk P B) : TabOk P (orT A B) := by
  intro f ds v C h hC
  unfold orT at h
  split at h
  · rename_i x hx
    obtain rfl : x = (v, C) := by simpa using h
    exact hA _ _ _ _ hx hC
  · exact hB _ _ _ _ h hC
def nxP (ps : List Pt) (j : Nat) : Pt := ps.getD ((j + 1) % ps.length) (0, 0)
def sgT (ps : List Pt) (j : Nat) : Int := (ps.getD j (0, 0)).1 * (nxP ps j).2 - (ps.getD j (0, 0)).2 * (nxP ps j).1
def sgA (ps : List Pt) : Nat → Int
  | 0 => 0
  | i + 1 => sgA ps i + sgT ps i
theorem allV_gt {ps : List Pt} (h : allV ps = true) {j : Nat} (hj : j < ps.length) : -1000 ≤ (ps.getD j (0, 0)).1 ∧ (ps.getD j (0, 0)).1 ≤ 1000 ∧ -1000 ≤ (ps.getD j (0, 0)).2 ∧ (ps.getD j (0, 0)).2 ≤ 1000 := by
  have := List.all_eq_true.1 h (ps.getD j (0, 0)) (by simp [hj])
  have := ptB_true this
  omega
theorem nx_lt {ps : List Pt} {j : Nat} (hj : j < ps.length) : (j + 1) % ps.length < ps.length := Nat.mod_lt _ (by omega)
theorem sgP_bd {ps : List Pt} (h : allV ps = true) {j : Nat} (hj : j < ps.length) : (-(1000 * 1000) ≤ (ps.getD j (0, 0)).1 * (nxP ps j).2 ∧ (ps.getD j (0, 0)).1 * (nxP ps j).2 ≤ 1000 * 1000) ∧ (-(1000 * 1000) ≤ (ps.getD j (0, 0)).2 * (nxP ps j).1 ∧ (ps.getD j (0, 0)).2 * (nxP ps j).1 ≤ 1000 * 1000) := by
  have a1 := allV_gt h hj
  have a2 := allV_gt h (nx_lt hj)
  unfold nxP
  exact ⟨mul_bd 1000 1000 (by omega) (by omega), mul_bd 1000 1000 (by omega) (by omega)⟩
theorem sgA_bd {ps : List Pt} (h : allV ps = true) : ∀ i, i ≤ ps.length → -(2000000 * (i : Int)) ≤ sgA ps i ∧ sgA ps i ≤ 2000000 * (i : Int)
  | 0, _ => by simp [sgA]
  | i + 1, hi => by
    have ih := sgA_bd h i (by omega)
    obtain ⟨b1, b2⟩ := sgP_bd h (j := i) (by omega)
    simp only [sgA, sgT]
    omega
def EGa : Env := tabE B0
theorem EGa_ok : EnvOk Try.prog EGa := tabE_ok B0_ok
noncomputable def gc_sga : Code := (rangesOf (codeOf Try.f47)).getD 0 .skip
def k_sga : Ex → List Nat := keeps [3, 7] [] []
def s_sga (ps : List Pt) : Nat → St := fun i => ⟨(ω3 .pointer (some ⟨1, 0, none⟩) :: ω3 .func (.func 84) #[] #[.pointer (some ⟨2, 0, none⟩)] :: ω10 []), [some ⟨.view, .ints (flat ps)⟩, some ⟨.box, .vals [.int .i64 (sgA ps i)]⟩, some ⟨.view, .vals [ß 0 ps.length ps.length]⟩]⟩
def g_sga (ps : List Pt) : Nat → Prop := fun i => i ≤ ps.length
def re_sga (ps : List Pt) : Ex := .normal
def rs_sga (ps : List Pt) : St := ⟨(ω3 .pointer (some ⟨1, 0, none⟩) :: ω14 []), [some ⟨.view, .ints (flat ps)⟩, some ⟨.box, .vals [.int .i64 (sgA ps ps.length)]⟩, some ⟨.view, .vals [ß 0 ps.length ps.length]⟩]⟩
set_option maxRecDepth 100000 in
theorem tr_sga (ps : List Pt) (i : Nat) : bodyR Try.prog EGa 30 12 noL noR (asgOf gc_sga) (bodOf gc_sga) ([8, 9].zip (encE ps i)) k_sga 3 (s_sga ps i) = .leaf .normal ⟨(ω3 .pointer (some ⟨1, 0, none⟩) :: ω3 .func (Fn.func 84) #[] #[.pointer (some ⟨2, 0, none⟩)] :: ω10 []), [some ⟨.view, .ints (flat ps)⟩, some ⟨.box, .vals [.int .i64 (ŵ (sgA ps i + ŵ (ŵ ((ps.getD i (0, 0)).1 * (ps.getD ((i + 1) % ps.length) (0, 0)).2) - ŵ ((ps.getD i (0, 0)).2 * (ps.getD ((i + 1) % ps.length) (0, 0)).1))))]⟩, some ⟨.view, .vals [ß 0 (ps.length) (ps.length)]⟩]⟩ := by kernel_rfl
def Round_sga (ps : List Pt) : Prop := ∀ i : Nat, g_sga ps i → i < (ps).length → (bodyR Try.prog EGa 30 12 noL noR (asgOf gc_sga) (bodOf gc_sga) ([8, 9].zip (encE ps i)) k_sga 3 (s_sga ps i)).ok (RoundEndR 3 (s_sga ps) (g_sga ps) (re_sga ps) (rs_sga ps) i) (fun _ _ => False)
set_option maxRecDepth 100000 in
theorem gcode_sga : gc_sga = .rangeFunc (.tmp 7) ([8, 9] : List Nat).toArray (asgOf gc_sga) (bodOf gc_sga) := by kernel_rfl
def e_sga (s : St) (k : Ex → St → Tree) : Option Tree := match Nat.beq s.tmps.length 18, pickL s.tmps [3, 7], s.mem with
  | true, [.pointer (some ⟨1, 0, none⟩), .func (.func 84) ⟨[]⟩ ⟨[.pointer (some ⟨2, 0, none⟩)]⟩], [some ⟨.view, .ints xs⟩, some ⟨.box, .vals [.int .i64 a0]⟩, some ⟨.box, .vals [ß 0 n _]⟩] => some (needs [a0 = 0, xs.length = n * 2, allV (ptsA n xs) = true, n ≤ 1000] (k .normal ⟨(ω3 .pointer (some ⟨1, 0, none⟩) :: ω14 []), [some ⟨.view, .ints xs⟩, some ⟨.box, .vals [.int .i64 (sgA (ptsA n xs) n)]⟩, some ⟨.view, .vals [ß 0 n n]⟩]⟩))
  | _, _, _ => none
set_option maxRecDepth 100000 in
theorem round_sga (ps : List Pt) (hv : allV ps = true) (h : ps.length ≤ 1000) : Round_sga ps := by
  intro i hg hi
  rw [tr_sga]
  have hb := sgA_bd hv i (by omega)
  obtain ⟨b1, b2⟩ := sgP_bd hv hi
  unfold nxP at b1 b2
  simp (disch := omega) only [wr]
  refine ⟨by show i + 1 ≤ ps.length; omega, [], ?_⟩
  refine ⟨rfl, rfl, ?_, ?_⟩ <;> repeat' (first | exact True.intro | exact rfl | exact wv_top _ _ | exact fun _ => rfl | refine And.intro ?_ ?_)
set_option maxRecDepth 100000 in
theorem lg_sga : RangeE Try.prog e_sga gc_sga := by
  intro s k t F H hlt ht
  unfold e_sga at hlt
  split at hlt
  rotate_left
  · cases hlt
  rename_i hlen hpick hmem
  obtain ⟨tmps, mem⟩ := s
  simp only at hlen hpick hmem
  subst hmem
  obtain rfl := Option.some.inj hlt
  obtain ⟨⟨rfl, h1, h2, h3, _⟩, ht2⟩ := needs_ok ht
  clear ht hlt
  obtain ⟨ps, rfl, rfl⟩ := even_flat h1
  rw [ptsA_flat] at ht2 h2
  refine ⟨re_sga ps, rs_sga ps, ht2, ?_⟩
  rw [gcode_sga]
  refine range_det (enc := encE ps) (len := (ps).length) (St_of := s_sga ps) (Good := g_sga ps) (N := 3) (M := 3) (Kn := [0, 2]) (cap := [.pointer (some ⟨2, 0, none⟩)]) (kf := (k_sga .normal)) (π := []) (fun _ => rfl) (fun _ => rfl) (fun i hg hlt => bodyR_ok mixed EGa_ok (noL_good) (noR_good) (round_sga ps h2 h3 i hg hlt)) (entersB_res (by kernel_rfl)).1 rfl ?_ (fun ρ0 ρ B w lb h1 h2 => ed_iter ps (by omega) (s := (s_sga ps 0).fs) (nb := 2) (nr := 0) (c := (ps).length) (Kn := [0, 2]) rfl rfl (by decide) (by decide) ρ0 ρ B w lb h1 h2) ?_ rfl (by decide) ?_ (Nat.zero_le _)
  · intro n hn b hb
    simp only [List.mem_cons, List.not_mem_nil, or_false] at hn
    rcases hn with rfl | rfl <;> (obtain rfl := Option.some.inj hb; rfl)
  · exact fun _ => ⟨rfl, [], by refine ⟨rfl, rfl, ?_, ?_⟩ <;> repeat' (first | exact True.intro | exact rfl | exact wv_top _ _ | exact fun _ => rfl | refine And.intro ?_ ?_)⟩
  · refine ⟨rfl, rfl, ?_, wvs_spread' [3, 7] hlen rfl ?_⟩
    · repeat' (first | exact True.intro | exact rfl | exact wv_top _ _ | exact fun _ => rfl | assumption | exact Eq.symm (by assumption) | exact vI0 rfl | refine And.intro ?_ ?_)
    · rw [show pickL (viewS [0, 2] ⟨tmps, _⟩).tmps [3, 7] = pickL tmps [3, 7] from rfl, hpick]
      repeat' (first | exact True.intro | exact rfl | exact wv_top _ _ | exact fun _ => rfl | assumption | exact Eq.symm (by assumption) | exact vI0 rfl | refine And.intro ?_ ?_)
theorem nx_mod {i n : Nat} (h : i < n) (hn : n ≤ 1000000000) : (ŵ ((i : Int) + 1)).tmod (n : Int) = (((i + 1) % n : Nat) : Int) := by
  rw [wsucc h hn, Int.tmod_eq_emod_of_nonneg (by omega)]
  omega
theorem Gr_sga {fn : Func} (hf : Try.prog.funcs[47]? = some fn) : RangesGood Try.prog (rt1 7 e_sga) (codeOf fn) := by
  obtain rfl := fn_is Try.func47 hf
  exact rt1_good (by kernel_rfl) lg_sga
def GSg : FuncId → RT := fun f => match f with
  | 47 => rt1 7 e_sga
  | _ => noR
def ESg : Env := withG (tabE B0) GSg
theorem ESg_ok : EnvOk Try.prog ESg := withG_ok (tabE_ok B0_ok) (by
  intro f fn hf
  unfold GSg
  split
  all_goals first | with_reducible exact Gr_sga hf | exact noR_good)
set_option maxRecDepth 100000 in
theorem tr_iSga (ps : List Pt) : bodyV Try.prog ESg 30 12 47 [.row ps.length (.ints (flat ps))] = .need ((0 : Int) = (0 : Int)) (.need ((flat ps).length = ps.length * (2 : Nat)) (.need (allV (ptsA ps.length (flat ps)) = true) (.need (ps.length ≤ (1000 : Nat)) (.fin (.int .i64 (sgA (ptsA ps.length (flat ps)) ps.length)) [])))) := by kernel_rfl
theorem res_iSga {ps : List Pt} (hv : allV ps = true) (h : ps.length ≤ 1000) : Res Try.prog 47 [.row ps.length (.ints (flat ps))] (iv (sgA ps ps.length)) := by
  refine bodyV_res mixed ESg_ok (m := 30) (n := 12) rfl ?_
  rw [tr_iSga]
  simp only [ptsA_flat]
  exact ⟨trivial, flat_length ps, hv, h, rfl⟩
def pSgb : List DArg → Option (Value × List Prop)
  | [.row m (.ints xs)] => some (iv (sgA (ptsA m xs) m), [m * 2 ≤ xs.length, allV (ptsA m xs) = true, m ≤ 1000])
  | _ => none
theorem pSgb_i {ds : List DArg} {v : Value} {C : List Prop} (h : pSgb ds = some (v, C)) (hC : AllP C) : Res Try.prog 47 ds v := by
  unfold pSgb at h
  split at h
  · rename_i m xs
    obtain ⟨rfl, rfl⟩ : _ ∧ _ := by simpa using h
    obtain ⟨_, h2⟩ := ptsA_spec hC.1
    have h7 := res_pts1 (pre := []) (post := []) hC.1 (res_iSga (ps := ptsA m xs) hC.2.1 (by rw [h2]; exact hC.2.2.1))
    rw [h2] at h7
    exact h7
  · cases h
def TSb : Tab := fun f ds => match f with
  | 47 => pSgb ds
  | _ => none
theorem TSb_ok : TabOk Try.prog TSb := by
  intro f ds v C h hC
  unfold TSb at h
  (try split at h)
  all_goals first | with_reducible exact pSgb_i h hC | with_reducible exact pSgb_s h hC | cases h
def crP (a b c : Pt) : Int := crossI a.1 a.2 b.1 b.2 c.1 c.2
def popN (st : List Pt) (p : Pt) : Nat → Nat
  | 0 => 0
  | 1 => 1
  | j + 2 => if crP (st.getD j (0, 0)) (st.getD (j + 1) (0, 0)) p ≤ 0 then popN st p (j + 1) else j + 2
def pushP (st : List Pt) (p : Pt) : List Pt := st.take (popN st p st.length) ++ [p]
def chn (st ps : List Pt) : List Pt := ps.foldl pushP st
theorem popN_le (st : List Pt) (p : Pt) : ∀ j, popN st p j ≤ j
  | 0 => Nat.le_refl _
  | 1 => Nat.le_refl _
  | j + 2 => by
    have := popN_le st p (j + 1)
    simp only [popN]
    split <;> omega
theorem pushP_len (st : List Pt) (p : Pt) : (pushP st p).length ≤ st.length + 1 := by
  unfold pushP
  simp
  omega
theorem allV_at {ps : List Pt} (h : allV ps = true) {j : Nat} (hj : j < ps.length) : ptB (ps.getD j (0, 0)).1 (ps.getD j (0, 0)).2 = true := List.all_eq_true.1 h (ps.getD j (0, 0)) (by simp [hj])
theorem allV_push {st : List Pt} {p : Pt} (h : allV st = true) (hp : ptB p.1 p.2 = true) : allV (pushP st p) = true := by
  unfold pushP
  refine List.all_eq_true.2 fun z hz => ?_
  rcases List.mem_append.1 hz with hz | hz
  · exact List.all_eq_true.1 h z (List.mem_of_mem_take hz)
  · obtain rfl : z = p := by simpa using hz
    exact hp
theorem allV_chn : ∀ {ps st : List Pt}, allV st = true → allV ps = true → allV (chn st ps) = true
  | [], _, h, _ => h
  | p :: r, st, h, hp => by
    have h1 : ptB p.1 p.2 = true := List.all_eq_true.1 hp p List.mem_cons_self
    have h2 : allV r = true := List.all_eq_true.2 fun z hz => List.all_eq_true.1 hp z (List.mem_cons_of_mem _ hz)
    show allV (chn (pushP st p) r) = true
    exact allV_chn (allV_push h h1) h2
theorem chn_len : ∀ (ps st : List Pt), (chn st ps).length ≤ st.length + ps.length
  | [], st => Nat.le_refl _
  | p :: r, st => by
    have h1 := chn_len r (pushP st p)
    have h2 := pushP_len st p
    simp only [chn, List.foldl_cons, List.length_cons] at h1 ⊢
    omega
theorem pushP_len1 (st : List Pt) (p : Pt) : (pushP st p).length = popN st p st.length + 1 := by
  have := popN_le st p st.length
  unfold pushP
  simp
  omega
def revP (ps : List Pt) : List Pt := ps.reverse
theorem getD_rev {ps : List Pt} {k : Nat} (h : k < ps.length) : ps.reverse.getD k (0, 0) = ps.getD (ps.length - 1 - k) (0, 0) := by
  simp [List.getD, h, show ps.length - 1 - k < ps.length by omega]
theorem ext_getD {a b : List Pt} (hl : a.length = b.length) (h : ∀ k, k < a.length → a.getD k (0, 0) = b.getD k (0, 0)) : a = b := by
  refine List.ext_getElem hl fun k h1 h2 => ?_
  have := h k h1
  simpa [List.getD, h1, h2] using this
def hulL (s : List Pt) : List Pt := if s.length < 3 then s else (chn [] s).take ((chn [] s).length - 1) ++ (chn [] (revP s)).take ((chn [] (revP s)).length - 1)
theorem chn_pos : ∀ {ps st : List Pt}, 0 < st.length ∨ 0 < ps.length → 0 < (chn st ps).length
  | [], st, h => by simpa [chn] using h
  | p :: r, st, _ => by
    have h1 := pushP_len1 st p
    have := chn_pos (ps := r) (st := pushP st p) (.inl (by omega))
    exact this
theorem allV_rev {ps : List Pt} (h : allV ps = true) : allV (revP ps) = true := List.all_eq_true.2 fun z hz => List.all_eq_true.1 h z (List.mem_reverse.1 hz)
theorem revP_len (ps : List Pt) : (revP ps).length = ps.length := List.length_reverse ..
theorem hul_two {s : List Pt} (h : s.length = 2) : (chn [] s).take ((chn [] s).length - 1) ++ (chn [] (revP s)).take ((chn [] (revP s)).length - 1) = s := by
  match s, h with
  | [a, b], _ => rfl
theorem popN_pos (st : List Pt) (p : Pt) : ∀ j, 1 ≤ j → 1 ≤ popN st p j
  | 0, h => by omega
  | 1, _ => Nat.le_refl _
  | j + 2, _ => by
    have := popN_pos st p (j + 1) (by omega)
    simp only [popN]
    split <;> omega
theorem chn_two : ∀ {ps st : List Pt}, 2 ≤ st.length ∨ (1 ≤ st.length ∧ 1 ≤ ps.length) → 2 ≤ (chn st ps).length
  | [], st, h => by
    show 2 ≤ st.length
    simpa using h
  | p :: r, st, h => by
    have h0 : 1 ≤ st.length := by omega
    have h1 := pushP_len1 st p
    have h2 := popN_pos st p st.length h0
    exact chn_two (ps := r) (st := pushP st p) (.inl (by omega))
theorem chn_ge {s : List Pt} (h : 2 ≤ s.length) : 2 ≤ (chn [] s).length := by
  match s, h with
  | a :: b :: r, _ => exact chn_two (ps := b :: r) (st := pushP [] a) (.inr ⟨by rw [pushP_len1]; exact Nat.le_add_left _ _, by simp⟩)
theorem hulL_len {s : List Pt} (h : s.length ≤ 20) : (hulL s).length ≤ 40 := by
  have c1 := chn_len s []
  have c2 := chn_len (revP s) []
  have r1 := revP_len s
  simp only [List.length_nil, Nat.zero_add] at c1 c2
  unfold hulL
  split
  · omega
  · simp only [List.length_append, List.length_take]
    omega
theorem allV_hul {s : List Pt} (h : allV s = true) : allV (hulL s) = true := by
  unfold hulL
  split
  · exact h
  · refine List.all_eq_true.2 fun z hz => ?_
    rcases List.mem_append.1 hz with hz | hz
    · exact List.all_eq_true.1 (allV_chn (ps := s) (st := []) rfl h) z (List.mem_of_mem_take hz)
    · exact List.all_eq_true.1 (allV_chn (ps := revP s) (st := []) rfl (allV_rev h)) z (List.mem_of_mem_take hz)
def posV (u : Pt) : Prop := 0 < u.1 ∨ u.1 = 0 ∧ 0 < u.2
def cr2 (u v : Pt) : Int := u.1 * v.2 - u.2 * v.1
def dif (b a : Pt) : Pt := (b.1 - a.1, b.2 - a.2)
theorem cr_tr {u v w : Pt} (hu : posV u) (hv : posV v) (hw : posV w) (h1 : 0 ≤ cr2 u v) (h2 : 0 ≤ cr2 v w) : 0 ≤ cr2 u w ∧ (0 < cr2 u v ∨ 0 < cr2 v w → 0 < cr2 u w) := by
  obtain ⟨a, b⟩ := u
  obtain ⟨c, d⟩ := v
  obtain ⟨e, f⟩ := w
  unfold posV cr2 at *
  simp only at *
  rcases hv with hc | ⟨rfl, hd⟩
  · have ha : 0 < a := by
      rcases hu with h | ⟨rfl, hb⟩
      · exact h
      · have := Int.mul_pos hb hc
        omega
    rcases hw with he | ⟨rfl, hf⟩
    · have id : c * (a * f - b * e) = a * (c * f - d * e) + e * (a * d - b * c) := by grind
      have n1 := Int.mul_nonneg (Int.le_of_lt ha) h2
      have n2 := Int.mul_nonneg (Int.le_of_lt he) h1
      generalize a * f - b * e = X at *
      refine ⟨?_, fun h => ?_⟩
      · rcases Int.lt_or_le X 0 with h | h
        · have := Int.mul_neg_of_pos_of_neg hc h
          omega
        · exact h
      · rcases Int.lt_or_le 0 X with h' | h'
        · exact h'
        · have := Int.mul_nonpos_of_nonneg_of_nonpos (Int.le_of_lt hc) h'
          rcases h with h | h
          · have := Int.mul_pos he h
            omega
          · have := Int.mul_pos ha h
            omega
    · have := Int.mul_pos ha hf
      omega
  · have he : e = 0 ∧ 0 < f := by
      rcases hw with h | h
      · have := Int.mul_pos hd h
        omega
      · exact h
    obtain ⟨rfl, hf⟩ := he
    have ha : 0 ≤ a := by omega
    have n1 := Int.mul_nonneg ha (Int.le_of_lt hf)
    refine ⟨by omega, fun h => ?_⟩
    have : 0 < a := by
      rcases Int.lt_or_le 0 a with h' | h'
      · exact h'
      · obtain rfl : a = 0 := by omega
        omega
    have := Int.mul_pos this hf
    omega
theorem plt_pos {a b : Pt} : pltB a b = true ↔ posV (dif b a) := by
  rw [pltB_iff]
  unfold posV dif
  simp only
  omega
theorem oP_tri (a b : Pt) : a = b ∨ pltB a b = true ∨ pltB b a = true := by
  obtain ⟨a1, a2⟩ := a
  obtain ⟨b1, b2⟩ := b
  simp only [pltB_iff, Prod.mk.injEq]
  omega
theorem oP_trans {a b c : Pt} (h1 : pltB a b = true) (h2 : pltB b c = true) : pltB a c = true := by
  rw [pltB_iff] at *
  omega
theorem oP_irr {a : Pt} (h : pltB a a = true) : False := by
  rw [pltB_iff] at h
  omega
theorem oP_asym {a b : Pt} (h1 : pltB a b = true) (h2 : pltB b a = true) : False := oP_irr (oP_trans h1 h2)
theorem crP_bb (a b : Pt) : crP a b b = 0 := by unfold crP crossI; grind
theorem crP_ba (a b : Pt) : crP a b a = 0 := by unfold crP crossI; grind
theorem ch_tr1 {a b p q : Pt} (h1 : pltB a b = true) (h2 : pltB a p = true) (h3 : pltB a q = true) (h4 : 0 ≤ crP a b q) (h5 : crP a b p ≤ 0) : 0 ≤ crP a p q := by
  have := cr_tr (plt_pos.1 h2) (plt_pos.1 h1) (plt_pos.1 h3) (by unfold cr2 dif; unfold crP crossI at h5; simp only; grind) h4
  exact this.1
theorem ch_tr2 {a b p q : Pt} (h1 : pltB q b = true) (h2 : pltB a b = true) (h3 : pltB b p = true) (h4 : 0 ≤ crP a b q) (h5 : 0 ≤ crP a b p) : 0 ≤ crP b p q := by
  have := cr_tr (plt_pos.1 h1) (plt_pos.1 h2) (plt_pos.1 h3) (by unfold cr2 dif; unfold crP crossI at h4; simp only; grind) (by unfold cr2 dif; unfold crP crossI at h5; simp only; grind)
  have h := this.1
  unfold cr2 dif at h
  unfold crP crossI
  simp only at h
  grind
theorem ch_tr3 {a' a b p : Pt} (h1 : pltB a' a = true) (h2 : pltB a b = true) (h3 : pltB b p = true) (h4 : 0 < crP a' a b) (h5 : 0 < crP a b p) : 0 < crP a' a p := by
  have k4 : 0 < cr2 (dif a a') (dif b a) := by unfold cr2 dif; unfold crP crossI at h4; simp only; grind
  have k5 : 0 < cr2 (dif b a) (dif p b) := by unfold cr2 dif; unfold crP crossI at h5; simp only; grind
  have := (cr_tr (plt_pos.1 h1) (plt_pos.1 h2) (plt_pos.1 h3) (Int.le_of_lt k4) (Int.le_of_lt k5)).2 (.inl k4)
  have e : crP a' a p = cr2 (dif a a') (dif b a) + cr2 (dif a a') (dif p b) := by unfold crP crossI cr2 dif; simp only; grind
  omega
def pushR : List Pt → Pt → List Pt
  | b :: a :: r, p => if crP a b p ≤ 0 then pushR (a :: r) p else p :: b :: a :: r
  | [b], p => [p, b]
  | [], p => [p]
theorem take_rev {st : List Pt} {j : Nat} (h : j < st.length) : (st.take (j + 1)).reverse = st.getD j (0, 0) :: (st.take j).reverse := by
  rw [← List.take_append_getElem h]
  simp [h]
theorem pushP_aux (st : List Pt) (p : Pt) : ∀ j, j ≤ st.length → (st.take (popN st p j) ++ [p]).reverse = pushR (st.take j).reverse p
  | 0, _ => by simp [popN, pushR]
  | 1, h => by
    match st, h with
    | x :: t, _ => simp [popN, pushR]
  | j + 2, h => by
    have ih := pushP_aux st p (j + 1) (by omega)
    rw [take_rev (j := j + 1) (by omega)]
    rw [take_rev (j := j) (by omega)] at ih ⊢
    simp only [popN, pushR]
    split
    · exact ih
    · rw [List.reverse_append, take_rev (j := j + 1) (by omega), take_rev (j := j) (by omega)]
      rfl
theorem pushP_rev (st : List Pt) (p : Pt) : (pushP st p).reverse = pushR st.reverse p := by
  have := pushP_aux st p st.length (Nat.le_refl _)
  rw [List.take_length] at this
  exact this
def chnR (R ps : List Pt) : List Pt := ps.foldl pushR R
theorem chn_rev : ∀ (ps st : List Pt), (chn st ps).reverse = chnR st.reverse ps
  | [], _ => rfl
  | p :: r, st => by
    have := chn_rev r (pushP st p)
    rw [pushP_rev] at this
    exact this
def Dsc (R : List Pt) : Prop := R.Pairwise fun a b => pltB b a = true
def Cvx : List Pt → Prop
  | c :: b :: a :: r => 0 < crP a b c ∧ Cvx (b :: a :: r)
  | _ => True
def Lft (S : Pt → Prop) : List Pt → Prop
  | b :: a :: r => (∀ q, S q → 0 ≤ crP a b q) ∧ Lft S (a :: r)
  | _ => True
def Bot (S : Pt → Prop) (R : List Pt) : Prop := ∃ m, R.getLast? = some m ∧ ∀ q, S q → q = m ∨ pltB m q = true
def Top (S : Pt → Prop) (R : List Pt) : Prop := ∃ m, R.head? = some m ∧ ∀ q, S q → q = m ∨ pltB q m = true
structure ChI (S : Pt → Prop) (R : List Pt) : Prop where
  mem : ∀ z ∈ R, S z
  dsc : Dsc R
  cvx : Cvx R
  lft : Lft S R
  bot : Bot S R
  top : Top S R
theorem Cvx.tail {b : Pt} {R : List Pt} (h : Cvx (b :: R)) : Cvx R := by
  match R, h with
  | [], _ => trivial
  | [_], _ => trivial
  | _ :: _ :: _, h => exact h.2
theorem Lft.tail {S : Pt → Prop} {b : Pt} {R : List Pt} (h : Lft S (b :: R)) : Lft S R := by
  match R, h with
  | [], _ => trivial
  | _ :: _, h => exact h.2
theorem Dsc.tail {b : Pt} {R : List Pt} (h : Dsc (b :: R)) : Dsc R := (List.pairwise_cons.1 h).2
theorem Dsc.lt {b a : Pt} {R : List Pt} (h : Dsc (b :: R)) (ha : a ∈ R) : pltB a b = true := (List.pairwise_cons.1 h).1 a ha
def adS (S : Pt → Prop) (p : Pt) : Pt → Prop := fun q => S q ∨ q = p
theorem lft_add {S : Pt → Prop} {p : Pt} : ∀ {r : List Pt} {b a : Pt}, Dsc (b :: a :: r) → Cvx (b :: a :: r) → Lft S (b :: a :: r) → pltB b p = true → 0 < crP a b p → Lft (adS S p) (b :: a :: r)
  | [], b, a, hd, hc, hl, hp, h => ⟨fun q hq => by
      rcases hq with hq | rfl
      · exact hl.1 q hq
      · exact Int.le_of_lt h, trivial⟩
  | a' :: r, b, a, hd, hc, hl, hp, h => by
    have h1 : pltB a b = true := hd.lt (by simp)
    have h2 : pltB a' a = true := hd.tail.lt (by simp)
    refine ⟨fun q hq => ?_, lft_add hd.tail hc.tail hl.2 (oP_trans h1 hp) (ch_tr3 h2 h1 hp hc.1 h)⟩
    rcases hq with hq | rfl
    · exact hl.1 q hq
    · exact Int.le_of_lt h
theorem push_ok {S : Pt → Prop} {p : Pt} : ∀ {r : List Pt} {b : Pt}, (∀ z ∈ b :: r, S z) → Dsc (b :: r) → Cvx (b :: r) → Lft S (b :: r) → Bot S (b :: r) → (∀ q, S q → pltB q p = true) → (∀ q, S q → pltB b q = true → 0 ≤ crP b p q) → ChI (adS S p) (pushR (b :: r) p)
  | [], b, hm, hd, hc, hl, hb, hp, hK => by
    obtain ⟨m, h1, h2⟩ := hb
    obtain rfl : b = m := by simpa using h1
    have hbp := hp b (hm b (by simp))
    refine ⟨fun z hz => ?_, ?_, trivial, ⟨fun q hq => ?_, trivial⟩, ⟨b, rfl, fun q hq => ?_⟩, ⟨p, rfl, fun q hq => ?_⟩⟩
    · have hz : z = p ∨ z = b := by simpa [pushR] using hz
      rcases hz with rfl | rfl
      · exact .inr rfl
      · exact .inl (hm _ (by simp))
    · show List.Pairwise _ [p, b]
      simpa using hbp
    · rcases hq with hq | rfl
      · rcases h2 q hq with rfl | h
        · rw [crP_ba]; exact Int.le_refl _
        · exact hK q hq h
      · rw [crP_bb]; exact Int.le_refl _
    · rcases hq with hq | rfl
      · exact h2 q hq
      · exact .inr hbp
    · rcases hq with hq | rfl
      · exact .inr (hp q hq)
      · exact .inl rfl
  | a :: r, b, hm, hd, hc, hl, hb, hp, hK => by
    have hab : pltB a b = true := hd.lt (by simp)
    have hap := hp a (hm a (by simp))
    have hbp := hp b (hm b (by simp))
    have hb' : Bot S (a :: r) := by
      obtain ⟨m, h1, h2⟩ := hb
      exact ⟨m, by rw [List.getLast?_cons_cons] at h1; exact h1, h2⟩
    unfold pushR
    split
    · rename_i hle
      exact push_ok (fun z hz => hm z (List.mem_cons_of_mem _ hz)) hd.tail hc.tail hl.2 hb' hp fun q hq h => ch_tr1 hab hap h (hl.1 q hq) hle
    · rename_i hgt
      have hgt : 0 < crP a b p := by omega
      refine ⟨fun z hz => ?_, ?_, ⟨hgt, hc⟩, ⟨fun q hq => ?_, lft_add hd hc hl hbp hgt⟩, ?_, ⟨p, rfl, fun q hq => ?_⟩⟩
      · rcases List.mem_cons.1 hz with rfl | hz
        · exact .inr rfl
        · exact .inl (hm _ hz)
      · exact List.pairwise_cons.2 ⟨fun z hz => hp z (hm z hz), hd⟩
      · rcases hq with hq | rfl
        · rcases oP_tri b q with rfl | h | h
          · rw [crP_ba]; exact Int.le_refl _
          · exact hK q hq h
          · exact ch_tr2 h hab hbp (hl.1 q hq) (Int.le_of_lt hgt)
        · rw [crP_bb]; exact Int.le_refl _
      · obtain ⟨m, h1, h2⟩ := hb
        refine ⟨m, by rw [List.getLast?_cons_cons]; exact h1, fun q hq => ?_⟩
        rcases hq with hq | rfl
        · exact h2 q hq
        · have hm' : m ∈ b :: a :: r := List.mem_of_getLast? h1
          exact .inr (hp m (hm m hm'))
      · rcases hq with hq | rfl
        · exact .inr (hp q hq)
        · exact .inl rfl
theorem ChI.ext {S T : Pt → Prop} {R : List Pt} (h : ChI S R) (e : ∀ q, S q ↔ T q) : ChI T R := by
  have : S = T := funext fun q => propext (e q)
  rw [← this]
  exact h
theorem chnR_ok : ∀ {ps : List Pt} {S : Pt → Prop} {R : List Pt}, ChI S R → Asc ps → (∀ q, S q → ∀ p ∈ ps, pltB q p = true) → ChI (fun q => S q ∨ q ∈ ps) (chnR R ps)
  | [], S, R, h, _, _ => h.ext fun q => by simp
  | p :: r, S, R, h, ha, hS => by
    have ha' := List.pairwise_cons.1 ha
    have hp : ChI (adS S p) (pushR R p) := by
      match R, h with
      | [], h => obtain ⟨m, h1, _⟩ := h.top; cases h1
      | b :: t, h =>
        refine push_ok h.mem h.dsc h.cvx h.lft h.bot (fun q hq => hS q hq p (by simp)) fun q hq hbq => ?_
        obtain ⟨m, h1, h2⟩ := h.top
        obtain rfl : b = m := by simpa using h1
        rcases h2 q hq with rfl | h3
        · exact (oP_irr hbq).elim
        · exact (oP_asym hbq h3).elim
    have := chnR_ok hp ha'.2 fun q hq z hz => by
      rcases hq with hq | rfl
      · exact hS q hq z (List.mem_cons_of_mem _ hz)
      · exact ha'.1 z hz
    refine this.ext fun q => ?_
    unfold adS
    simp only [List.mem_cons]
    constructor
    · rintro ((h | h) | h)
      · exact .inl h
      · exact .inr (.inl h)
      · exact .inr (.inr h)
    · rintro (h | h | h)
      · exact .inl (.inl h)
      · exact .inl (.inr h)
      · exact .inr h
theorem chain_ok {ps : List Pt} (h : Asc ps) (h0 : ps ≠ []) : ChI (fun q => q ∈ ps) (chnR [] ps) := by
  match ps, h, h0 with
  | p :: r, h, _ =>
    have ha' := List.pairwise_cons.1 h
    have h1 : ChI (fun q => q = p) [p] := ⟨fun z hz => by simpa using hz, by unfold Dsc; simp, trivial, trivial, ⟨p, rfl, fun q hq => .inl hq⟩, ⟨p, rfl, fun q hq => .inl hq⟩⟩
    have := chnR_ok h1 ha'.2 fun q hq z hz => by rw [show q = p from hq]; exact ha'.1 z hz
    exact this.ext fun q => by simp
theorem ChI.tail {S : Pt → Prop} {b a : Pt} {R : List Pt} (h : ChI S (b :: a :: R)) : (∀ z ∈ a :: R, S z) ∧ Dsc (a :: R) ∧ Cvx (a :: R) ∧ Lft S (a :: R) ∧ Bot S (a :: R) := by
  refine ⟨fun z hz => h.mem z (List.mem_cons_of_mem _ hz), h.dsc.tail, h.cvx.tail, h.lft.tail, ?_⟩
  obtain ⟨m, h1, h2⟩ := h.bot
  exact ⟨m, by rw [List.getLast?_cons_cons] at h1; exact h1, h2⟩
theorem next_le {S : Pt → Prop} {b a a' : Pt} {r' : List Pt} (ha : S a) (hd : pltB a b = true) (hl : ∀ q, S q → 0 ≤ crP a b q) (hm' : ∀ z ∈ b :: a' :: r', S z) (hd' : Dsc (b :: a' :: r')) (hc' : Cvx (b :: a' :: r')) (hl' : Lft S (b :: a' :: r')) (hb' : Bot S (b :: a' :: r')) : ¬ pltB a a' = true := by
  intro hlt
  have hab' : pltB a' b = true := hd'.lt (by simp)
  have k1 := hl a' (hm' a' (by simp))
  have k2 := hl'.1 a ha
  have e1 : crP a b a' = cr2 (dif b a') (dif a' a) := by unfold crP crossI cr2 dif; simp only; grind
  have e2 : crP a' b a = -cr2 (dif b a') (dif a' a) := by unfold crP crossI cr2 dif; simp only; grind
  match r', hm', hd', hc', hl', hb' with
  | [], hm', hd', hc', hl', hb' =>
    obtain ⟨m, h1, h2⟩ := hb'
    obtain rfl : a' = m := by simpa using h1
    rcases h2 a ha with rfl | h
    · exact oP_irr hlt
    · exact oP_asym hlt h
  | c :: t, hm', hd', hc', hl', hb' =>
    have hca : pltB c a' = true := hd'.tail.lt (by simp)
    have k3 := hc'.1
    have k4 := hl'.2.1 a ha
    have e3 : crP c a' b = cr2 (dif a' c) (dif b a') := by unfold crP crossI cr2 dif; simp only; grind
    have e4 : crP c a' a = cr2 (dif a' a) (dif a' c) := by unfold crP crossI cr2 dif; simp only; grind
    have := (cr_tr (plt_pos.1 hlt) (plt_pos.1 hca) (plt_pos.1 hab') (by omega) (by omega)).2 (.inr (by omega))
    have e5 : cr2 (dif b a') (dif a' a) = -cr2 (dif a' a) (dif b a') := by unfold cr2 dif; simp only; grind
    omega
theorem chain_eq {S : Pt → Prop} : ∀ {r r' : List Pt} {b : Pt}, (∀ z ∈ b :: r, S z) → Dsc (b :: r) → Cvx (b :: r) → Lft S (b :: r) → Bot S (b :: r) → (∀ z ∈ b :: r', S z) → Dsc (b :: r') → Cvx (b :: r') → Lft S (b :: r') → Bot S (b :: r') → r = r'
  | [], [], _, _, _, _, _, _, _, _, _, _, _ => rfl
  | [], a' :: r', b, hm, hd, hc, hl, hb, hm', hd', hc', hl', hb' => by
    obtain ⟨m, h1, h2⟩ := hb
    obtain rfl : b = m := by simpa using h1
    have h3 : pltB a' b = true := hd'.lt (by simp)
    rcases h2 a' (hm' a' (by simp)) with rfl | h
    · exact (oP_irr h3).elim
    · exact (oP_asym h3 h).elim
  | a :: r, [], b, hm, hd, hc, hl, hb, hm', hd', hc', hl', hb' => by
    obtain ⟨m, h1, h2⟩ := hb'
    obtain rfl : b = m := by simpa using h1
    have h3 : pltB a b = true := hd.lt (by simp)
    rcases h2 a (hm a (by simp)) with rfl | h
    · exact (oP_irr h3).elim
    · exact (oP_asym h3 h).elim
  | a :: r, a' :: r', b, hm, hd, hc, hl, hb, hm', hd', hc', hl', hb' => by
    have h1 := next_le (hm a (by simp)) (hd.lt (by simp)) hl.1 hm' hd' hc' hl' hb'
    have h2 := next_le (hm' a' (by simp)) (hd'.lt (by simp)) hl'.1 hm hd hc hl hb
    have e : a = a' := by
      rcases oP_tri a a' with h | h | h
      · exact h
      · exact absurd h h1
      · exact absurd h h2
    subst e
    have bt : ∀ {t : List Pt}, Bot S (b :: a :: t) → Bot S (a :: t) := fun {t} h => by
      obtain ⟨m, q1, q2⟩ := h
      exact ⟨m, by rw [List.getLast?_cons_cons] at q1; exact q1, q2⟩
    rw [chain_eq (fun z hz => hm z (List.mem_cons_of_mem _ hz)) hd.tail hc.tail hl.2 (bt hb) (fun z hz => hm' z (List.mem_cons_of_mem _ hz)) hd'.tail hc'.tail hl'.2 (bt hb')]
theorem ChI.uniq {S : Pt → Prop} {R R' : List Pt} (h : ChI S R) (h' : ChI S R') : R = R' := by
  obtain ⟨m, h1, h2⟩ := h.top
  obtain ⟨m', h1', h2'⟩ := h'.top
  match R, R', h, h', h1, h1' with
  | b :: r, b' :: r', h, h', h1, h1' =>
    obtain rfl : b = m := by simpa using h1
    obtain rfl : b' = m' := by simpa using h1'
    have e : b = b' := by
      rcases h2 b' (h'.mem b' (by simp)) with e | e
      · exact e.symm
      · rcases h2' b (h.mem b (by simp)) with e' | e'
        · exact e'
        · exact (oP_asym e e').elim
    subst e
    rw [chain_eq h.mem h.dsc h.cvx h.lft h.bot h'.mem h'.dsc h'.cvx h'.lft h'.bot]
def ngP (p : Pt) : Pt := (-p.1, -p.2)
def ngL (ps : List Pt) : List Pt := ps.map ngP
theorem ngP_ng (p : Pt) : ngP (ngP p) = p := by
  unfold ngP
  simp
theorem ngL_ng (ps : List Pt) : ngL (ngL ps) = ps := by
  unfold ngL
  rw [List.map_map]
  conv => rhs; rw [← List.map_id ps]
  refine List.map_congr_left fun p _ => ngP_ng p
theorem crP_ng (a b c : Pt) : crP (ngP a) (ngP b) (ngP c) = crP a b c := by unfold crP crossI ngP; simp only; grind
theorem plt_ng (a b : Pt) : pltB (ngP a) (ngP b) = pltB b a := by
  rw [Bool.eq_iff_iff, pltB_iff, pltB_iff]
  unfold ngP
  simp only
  omega
theorem pushR_ng : ∀ (R : List Pt) (p : Pt), pushR (ngL R) (ngP p) = ngL (pushR R p)
  | [], _ => rfl
  | [_], _ => rfl
  | b :: a :: r, p => by
    have ih := pushR_ng (a :: r) p
    show (if crP (ngP a) (ngP b) (ngP p) ≤ 0 then pushR (ngP a :: ngL r) (ngP p) else ngP p :: ngP b :: ngP a :: ngL r) = ngL (if crP a b p ≤ 0 then pushR (a :: r) p else p :: b :: a :: r)
    rw [crP_ng]
    split
    · exact ih
    · rfl
theorem chnR_ng : ∀ (ps R : List Pt), chnR (ngL R) (ngL ps) = ngL (chnR R ps)
  | [], _ => rfl
  | p :: r, R => by
    have := chnR_ng r (pushR R p)
    rw [← pushR_ng] at this
    exact this
theorem mem_ngL {ps : List Pt} {q : Pt} : q ∈ ngL ps ↔ ngP q ∈ ps := by
  unfold ngL
  rw [List.mem_map]
  constructor
  · rintro ⟨z, hz, rfl⟩
    rw [ngP_ng]
    exact hz
  · intro h
    exact ⟨_, h, ngP_ng q⟩
theorem asc_ng {s : List Pt} (h : Asc s) : Asc (ngL s.reverse) := by
  unfold Asc ngL
  rw [List.pairwise_map, List.pairwise_reverse]
  exact h.imp fun {a b} hab => by rw [plt_ng]; exact hab
def lowR (s : List Pt) : List Pt := chnR [] s
def uppR (s : List Pt) : List Pt := chnR [] s.reverse
theorem low_ok {s : List Pt} (h : Asc s) (h0 : s ≠ []) : ChI (fun q => q ∈ s) (lowR s) := chain_ok h h0
theorem upp_ok {s : List Pt} (h : Asc s) (h0 : s ≠ []) : ChI (fun q => ngP q ∈ s) (ngL (uppR s)) := by
  have h1 := chain_ok (asc_ng h) (by unfold ngL; simpa using h0)
  have e : ngL (uppR s) = chnR [] (ngL s.reverse) := by
    unfold uppR
    rw [← chnR_ng]
    rfl
  rw [e]
  exact h1.ext fun q => by rw [mem_ngL, List.mem_reverse]
theorem cvx_at : ∀ {R : List Pt}, Cvx R → ∀ k, k + 2 < R.length → 0 < crP (R.getD (k + 2) (0, 0)) (R.getD (k + 1) (0, 0)) (R.getD k (0, 0))
  | [], _, k, h => by simp at h
  | [_], _, k, h => by simp at h
  | [_, _], _, k, h => absurd h (by simp only [List.length_cons, List.length_nil]; omega)
  | c :: b :: a :: r, hc, 0, _ => hc.1
  | c :: b :: a :: r, hc, k + 1, h => by
    have := cvx_at hc.2 k (by simpa using h)
    simpa using this
theorem lft_at {S : Pt → Prop} : ∀ {R : List Pt}, Lft S R → ∀ k, k + 1 < R.length → ∀ q, S q → 0 ≤ crP (R.getD (k + 1) (0, 0)) (R.getD k (0, 0)) q
  | [], _, k, h => by simp at h
  | [_], _, k, h => by simp at h
  | b :: a :: r, hl, 0, _ => hl.1
  | b :: a :: r, hl, k + 1, h => by
    have := lft_at hl.2 k (by simpa using h)
    simpa using this
theorem dsc_at {R : List Pt} (h : Dsc R) {i j : Nat} (hij : i < j) (hj : j < R.length) : pltB (R.getD j (0, 0)) (R.getD i (0, 0)) = true := by
  have := List.pairwise_iff_getElem.1 h i j (by omega) hj hij
  simpa [hj, show i < R.length by omega] using this
theorem getD_mem' {R : List Pt} {k : Nat} (h : k < R.length) : R.getD k (0, 0) ∈ R := by simp [h]
theorem on_edge {S : Pt → Prop} {R : List Pt} (h : ChI S R) {k : Nat} (hk : k + 1 < R.length) {q : Pt} (hq : S q) (h0 : crP (R.getD (k + 1) (0, 0)) (R.getD k (0, 0)) q = 0) :
    ¬ pltB q (R.getD (k + 1) (0, 0)) = true ∧ ¬ pltB (R.getD k (0, 0)) q = true := by
  have hab := dsc_at h.dsc (i := k) (j := k + 1) (by omega) hk
  refine ⟨fun hlt => ?_, fun hlt => ?_⟩
  · by_cases h2 : k + 2 < R.length
    · have c := cvx_at h.cvx k h2
      have l := lft_at h.lft (k + 1) h2 q hq
      have hxa := dsc_at h.dsc (i := k + 1) (j := k + 2) (by omega) h2
      generalize R.getD k (0, 0) = b at *
      generalize R.getD (k + 1) (0, 0) = a at *
      generalize R.getD (k + 2) (0, 0) = x at *
      have e1 : crP x a b = cr2 (dif a x) (dif b a) := by unfold crP crossI cr2 dif; simp only; grind
      have e2 : crP x a q = cr2 (dif a q) (dif a x) := by unfold crP crossI cr2 dif; simp only; grind
      have e3 : crP a b q = cr2 (dif a q) (dif b a) := by unfold crP crossI cr2 dif; simp only; grind
      have := (cr_tr (plt_pos.1 hlt) (plt_pos.1 hxa) (plt_pos.1 hab) (by omega) (by omega)).2 (.inr (by omega))
      omega
    · obtain ⟨m, h1, h3⟩ := h.bot
      have hm : R.getD (k + 1) (0, 0) = m := by
        rw [List.getLast?_eq_getElem?] at h1
        have : R.length - 1 = k + 1 := by omega
        rw [this] at h1
        simp [List.getD, h1]
      rw [hm] at hlt
      rcases h3 q hq with rfl | h4
      · exact oP_irr hlt
      · exact oP_asym hlt h4
  · rcases Nat.eq_zero_or_pos k with rfl | h2
    · obtain ⟨m, h1, h3⟩ := h.top
      have hm : R.getD 0 (0, 0) = m := by
        match R, h1 with
        | _ :: _, h1 => simpa using h1
      rw [hm] at hlt
      rcases h3 q hq with rfl | h4
      · exact oP_irr hlt
      · exact oP_asym hlt h4
    · obtain ⟨k, rfl⟩ : ∃ j, k = j + 1 := ⟨k - 1, by omega⟩
      have c := cvx_at h.cvx k (by omega)
      have l := lft_at h.lft k (by omega) q hq
      have hbc := dsc_at h.dsc (i := k) (j := k + 1) (by omega) (by omega)
      generalize R.getD k (0, 0) = c' at *
      generalize R.getD (k + 1) (0, 0) = b at *
      generalize R.getD (k + 1 + 1) (0, 0) = a at *
      have e0 : crP (R.getD (k + 2) (0, 0)) b c' = crP (R.getD (k + 2) (0, 0)) b c' := rfl
      have e1 : crP a b c' = cr2 (dif b a) (dif c' b) := by unfold crP crossI cr2 dif; simp only; grind
      have e2 : crP b c' q = cr2 (dif c' b) (dif q b) := rfl
      have e3 : crP a b q = cr2 (dif b a) (dif q b) := by unfold crP crossI cr2 dif; simp only; grind
      have := (cr_tr (plt_pos.1 hab) (plt_pos.1 hbc) (plt_pos.1 hlt) (by omega) (by omega)).2 (.inl (by omega))
      omega
theorem on_own {S : Pt → Prop} {R : List Pt} (h : ChI S R) {k : Nat} (hk : k + 1 < R.length) {q : Pt} (hq : q ∈ R) (h0 : crP (R.getD (k + 1) (0, 0)) (R.getD k (0, 0)) q = 0) : q = R.getD (k + 1) (0, 0) ∨ q = R.getD k (0, 0) := by
  obtain ⟨h1, h2⟩ := on_edge h hk (h.mem q hq) h0
  obtain ⟨j, hj, hjq⟩ := List.getElem_of_mem hq
  have ej : R.getD j (0, 0) = q := by simp [hj, hjq]
  rw [← ej] at h1 h2 ⊢
  rcases Nat.lt_or_ge j k with c | c
  · exact absurd (dsc_at h.dsc c (by omega)) h2
  · rcases Nat.lt_or_ge (k + 1) j with d | d
    · exact absurd (dsc_at h.dsc d hj) h1
    · have : j = k ∨ j = k + 1 := by omega
      rcases this with rfl | rfl
      · exact .inr rfl
      · exact .inl rfl
theorem on_other {s : List Pt} {R U : List Pt} (h : ChI (fun q => q ∈ s) R) (g : ChI (fun q => ngP q ∈ s) (ngL U)) {k : Nat} (hk : k + 1 < R.length) {q : Pt} (hq : q ∈ U) (h0 : crP (R.getD (k + 1) (0, 0)) (R.getD k (0, 0)) q = 0) : q = R.getD (k + 1) (0, 0) ∨ q = R.getD k (0, 0) := by
  have hqs : q ∈ s := by
    have := g.mem (ngP q) (mem_ngL.2 (by rw [ngP_ng]; exact hq))
    rw [ngP_ng] at this
    exact this
  obtain ⟨h1, h2⟩ := on_edge h hk hqs h0
  rcases oP_tri q (R.getD (k + 1) (0, 0)) with e | e | ea
  · exact .inl e
  · exact absurd e h1
  rcases oP_tri q (R.getD k (0, 0)) with e | eb | e
  · exact .inr e
  rotate_left
  · exact absurd e h2
  exfalso
  have ha : R.getD (k + 1) (0, 0) ∈ s := h.mem _ (getD_mem' hk)
  have hb : R.getD k (0, 0) ∈ s := h.mem _ (getD_mem' (by omega))
  generalize R.getD (k + 1) (0, 0) = a at *
  generalize R.getD k (0, 0) = b at *
  obtain ⟨j, hj, hjq⟩ := List.getElem_of_mem hq
  have hlen : (ngL U).length = U.length := by unfold ngL; simp
  have ej : ∀ i, i < U.length → (ngL U).getD i (0, 0) = ngP (U.getD i (0, 0)) := fun i hi => by unfold ngL; simp [hi]
  have eq' : U.getD j (0, 0) = q := by simp [hj, hjq]
  have j0 : 0 < j := by
    rcases Nat.eq_zero_or_pos j with rfl | c
    · exfalso
      obtain ⟨m, m1, m2⟩ := g.top
      have em : ngP q = m := by
        match U, hj, hjq, m1 with
        | x :: t, _, hjq, m1 =>
          have e1 : x = q := by simpa using hjq
          have e2 : ngP x = m := by simpa [ngL] using m1
          rw [← e1]
          exact e2
      rcases m2 (ngP a) (by show ngP (ngP a) ∈ s; rw [ngP_ng]; exact ha) with e | e
      · have := congrArg ngP e
        rw [← em, ngP_ng, ngP_ng] at this
        subst this
        exact oP_irr ea
      · rw [← em, plt_ng] at e
        exact oP_asym ea e
    · exact c
  have j1 : j + 1 < U.length := by
    rcases Nat.lt_or_ge (j + 1) U.length with c | c
    · exact c
    · exfalso
      obtain ⟨m, m1, m2⟩ := g.bot
      have em : ngP q = m := by
        rw [List.getLast?_eq_getElem?, hlen] at m1
        have : U.length - 1 = j := by omega
        rw [this] at m1
        have := ej j hj
        rw [eq'] at this
        rw [← this]
        simp [List.getD, m1]
      rcases m2 (ngP b) (by show ngP (ngP b) ∈ s; rw [ngP_ng]; exact hb) with e | e
      · have := congrArg ngP e
        rw [← em, ngP_ng, ngP_ng] at this
        subst this
        exact oP_irr eb
      · rw [← em, plt_ng] at e
        exact oP_asym eb e
  obtain ⟨i, rfl⟩ : ∃ i, j = i + 1 := ⟨j - 1, by omega⟩
  have c := cvx_at g.cvx i (by omega)
  have l1 := lft_at g.lft i (by omega)
  have l2 := lft_at g.lft (i + 1) (by omega)
  have d1 := dsc_at g.dsc (i := i) (j := i + 1) (by omega) (by omega)
  have d2 := dsc_at g.dsc (i := i + 1) (j := i + 2) (by omega) (by omega)
  rw [ej _ (by omega), ej _ (by omega), ej _ (by omega), crP_ng, eq'] at c
  rw [ej _ (by omega), ej _ (by omega), plt_ng, eq'] at d1 d2
  have l1a := l1 (ngP a) (by show ngP (ngP a) ∈ s; rw [ngP_ng]; exact ha)
  have l1b := l1 (ngP b) (by show ngP (ngP b) ∈ s; rw [ngP_ng]; exact hb)
  have l2a := l2 (ngP a) (by show ngP (ngP a) ∈ s; rw [ngP_ng]; exact ha)
  have l2b := l2 (ngP b) (by show ngP (ngP b) ∈ s; rw [ngP_ng]; exact hb)
  rw [ej _ (by omega), ej _ (by omega), crP_ng, eq'] at l1a l1b l2a l2b
  clear l1 l2
  generalize U.getD i (0, 0) = y at *
  generalize U.getD (i + 2) (0, 0) = z at *
  have e1 : crP z q y = cr2 (dif z q) (dif q y) := by unfold crP crossI cr2 dif; simp only; grind
  have e2 : crP z q b = cr2 (dif b q) (dif z q) := by unfold crP crossI cr2 dif; simp only; grind
  have e3 : crP q y a = cr2 (dif q y) (dif q a) := by unfold crP crossI cr2 dif; simp only; grind
  have e4 : crP a b q = cr2 (dif b q) (dif q a) := by unfold crP crossI cr2 dif; simp only; grind
  have t1 := (cr_tr (plt_pos.1 eb) (plt_pos.1 d2) (plt_pos.1 d1) (by omega) (by omega)).2 (.inr (by omega))
  have t2 := (cr_tr (plt_pos.1 eb) (plt_pos.1 d1) (plt_pos.1 ea) (by omega) (by omega)).2 (.inl (by omega))
  omega
structure CvH (h : List Pt) : Prop where
  three : 3 ≤ h.length
  nodup : h.Nodup
  left : ∀ j, j < h.length → ∀ v ∈ h, v ≠ h.getD j (0, 0) → v ≠ nxP h j → 0 < crP (h.getD j (0, 0)) (nxP h j) v
theorem getD_append (a b : List Pt) (k : Nat) : (a ++ b).getD k (0, 0) = if k < a.length then a.getD k (0, 0) else b.getD (k - a.length) (0, 0) := by
  simp only [List.getD, List.getElem?_append]
  split <;> rfl
theorem getD_take' (a : List Pt) {k m : Nat} (h : k < m) : (a.take m).getD k (0, 0) = a.getD k (0, 0) := by
  simp [List.getD, h]
theorem low_at (s : List Pt) {k : Nat} (h : k < (lowR s).length) : (chn [] s).getD k (0, 0) = (lowR s).getD ((lowR s).length - 1 - k) (0, 0) := by
  have e := chn_rev s []
  have e' : (lowR s) = (chn [] s).reverse := e.symm
  rw [e'] at h ⊢
  rw [getD_rev (by simp at h ⊢; omega)]
  congr 1
  simp at h ⊢
  omega
theorem upp_at (s : List Pt) {k : Nat} (h : k < (uppR s).length) : (chn [] (revP s)).getD k (0, 0) = (uppR s).getD ((uppR s).length - 1 - k) (0, 0) := low_at (revP s) h
theorem low_len (s : List Pt) : (lowR s).length = (chn [] s).length := by
  have e : (lowR s) = (chn [] s).reverse := (chn_rev s []).symm
  rw [e, List.length_reverse]
theorem upp_len (s : List Pt) : (uppR s).length = (chn [] (revP s)).length := low_len (revP s)
theorem head_at {R : List Pt} {m : Pt} (h : R.head? = some m) : R.getD 0 (0, 0) = m := by
  match R, h with
  | _ :: _, h => simpa using h
theorem last_at {R : List Pt} {m : Pt} (h : R.getLast? = some m) : R.getD (R.length - 1) (0, 0) = m := by
  rw [List.getLast?_eq_getElem?] at h
  simp [List.getD, h]
theorem ngL_len (R : List Pt) : (ngL R).length = R.length := by unfold ngL; simp
theorem ngL_at {R : List Pt} {i : Nat} (hi : i < R.length) : (ngL R).getD i (0, 0) = ngP (R.getD i (0, 0)) := by unfold ngL; simp [hi]
theorem top_uniq {S : Pt → Prop} {a b : Pt} (ha : S a) (hb : S b) (h1 : ∀ q, S q → q = a ∨ pltB q a = true) (h2 : ∀ q, S q → q = b ∨ pltB q b = true) : a = b := by
  rcases h1 b hb with e | e
  · exact e.symm
  · rcases h2 a ha with e' | e'
    · exact e'
    · exact (oP_asym e e').elim
theorem hul_ends {s : List Pt} (h : Asc s) (h0 : s ≠ []) :
    0 < (lowR s).length ∧ 0 < (uppR s).length ∧ (lowR s).getD 0 (0, 0) = (uppR s).getD ((uppR s).length - 1) (0, 0) ∧ (uppR s).getD 0 (0, 0) = (lowR s).getD ((lowR s).length - 1) (0, 0) ∧
    (∀ q ∈ s, q = (lowR s).getD 0 (0, 0) ∨ pltB q ((lowR s).getD 0 (0, 0)) = true) ∧ (∀ q ∈ s, q = (uppR s).getD 0 (0, 0) ∨ pltB ((uppR s).getD 0 (0, 0)) q = true) := by
  have L := low_ok h h0
  have U := upp_ok h h0
  obtain ⟨m, m1, m2⟩ := L.top
  obtain ⟨n, n1, n2⟩ := L.bot
  obtain ⟨p, p1, p2⟩ := U.top
  obtain ⟨q, q1, q2⟩ := U.bot
  have l1 : 0 < (lowR s).length := by
    rcases Nat.eq_zero_or_pos (lowR s).length with e | e
    · rw [List.eq_nil_of_length_eq_zero e] at m1; cases m1
    · exact e
  have l2 : 0 < (uppR s).length := by
    rcases Nat.eq_zero_or_pos (uppR s).length with e | e
    · rw [List.eq_nil_of_length_eq_zero e] at p1; cases p1
    · exact e
  have e1 := head_at m1
  have e2 := last_at n1
  have e3 := head_at p1
  have e4 := last_at q1
  rw [ngL_at l2] at e3
  rw [ngL_len, ngL_at (by omega)] at e4
  have mm : ∀ {k}, k < (lowR s).length → (lowR s).getD k (0, 0) ∈ s := fun hk => L.mem _ (getD_mem' hk)
  have mu : ∀ {k}, k < (uppR s).length → (uppR s).getD k (0, 0) ∈ s := fun hk => by
    have := U.mem _ (mem_ngL.2 (by rw [ngP_ng]; exact getD_mem' hk) : ngP _ ∈ ngL (uppR s))
    rw [ngP_ng] at this
    exact this
  have k1 : ∀ q ∈ s, q = (lowR s).getD 0 (0, 0) ∨ pltB q ((lowR s).getD 0 (0, 0)) = true := fun x hx => by rw [e1]; exact m2 x hx
  have k2 : ∀ q ∈ s, q = (uppR s).getD 0 (0, 0) ∨ pltB ((uppR s).getD 0 (0, 0)) q = true := fun x hx => by
    have := p2 (ngP x) (by show ngP (ngP x) ∈ s; rw [ngP_ng]; exact hx)
    rw [← e3, plt_ng] at this
    rcases this with e | e
    · have := congrArg ngP e
      rw [ngP_ng, ngP_ng] at this
      exact .inl this
    · exact .inr e
  have k3 : ∀ q ∈ s, q = (uppR s).getD ((uppR s).length - 1) (0, 0) ∨ pltB q ((uppR s).getD ((uppR s).length - 1) (0, 0)) = true := fun x hx => by
    have := q2 (ngP x) (by show ngP (ngP x) ∈ s; rw [ngP_ng]; exact hx)
    rw [← e4, plt_ng] at this
    rcases this with e | e
    · have := congrArg ngP e
      rw [ngP_ng, ngP_ng] at this
      exact .inl this
    · exact .inr e
  refine ⟨l1, l2, top_uniq (S := fun q => q ∈ s) (mm l1) (mu (by omega)) k1 k3, ?_, k1, k2⟩
  rw [e2]
  have hn : n ∈ s := by rw [← e2]; exact mm (by omega)
  rcases k2 n hn with e | e
  · exact e.symm
  · rcases n2 _ (mu l2) with e' | e'
    · exact e'
    · exact (oP_asym e e').elim
theorem hul_edge {s : List Pt} (h : Asc s) (h3 : 3 ≤ s.length) {j : Nat} (hj : j < (hulL s).length) :
    (∃ k, k + 1 < (lowR s).length ∧ (hulL s).getD j (0, 0) = (lowR s).getD (k + 1) (0, 0) ∧ nxP (hulL s) j = (lowR s).getD k (0, 0)) ∨
    (∃ k, k + 1 < (uppR s).length ∧ (hulL s).getD j (0, 0) = (uppR s).getD (k + 1) (0, 0) ∧ nxP (hulL s) j = (uppR s).getD k (0, 0)) := by
  have h0 : s ≠ [] := by intro e; rw [e] at h3; simp at h3
  obtain ⟨l1, l2, e1, e2, _, _⟩ := hul_ends h h0
  have eH : hulL s = (chn [] s).take ((chn [] s).length - 1) ++ (chn [] (revP s)).take ((chn [] (revP s)).length - 1) := by unfold hulL; rw [if_neg (by omega)]
  have q1 := low_len s
  have q2 := upp_len s
  have hl : (hulL s).length = ((lowR s).length - 1) + ((uppR s).length - 1) := by rw [eH, q1, q2]; simp
  have ga : ∀ k, k + 1 < (lowR s).length → (hulL s).getD k (0, 0) = (lowR s).getD ((lowR s).length - 1 - k) (0, 0) := fun k hk => by
    rw [eH, getD_append, if_pos (by simp; omega), getD_take' _ (by omega), low_at s (by omega)]
  have gb : ∀ k, k + 1 < (uppR s).length → (hulL s).getD ((lowR s).length - 1 + k) (0, 0) = (uppR s).getD ((uppR s).length - 1 - k) (0, 0) := fun k hk => by
    have : ((chn [] s).take ((chn [] s).length - 1)).length = (lowR s).length - 1 := by simp; omega
    rw [eH, getD_append, if_neg (by omega), this, Nat.add_sub_cancel_left, getD_take' _ (by omega), upp_at s (by omega)]
  have l1' : 2 ≤ (lowR s).length := by rw [q1]; exact chn_ge (by omega)
  have l2' : 2 ≤ (uppR s).length := by rw [q2]; exact chn_ge (by rw [revP_len]; omega)
  rw [hl] at hj
  unfold nxP
  rw [hl]
  rcases Nat.lt_or_ge j ((lowR s).length - 1) with c | c
  · refine .inl ⟨(lowR s).length - 2 - j, by omega, ?_, ?_⟩
    · rw [ga j (by omega)]
      congr 1
      omega
    · rw [Nat.mod_eq_of_lt (by omega)]
      rcases Nat.lt_or_ge (j + 1) ((lowR s).length - 1) with d | d
      · rw [ga (j + 1) (by omega)]
        congr 1
        omega
      · have : j + 1 = (lowR s).length - 1 + 0 := by omega
        rw [this, gb 0 (by omega), Nat.sub_zero, ← e1]
        congr 1
        omega
  · obtain ⟨i, rfl⟩ : ∃ i, j = (lowR s).length - 1 + i := ⟨j - ((lowR s).length - 1), by omega⟩
    refine .inr ⟨(uppR s).length - 2 - i, by omega, ?_, ?_⟩
    · rw [gb i (by omega)]
      congr 1
      omega
    · rcases Nat.lt_or_ge (i + 1) ((uppR s).length - 1) with d | d
      · rw [Nat.mod_eq_of_lt (by omega), Nat.add_assoc, gb (i + 1) (by omega)]
        congr 1
        omega
      · have : (lowR s).length - 1 + i + 1 = (lowR s).length - 1 + ((uppR s).length - 1) := by omega
        rw [this, Nat.mod_self, ga 0 (by omega), Nat.sub_zero, ← e2]
        congr 1
        omega
theorem mem_hul {s : List Pt} (h3 : 3 ≤ s.length) {v : Pt} (hv : v ∈ hulL s) : v ∈ lowR s ∨ v ∈ uppR s := by
  have eH : hulL s = (chn [] s).take ((chn [] s).length - 1) ++ (chn [] (revP s)).take ((chn [] (revP s)).length - 1) := by unfold hulL; rw [if_neg (by omega)]
  have e1 : (lowR s) = (chn [] s).reverse := (chn_rev s []).symm
  have e2 : (uppR s) = (chn [] (revP s)).reverse := (chn_rev (revP s) []).symm
  rw [eH] at hv
  rcases List.mem_append.1 hv with hv | hv
  · left
    rw [e1, List.mem_reverse]
    exact List.mem_of_mem_take hv
  · right
    rw [e2, List.mem_reverse]
    exact List.mem_of_mem_take hv
theorem low_in {s : List Pt} (h : Asc s) (h0 : s ≠ []) {v : Pt} (hv : v ∈ lowR s) : v ∈ s := (low_ok h h0).mem v hv
theorem upp_in {s : List Pt} (h : Asc s) (h0 : s ≠ []) {v : Pt} (hv : v ∈ uppR s) : v ∈ s := by
  have := (upp_ok h h0).mem _ (mem_ngL.2 (by rw [ngP_ng]; exact hv) : ngP v ∈ ngL (uppR s))
  rw [ngP_ng] at this
  exact this
theorem hul_in {s : List Pt} (h : Asc s) {v : Pt} (hv : v ∈ hulL s) : v ∈ s := by
  by_cases h3 : 3 ≤ s.length
  · have h0 : s ≠ [] := by intro e; rw [e] at h3; simp at h3
    rcases mem_hul h3 hv with q | q
    · exact low_in h h0 q
    · exact upp_in h h0 q
  · unfold hulL at hv
    rw [if_pos (by omega)] at hv
    exact hv
theorem hul_left {s : List Pt} (h : Asc s) (h3 : 3 ≤ s.length) {j : Nat} (hj : j < (hulL s).length) {q : Pt} (hq : q ∈ s) : 0 ≤ crP ((hulL s).getD j (0, 0)) (nxP (hulL s) j) q := by
  have h0 : s ≠ [] := by intro e; rw [e] at h3; simp at h3
  rcases hul_edge h h3 hj with ⟨k, k1, k2, k3⟩ | ⟨k, k1, k2, k3⟩
  · rw [k2, k3]
    exact lft_at (low_ok h h0).lft k k1 q hq
  · rw [k2, k3]
    have := lft_at (upp_ok h h0).lft k (by rw [ngL_len]; exact k1) (ngP q) (by show ngP (ngP q) ∈ s; rw [ngP_ng]; exact hq)
    rw [ngL_at k1, ngL_at (by omega), crP_ng] at this
    exact this
theorem hul_strict {s : List Pt} (h : Asc s) (h3 : 3 ≤ s.length) {j : Nat} (hj : j < (hulL s).length) {v : Pt} (hv : v ∈ hulL s) (n1 : v ≠ (hulL s).getD j (0, 0)) (n2 : v ≠ nxP (hulL s) j) : 0 < crP ((hulL s).getD j (0, 0)) (nxP (hulL s) j) v := by
  have h0 : s ≠ [] := by intro e; rw [e] at h3; simp at h3
  have hl := hul_left h h3 hj (hul_in h hv)
  have L := low_ok h h0
  have U := upp_ok h h0
  rcases Int.lt_or_eq_of_le hl with c | c
  · exact c
  exfalso
  rcases hul_edge h h3 hj with ⟨k, k1, k2, k3⟩ | ⟨k, k1, k2, k3⟩
  · rw [k2] at c n1
    rw [k3] at c n2
    rcases mem_hul h3 hv with q | q
    · rcases on_own L k1 q c.symm with e | e
      · exact n1 e
      · exact n2 e
    · rcases on_other L U k1 q c.symm with e | e
      · exact n1 e
      · exact n2 e
  · rw [k2] at c n1
    rw [k3] at c n2
    have U' : ChI (fun q => q ∈ ngL s) (ngL (uppR s)) := U.ext fun q => mem_ngL.symm
    have L' : ChI (fun q => ngP q ∈ ngL s) (ngL (ngL (lowR s))) := by
      rw [ngL_ng]
      exact L.ext fun q => by rw [mem_ngL, ngP_ng]
    have k1' : k + 1 < (ngL (uppR s)).length := by rw [ngL_len]; exact k1
    have c' : crP ((ngL (uppR s)).getD (k + 1) (0, 0)) ((ngL (uppR s)).getD k (0, 0)) (ngP v) = 0 := by rw [ngL_at k1, ngL_at (by omega), crP_ng]; exact c.symm
    have back : ∀ x, ngP v = ngP x → v = x := fun x e => by
      have := congrArg ngP e
      rwa [ngP_ng, ngP_ng] at this
    have key : ngP v = (ngL (uppR s)).getD (k + 1) (0, 0) ∨ ngP v = (ngL (uppR s)).getD k (0, 0) := by
      rcases mem_hul h3 hv with q | q
      · exact on_other U' L' k1' (mem_ngL.2 (by rw [ngP_ng]; exact q)) c'
      · exact on_own U k1' (mem_ngL.2 (by rw [ngP_ng]; exact q)) c'
    rw [ngL_at k1, ngL_at (by omega)] at key
    rcases key with e | e
    · exact n1 (back _ e)
    · exact n2 (back _ e)
theorem both_end {s : List Pt} (h : Asc s) (h0 : s ≠ []) {i j : Nat} (hi : i < (lowR s).length) (hj : j < (uppR s).length) (e : (lowR s).getD i (0, 0) = (uppR s).getD j (0, 0)) : i = 0 ∨ i + 1 = (lowR s).length := by
  rcases Nat.eq_zero_or_pos i with c | c
  · exact .inl c
  right
  rcases Nat.lt_or_ge (i + 1) (lowR s).length with d | d
  rotate_left
  · omega
  exfalso
  have L := low_ok h h0
  have U := upp_ok h h0
  obtain ⟨l1, l2, e1, e2, k1, k2⟩ := hul_ends h h0
  obtain ⟨i, rfl⟩ : ∃ m, i = m + 1 := ⟨i - 1, by omega⟩
  have c1 := cvx_at L.cvx i d
  have d1 := dsc_at L.dsc (i := i) (j := i + 1) (by omega) (by omega)
  have d2 := dsc_at L.dsc (i := i + 1) (j := i + 2) (by omega) d
  have mw : (lowR s).getD i (0, 0) ∈ s := L.mem _ (getD_mem' (by omega))
  have mu : (lowR s).getD (i + 2) (0, 0) ∈ s := L.mem _ (getD_mem' d)
  have mv : (lowR s).getD (i + 1) (0, 0) ∈ s := L.mem _ (getD_mem' (by omega))
  have w1 := lft_at L.lft i (by omega)
  have w2 := lft_at L.lft (i + 1) d
  have j0 : 0 < j := by
    rcases Nat.eq_zero_or_pos j with rfl | q
    · exfalso
      rw [e] at d2
      rcases k2 _ mu with q | q
      · rw [q] at d2; exact oP_irr d2
      · exact oP_asym d2 q
    · exact q
  have j1 : j + 1 < (uppR s).length := by
    rcases Nat.lt_or_ge (j + 1) (uppR s).length with q | q
    · exact q
    · exfalso
      have ej : j = (uppR s).length - 1 := by omega
      rw [ej, ← e1] at e
      rw [e] at d1
      rcases k1 _ mw with q | q
      · rw [q] at d1; exact oP_irr d1
      · exact oP_asym d1 q
  obtain ⟨j, rfl⟩ : ∃ m, j = m + 1 := ⟨j - 1, by omega⟩
  have c2 := cvx_at U.cvx j (by rw [ngL_len]; exact j1)
  have l3 := lft_at U.lft j (by rw [ngL_len]; omega)
  have l4 := lft_at U.lft (j + 1) (by rw [ngL_len]; exact j1)
  have d3 := dsc_at U.dsc (i := j) (j := j + 1) (by omega) (by rw [ngL_len]; omega)
  have d4 := dsc_at U.dsc (i := j + 1) (j := j + 2) (by omega) (by rw [ngL_len]; exact j1)
  rw [ngL_at (by omega), ngL_at (by omega), ngL_at (by omega), crP_ng, ← e] at c2
  rw [ngL_at (by omega), ngL_at (by omega), plt_ng, ← e] at d3 d4
  have l3w := l3 (ngP ((lowR s).getD i (0, 0))) (by show ngP (ngP _) ∈ s; rw [ngP_ng]; exact mw)
  have l4w := l4 (ngP ((lowR s).getD i (0, 0))) (by show ngP (ngP _) ∈ s; rw [ngP_ng]; exact mw)
  rw [ngL_at (by omega), ngL_at (by omega), crP_ng, ← e] at l3w l4w
  have my : (uppR s).getD j (0, 0) ∈ s := upp_in h h0 (getD_mem' (by omega))
  have mz : (uppR s).getD (j + 2) (0, 0) ∈ s := upp_in h h0 (getD_mem' j1)
  have w1y := w1 _ my
  have w1z := w1 _ mz
  clear l3 l4 w1 w2
  generalize (lowR s).getD i (0, 0) = w at *
  generalize (lowR s).getD (i + 1) (0, 0) = v at *
  generalize (uppR s).getD j (0, 0) = y at *
  generalize (uppR s).getD (j + 2) (0, 0) = z at *
  have f1 : crP z v y = cr2 (dif z v) (dif v y) := by unfold crP crossI cr2 dif; simp only; grind
  have f2 : crP v w y = cr2 (dif v y) (dif w v) := by unfold crP crossI cr2 dif; simp only; grind
  have f3 : crP v w z = -cr2 (dif z v) (dif w v) := by unfold crP crossI cr2 dif; simp only; grind
  have := (cr_tr (plt_pos.1 d4) (plt_pos.1 d3) (plt_pos.1 d1) (by omega) (by omega)).2 (.inl (by omega))
  omega
theorem dsc_nodup {R : List Pt} (h : Dsc R) : R.Nodup := List.Pairwise.imp (fun {a b} hab e => by subst e; exact oP_irr hab) h
theorem nodup_rv {R : List Pt} (h : R.reverse.Nodup) : R.Nodup := (List.pairwise_reverse.1 h).imp fun h => Ne.symm h
theorem hul_nodup {s : List Pt} (h : Asc s) : (hulL s).Nodup := by
  by_cases h3 : 3 ≤ s.length
  rotate_left
  · unfold hulL
    rw [if_pos (by omega)]
    exact List.Pairwise.imp (fun {a b} hab e => by subst e; exact oP_irr hab) h
  have h0 : s ≠ [] := by intro e; rw [e] at h3; simp at h3
  have eH : hulL s = (chn [] s).take ((chn [] s).length - 1) ++ (chn [] (revP s)).take ((chn [] (revP s)).length - 1) := by unfold hulL; rw [if_neg (by omega)]
  have e1 : (lowR s) = (chn [] s).reverse := (chn_rev s []).symm
  have e2 : (uppR s) = (chn [] (revP s)).reverse := (chn_rev (revP s) []).symm
  have n1 : (chn [] s).Nodup := by
    have := dsc_nodup (low_ok h h0).dsc
    rw [e1] at this
    exact nodup_rv this
  have n2 : (chn [] (revP s)).Nodup := by
    have := dsc_nodup (upp_ok h h0).dsc
    unfold ngL at this
    have this : (uppR s).Nodup := (List.pairwise_map.1 this).imp fun h e => h (congrArg ngP e)
    rw [e2] at this
    exact nodup_rv this
  obtain ⟨l1, l2, q1, q2, k1, k2⟩ := hul_ends h h0
  have p1 := low_len s
  have p2 := upp_len s
  have l1' : 2 ≤ (lowR s).length := by rw [p1]; exact chn_ge (by omega)
  have l2' : 2 ≤ (uppR s).length := by rw [p2]; exact chn_ge (by rw [revP_len]; omega)
  rw [eH]
  refine List.nodup_append.2 ⟨n1.sublist (List.take_sublist _ _), n2.sublist (List.take_sublist _ _), fun a ha b hb hab => ?_⟩
  obtain ⟨i, hi, rfl⟩ := List.getElem_of_mem ha
  obtain ⟨j, hj, rfl⟩ := List.getElem_of_mem hb
  have hi' : i < (chn [] s).length - 1 := by simp at hi; omega
  have hj' : j < (chn [] (revP s)).length - 1 := by simp at hj; omega
  have ea : (chn [] s).getD i (0, 0) = (chn [] (revP s)).getD j (0, 0) := by
    have a1 : i < (chn [] s).length := by omega
    have b1 : j < (chn [] (revP s)).length := by omega
    simpa [a1, b1] using hab
  rw [low_at s (by omega), upp_at s (by omega)] at ea
  rcases both_end h h0 (by omega) (by omega) ea with c | c
  · omega
  · have c' : i = 0 := by omega
    have : (lowR s).length - 1 - i = (lowR s).length - 1 := by omega
    rw [this, ← q2] at ea
    have d := dsc_at (upp_ok h h0).dsc (i := 0) (j := (uppR s).length - 1 - j) (by omega) (by rw [ngL_len]; omega)
    rw [ngL_at (by omega), ngL_at (by omega), plt_ng, ea] at d
    exact oP_irr d
theorem hul_cvh {s : List Pt} (h : Asc s) (h3 : 3 ≤ (hulL s).length) : CvH (hulL s) := by
  have hs : 3 ≤ s.length := by
    rcases Nat.lt_or_ge s.length 3 with c | c
    · unfold hulL at h3
      rw [if_pos c] at h3
      exact h3
    · exact c
  exact ⟨h3, hul_nodup h, fun j hj v hv n1 n2 => hul_strict h hs hj hv n1 n2⟩
theorem nd_inj {h : List Pt} (hn : h.Nodup) {i j : Nat} (hi : i < h.length) (hj : j < h.length) (e : h.getD i (0, 0) = h.getD j (0, 0)) : i = j := by
  rcases Nat.lt_trichotomy i j with c | c | c
  · exact absurd (by simpa [hi, hj] using e) (List.pairwise_iff_getElem.1 hn i j hi hj c)
  · exact c
  · exact absurd (by simpa [hi, hj] using e.symm) (List.pairwise_iff_getElem.1 hn j i hj hi c)
theorem nx_ne {h : List Pt} (H : CvH h) {i : Nat} (hi : i < h.length) : (i + 1) % h.length ≠ i ∧ (i + 2) % h.length ≠ i ∧ (i + 2) % h.length ≠ (i + 1) % h.length := by
  have h3 := H.three
  generalize h.length = n at *
  have e1 : (i + 1) % n = if i + 1 = n then 0 else i + 1 := by
    split
    · rename_i e; rw [e, Nat.mod_self]
    · exact Nat.mod_eq_of_lt (by omega)
  have e2 : (i + 2) % n = if i + 2 = n then 0 else if i + 1 = n then 1 else i + 2 := by
    split
    · rename_i e; rw [e, Nat.mod_self]
    · split
      · have : i + 2 = n + 1 := by omega
        rw [this, Nat.add_mod_left, Nat.mod_eq_of_lt (by omega)]
      · exact Nat.mod_eq_of_lt (by omega)
  rw [e1, e2]
  split <;> split <;> (try split) <;> omega
theorem cvh_left {h : List Pt} (H : CvH h) {j k : Nat} (hj : j < h.length) (hk : k < h.length) (n1 : k ≠ j) (n2 : k ≠ (j + 1) % h.length) : 0 < crP (h.getD j (0, 0)) (nxP h j) (h.getD k (0, 0)) := by
  refine H.left j hj _ (getD_mem' hk) (fun e => n1 (nd_inj H.nodup hk hj e)) fun e => n2 (nd_inj H.nodup hk (Nat.mod_lt _ (by omega)) e)
theorem low_hul {s : List Pt} (h : Asc s) (h3 : 3 ≤ s.length) {v : Pt} (hv : v ∈ lowR s) : v ∈ hulL s := by
  have h0 : s ≠ [] := by intro e; rw [e] at h3; simp at h3
  obtain ⟨l1, l2, e1, e2, _, _⟩ := hul_ends h h0
  have eH : hulL s = (chn [] s).take ((chn [] s).length - 1) ++ (chn [] (revP s)).take ((chn [] (revP s)).length - 1) := by unfold hulL; rw [if_neg (by omega)]
  have q1 := low_len s
  have q2 := upp_len s
  have l2' : 2 ≤ (uppR s).length := by rw [q2]; exact chn_ge (by rw [revP_len]; omega)
  rw [eH]
  obtain ⟨i, hi, hiv⟩ := List.getElem_of_mem hv
  have ev : (lowR s).getD i (0, 0) = v := by simp [hi, hiv]
  rcases Nat.eq_zero_or_pos i with rfl | c
  · refine List.mem_append.2 (.inr ?_)
    rw [e1] at ev
    have := upp_at s (k := 0) l2
    rw [Nat.sub_zero, ev] at this
    rw [← this]
    have m : ((chn [] (revP s)).take ((chn [] (revP s)).length - 1)).getD 0 (0, 0) ∈ (chn [] (revP s)).take ((chn [] (revP s)).length - 1) := getD_mem' (by simp; omega)
    rw [getD_take' _ (by omega)] at m
    exact m
  · refine List.mem_append.2 (.inl ?_)
    have := low_at s (k := (lowR s).length - 1 - i) (by omega)
    have e3 : (lowR s).length - 1 - ((lowR s).length - 1 - i) = i := by omega
    rw [e3, ev] at this
    rw [← this]
    have m : ((chn [] s).take ((chn [] s).length - 1)).getD ((lowR s).length - 1 - i) (0, 0) ∈ (chn [] s).take ((chn [] s).length - 1) := getD_mem' (by simp; omega)
    rw [getD_take' _ (by omega)] at m
    exact m
theorem upp_hul {s : List Pt} (h : Asc s) (h3 : 3 ≤ s.length) {v : Pt} (hv : v ∈ uppR s) : v ∈ hulL s := by
  have h0 : s ≠ [] := by intro e; rw [e] at h3; simp at h3
  obtain ⟨l1, l2, e1, e2, _, _⟩ := hul_ends h h0
  have eH : hulL s = (chn [] s).take ((chn [] s).length - 1) ++ (chn [] (revP s)).take ((chn [] (revP s)).length - 1) := by unfold hulL; rw [if_neg (by omega)]
  have q1 := low_len s
  have q2 := upp_len s
  have l1' : 2 ≤ (lowR s).length := by rw [q1]; exact chn_ge (by omega)
  rw [eH]
  obtain ⟨i, hi, hiv⟩ := List.getElem_of_mem hv
  have ev : (uppR s).getD i (0, 0) = v := by simp [hi, hiv]
  rcases Nat.eq_zero_or_pos i with rfl | c
  · refine List.mem_append.2 (.inl ?_)
    rw [e2] at ev
    have := low_at s (k := 0) l1
    rw [Nat.sub_zero, ev] at this
    rw [← this]
    have m : ((chn [] s).take ((chn [] s).length - 1)).getD 0 (0, 0) ∈ (chn [] s).take ((chn [] s).length - 1) := getD_mem' (by simp; omega)
    rw [getD_take' _ (by omega)] at m
    exact m
  · refine List.mem_append.2 (.inr ?_)
    have := upp_at s (k := (uppR s).length - 1 - i) (by omega)
    have e3 : (uppR s).length - 1 - ((uppR s).length - 1 - i) = i := by omega
    rw [e3, ev] at this
    rw [← this]
    have m : ((chn [] (revP s)).take ((chn [] (revP s)).length - 1)).getD ((uppR s).length - 1 - i) (0, 0) ∈ (chn [] (revP s)).take ((chn [] (revP s)).length - 1) := getD_mem' (by simp; omega)
    rw [getD_take' _ (by omega)] at m
    exact m
theorem Lft.sub {S T : Pt → Prop} (hST : ∀ q, T q → S q) : ∀ {R : List Pt}, Lft S R → Lft T R
  | [], _ => trivial
  | [_], _ => trivial
  | _ :: _ :: _, h => ⟨fun q hq => h.1 q (hST q hq), Lft.sub hST h.2⟩
theorem ChI.sub {S T : Pt → Prop} {R : List Pt} (h : ChI S R) (hST : ∀ q, T q → S q) (hR : ∀ z ∈ R, T z) : ChI T R := by
  refine ⟨hR, h.dsc, h.cvx, h.lft.sub hST, ?_, ?_⟩
  · obtain ⟨m, h1, h2⟩ := h.bot
    exact ⟨m, h1, fun q hq => h2 q (hST q hq)⟩
  · obtain ⟨m, h1, h2⟩ := h.top
    exact ⟨m, h1, fun q hq => h2 q (hST q hq)⟩
theorem hul_of {s : List Pt} (h : 2 ≤ s.length) : hulL s = (lowR s).reverse.take ((lowR s).length - 1) ++ (uppR s).reverse.take ((uppR s).length - 1) := by
  have e1 : (lowR s).reverse = chn [] s := by rw [show lowR s = (chn [] s).reverse from (chn_rev s []).symm, List.reverse_reverse]
  have e2 : (uppR s).reverse = chn [] (revP s) := by rw [show uppR s = (chn [] (revP s)).reverse from (chn_rev (revP s) []).symm, List.reverse_reverse]
  rw [e1, e2, low_len, upp_len]
  unfold hulL
  split
  · exact (hul_two (by omega)).symm
  · rfl
theorem hul_same {s t : List Pt} (hs : Asc s) (ht : Asc t) (h2 : 2 ≤ s.length) (k2 : 2 ≤ t.length) (hts : ∀ q, q ∈ t → q ∈ s) (h1 : ∀ z ∈ lowR s, z ∈ t) (h3 : ∀ z ∈ uppR s, z ∈ t) : hulL t = hulL s := by
  have s0 : s ≠ [] := by intro e; rw [e] at h2; simp at h2
  have t0 : t ≠ [] := by intro e; rw [e] at k2; simp at k2
  have L : lowR t = lowR s := (low_ok ht t0).uniq ((low_ok hs s0).sub hts h1)
  have U : uppR t = uppR s := by
    have : ngL (uppR t) = ngL (uppR s) := (upp_ok ht t0).uniq ((upp_ok hs s0).sub (fun q hq => hts _ hq) fun z hz => h3 _ (mem_ngL.1 hz))
    have := congrArg ngL this
    rwa [ngL_ng, ngL_ng] at this
  rw [hul_of h2, hul_of k2, L, U]
theorem asc_nodup {s : List Pt} (h : Asc s) : s.Nodup := List.Pairwise.imp (fun {a b} hab e => by subst e; exact oP_irr hab) h
theorem nodup_le : ∀ {l m : List Pt}, l.Nodup → (∀ x ∈ l, x ∈ m) → l.length ≤ m.length
  | [], _, _, _ => Nat.zero_le _
  | x :: l, m, hn, hs => by
    have hn' := List.nodup_cons.1 hn
    have hx : x ∈ m := hs x (by simp)
    have := nodup_le (l := l) (m := m.erase x) hn'.2 fun y hy => by
      have : y ≠ x := fun e => hn'.1 (e ▸ hy)
      exact (List.mem_erase_of_ne this).2 (hs y (List.mem_cons_of_mem _ hy))
    rw [List.length_erase_of_mem hx] at this
    have hp : 0 < m.length := List.length_pos_of_mem hx
    simp only [List.length_cons]
    omega
theorem hul_le {s : List Pt} (h : Asc s) : (hulL s).length ≤ s.length := nodup_le (hul_nodup h) fun _ hx => hul_in h hx
def dirV (dx dy : Int) (p : Pt) : Int := p.1 * dx + p.2 * dy
theorem fan_step {f : Nat → Int} (h1 : 0 ≤ f 1) : ∀ m, f (m + 2) ≤ 0 → ∃ i, 1 ≤ i ∧ i + 1 ≤ m + 2 ∧ 0 ≤ f i ∧ f (i + 1) ≤ 0
  | 0, h => ⟨1, by omega, by omega, h1, h⟩
  | m + 1, h => by
    by_cases c : f (m + 2) ≤ 0
    · obtain ⟨i, a, b, d, e⟩ := fan_step h1 m c
      exact ⟨i, a, by omega, d, e⟩
    · exact ⟨m + 2, by omega, by omega, by omega, h⟩
theorem fan_tri {h : List Pt} (H : CvH h) {q : Pt} (hq : ∀ j, j < h.length → 0 ≤ crP (h.getD j (0, 0)) (nxP h j) q) :
    ∃ i, 1 ≤ i ∧ i + 1 < h.length ∧ 0 ≤ crP (h.getD 0 (0, 0)) (h.getD i (0, 0)) q ∧ 0 ≤ crP (h.getD i (0, 0)) (h.getD (i + 1) (0, 0)) q ∧ 0 ≤ crP (h.getD (i + 1) (0, 0)) (h.getD 0 (0, 0)) q := by
  have h3 := H.three
  have nx : ∀ i, i + 1 < h.length → nxP h i = h.getD (i + 1) (0, 0) := fun i hi => by unfold nxP; rw [Nat.mod_eq_of_lt hi]
  have neg : ∀ i, crP (h.getD i (0, 0)) (h.getD 0 (0, 0)) q = -crP (h.getD 0 (0, 0)) (h.getD i (0, 0)) q := fun i => by unfold crP crossI; grind
  have e1 : 0 ≤ crP (h.getD 0 (0, 0)) (h.getD 1 (0, 0)) q := by
    have := hq 0 (by omega)
    rwa [nx 0 (by omega)] at this
  obtain ⟨m, hm⟩ : ∃ m, h.length = m + 3 := ⟨h.length - 3, by omega⟩
  have e2 : crP (h.getD 0 (0, 0)) (h.getD (m + 2) (0, 0)) q ≤ 0 := by
    have := hq (m + 2) (by omega)
    have e : nxP h (m + 2) = h.getD 0 (0, 0) := by unfold nxP; rw [hm, Nat.mod_self]
    rw [e, neg] at this
    omega
  obtain ⟨i, a, b, c, d⟩ := fan_step (f := fun i => crP (h.getD 0 (0, 0)) (h.getD i (0, 0)) q) e1 m e2
  refine ⟨i, a, by omega, c, ?_, ?_⟩
  · have := hq i (by omega)
    rwa [nx i (by omega)] at this
  · rw [neg]
    omega
theorem tri_pos {h : List Pt} (H : CvH h) {i : Nat} (h1 : 1 ≤ i) (hi : i + 1 < h.length) : 0 < crP (h.getD 0 (0, 0)) (h.getD i (0, 0)) (h.getD (i + 1) (0, 0)) := by
  have := cvh_left H (j := i) (k := 0) (by omega) (by omega) (by omega) (by rw [Nat.mod_eq_of_lt (by omega)]; omega)
  have e : nxP h i = h.getD (i + 1) (0, 0) := by unfold nxP; rw [Nat.mod_eq_of_lt (by omega)]
  rw [e] at this
  have r : crP (h.getD 0 (0, 0)) (h.getD i (0, 0)) (h.getD (i + 1) (0, 0)) = crP (h.getD i (0, 0)) (h.getD (i + 1) (0, 0)) (h.getD 0 (0, 0)) := by unfold crP crossI; grind
  omega
theorem bary_dir (a b c q : Pt) (dx dy : Int) : crP a b c * dirV dx dy q = crP b c q * dirV dx dy a + crP c a q * dirV dx dy b + crP a b q * dirV dx dy c := by
  unfold crP crossI dirV
  grind
theorem bary_sum (a b c q : Pt) : crP a b c = crP b c q + crP c a q + crP a b q := by
  unfold crP crossI
  grind
theorem le_of_bary {s al be ga x y z q M : Int} (hs : 0 < s) (h1 : 0 ≤ al) (h2 : 0 ≤ be) (h3 : 0 ≤ ga) (he : s = al + be + ga) (hq : s * q = al * x + be * y + ga * z) (hx : x ≤ M) (hy : y ≤ M) (hz : z ≤ M) : q ≤ M := by
  have p1 := Int.mul_le_mul_of_nonneg_left hx h1
  have p2 := Int.mul_le_mul_of_nonneg_left hy h2
  have p3 := Int.mul_le_mul_of_nonneg_left hz h3
  have : s * q ≤ s * M := by
    rw [hq, he, Int.add_mul, Int.add_mul]
    omega
  exact Int.le_of_mul_le_mul_left this hs
theorem le_of_bary2 {s al be x y q M : Int} (hs : 0 < s) (h1 : 0 ≤ al) (h2 : 0 ≤ be) (he : s = al + be) (hq : s * q = al * x + be * y) (hx : x ≤ M) (hy : y ≤ M) : q ≤ M := by
  have p1 := Int.mul_le_mul_of_nonneg_left hx h1
  have p2 := Int.mul_le_mul_of_nonneg_left hy h2
  have : s * q ≤ s * M := by
    rw [hq, he, Int.add_mul]
    omega
  exact Int.le_of_mul_le_mul_left this hs
theorem cvh_max {h : List Pt} (H : CvH h) {q : Pt} (hq : ∀ j, j < h.length → 0 ≤ crP (h.getD j (0, 0)) (nxP h j) q) {dx dy M : Int} (hM : ∀ v ∈ h, dirV dx dy v ≤ M) : dirV dx dy q ≤ M := by
  obtain ⟨i, i1, i2, g1, g2, g3⟩ := fan_tri H hq
  exact le_of_bary (tri_pos H i1 i2) g2 g3 g1 (bary_sum _ _ _ _) (bary_dir _ _ _ q dx dy) (hM _ (getD_mem' (by omega))) (hM _ (getD_mem' (by omega))) (hM _ (getD_mem' i2))
theorem hul_short {s : List Pt} (h : Asc s) (h3 : 3 ≤ s.length) (hl : (hulL s).length < 3) : (lowR s).length = 2 ∧ (uppR s).length = 2 := by
  have h0 : s ≠ [] := by intro e; rw [e] at h3; simp at h3
  have q1 := low_len s
  have q2 := upp_len s
  have l1 : 2 ≤ (lowR s).length := by rw [q1]; exact chn_ge (by omega)
  have l2 : 2 ≤ (uppR s).length := by rw [q2]; exact chn_ge (by rw [revP_len]; omega)
  have e : (hulL s).length = ((lowR s).length - 1) + ((uppR s).length - 1) := by
    rw [hul_of (by omega)]
    simp
  omega
theorem hul_max {s : List Pt} (h : Asc s) {dx dy M : Int} (hM : ∀ v ∈ hulL s, dirV dx dy v ≤ M) : ∀ q ∈ s, dirV dx dy q ≤ M := by
  intro q hq
  by_cases h3 : 3 ≤ s.length
  rotate_left
  · have e : hulL s = s := by unfold hulL; rw [if_pos (by omega)]
    exact hM q (by rw [e]; exact hq)
  by_cases hl : 3 ≤ (hulL s).length
  · exact cvh_max (hul_cvh h hl) (fun j hj => hul_left h h3 hj hq) hM
  · have h0 : s ≠ [] := by intro e; rw [e] at h3; simp at h3
    obtain ⟨k1, k2⟩ := hul_short h h3 (by omega)
    obtain ⟨_, _, e1, e2, t1, t2⟩ := hul_ends h h0
    rw [k2] at e1
    rw [k1] at e2
    have g1 := lft_at (low_ok h h0).lft 0 (by omega) q hq
    have g2 := lft_at (upp_ok h h0).lft 0 (by rw [ngL_len]; omega) (ngP q) (by show ngP (ngP q) ∈ s; rw [ngP_ng]; exact hq)
    rw [ngL_at (by omega), ngL_at (by omega), crP_ng, ← e1, e2] at g2
    have ma : (lowR s).getD 1 (0, 0) ∈ hulL s := low_hul h h3 (getD_mem' (by omega))
    have mb : (lowR s).getD 0 (0, 0) ∈ hulL s := low_hul h h3 (getD_mem' (by omega))
    have Ma := hM _ ma
    have Mb := hM _ mb
    rw [e2] at t2
    have hab := dsc_at (low_ok h h0).dsc (i := 0) (j := 1) (by omega) (by omega)
    have u1 := t1 q hq
    have u2 := t2 q hq
    simp only [Nat.zero_add] at g1 g2 u1 u2 hab Ma Mb
    have hs : (2 - 1 : Nat) = 1 := rfl
    rw [hs] at *
    generalize (lowR s).getD 0 (0, 0) = b at *
    generalize (lowR s).getD 1 (0, 0) = a at *
    have z : crP a b q = 0 := by
      have : crP b a q = -crP a b q := by unfold crP crossI; grind
      omega
    obtain ⟨a1, a2⟩ := a
    obtain ⟨b1, b2⟩ := b
    obtain ⟨x, y⟩ := q
    have o1 : x = b1 ∧ y = b2 ∨ (x < b1 ∨ x = b1 ∧ y < b2) := by
      rcases u1 with u | u
      · exact .inl (Prod.mk.inj u)
      · exact .inr (pltB_iff.1 u)
    have o2 : x = a1 ∧ y = a2 ∨ (a1 < x ∨ a1 = x ∧ a2 < y) := by
      rcases u2 with u | u
      · exact .inl (Prod.mk.inj u)
      · exact .inr (pltB_iff.1 u)
    have o3 := pltB_iff.1 hab
    unfold dirV at *
    unfold crP crossI at z
    simp only at *
    by_cases hx : a1 < b1
    · have key : (b1 - a1) * (x * dx + y * dy) = (b1 - x) * (a1 * dx + a2 * dy) + (x - a1) * (b1 * dx + b2 * dy) := by grind
      exact le_of_bary2 (by omega) (by omega) (by omega) (by omega) key Ma Mb
    · obtain rfl : a1 = b1 := by omega
      obtain rfl : x = a1 := by omega
      have key : (b2 - a2) * (x * dx + y * dy) = (b2 - y) * (x * dx + a2 * dy) + (y - a2) * (x * dx + b2 * dy) := by grind
      exact le_of_bary2 (by omega) (by omega) (by omega) (by omega) key Ma Mb
theorem two_of {l : List Pt} {x y : Pt} (hx : x ∈ l) (hy : y ∈ l) (h : x ≠ y) : 2 ≤ l.length := by
  match l, hx, hy with
  | [], hx, _ => cases hx
  | [z], hx, hy => exact absurd ((List.mem_singleton.1 hx).trans (List.mem_singleton.1 hy).symm) h
  | _ :: _ :: _, _, _ => simp
theorem hul_two_mem {s : List Pt} (h : Asc s) (h2 : 2 ≤ s.length) : ∃ x y, x ∈ hulL s ∧ y ∈ hulL s ∧ x ≠ y := by
  by_cases h3 : 3 ≤ s.length
  · have h0 : s ≠ [] := by intro e; rw [e] at h3; simp at h3
    have l1 : 2 ≤ (lowR s).length := by rw [low_len]; exact chn_ge h2
    refine ⟨_, _, low_hul h h3 (getD_mem' (k := 0) (by omega)), low_hul h h3 (getD_mem' (k := 1) (by omega)), fun e => ?_⟩
    exact absurd (nd_inj (dsc_nodup (low_ok h h0).dsc) (by omega) (by omega) e) (by decide)
  · have e : hulL s = s := by unfold hulL; rw [if_pos (by omega)]
    rw [e]
    exact ⟨_, _, getD_mem' (k := 0) (by omega), getD_mem' (k := 1) (by omega), fun e => absurd (nd_inj (asc_nodup h) (by omega) (by omega) e) (by decide)⟩
end Go.Proofs.Ytbfoheblcoakiaa
