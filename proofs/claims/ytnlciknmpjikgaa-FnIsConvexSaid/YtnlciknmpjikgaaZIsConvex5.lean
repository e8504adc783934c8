/-
  Texts that the proof needs, merged. Written by an AI agent.
-/
import Derived.Orders
import Derived.Below
import Derived.OrdersIn
import Derived.Deep.LoopGhost
import Derived.WalkKit
import Derived.Laws.CopyRow
import Derived.Laws.AppendOwn
import Derived.Laws.Slices
import Derived.Laws.MakeOwn
import Derived.Test.YtnlciknmpjikgaaRows
import Derived.ProofKit
import Derived.OpenShut
import Derived.Carry
import Derived.IntWalk
import Derived.Test.YtnlciknmpjikgaaProg
import Derived.WalkSpells
import Derived.WalkLawsBesides
import Derived.Lib.Hide
import Derived.Deep.QuietTactic
import Derived.BigQuiet
import Derived.KernelRfl
import Derived.Deep.RegionHeld3
import Derived.LoopTactic
import Derived.Laws.StructEq
import Derived.Laws.Tables
import Derived.RangeFuncNested
import Derived.RangeFuncLeaves
import Derived.Deep.Slices
import Derived.Deep.Fields
import Derived.ChangeSame
import Derived.Shelf.SlSortCmp.WholeK
import Derived.Sort.Grow
import Derived.Deep.DeepCutAuto
import Derived.Shelf.SlSortCmp.NoneTotal
import Derived.Test.YtnlciknmpjikgaaZIsConvex4
set_option linter.all false
namespace Go.Proofs.Ytnlciknmpjikgaa
open Go.RowKit
def seqL : Code → Code
  | .seq x _ => x
  | _ => .skip
def seqR : Code → Code
  | .seq _ y => y
  | _ => .skip
def inBlk : Code → Code
  | .block _ c => c
  | _ => .skip
def inLop : Code → Code
  | .loop c => c
  | _ => .skip
def rgOps : Code → List Oper
  | .region _ ops _ => ops.toList
  | _ => []
noncomputable def edC : Code := codeOf Try.f75
noncomputable def edB : Code := inLop (inBlk (seqR edC))
noncomputable def ed0 : Code := seqL edC
noncomputable def ed1 : Code := seqL edB
noncomputable def ed2 : Code := seqL (inBlk (seqL (seqR (seqR edB))))
noncomputable def ed3 : List Oper := rgOps (seqL (seqR (inBlk (seqL (seqR (seqR edB))))))
noncomputable def ed4 : Code := seqR (seqR (seqR edB))
theorem ed_is : codeOf Try.f75 = .seq ed0 (.block 0 (.loop (.seq ed1 (.seq (.cond (.tmp 8) .skip (.exit 0)) (.seq (.block 1 (.seq ed2 (.seq (.region 3 ed3.toArray true) (.cond (.tmp 25) .ret .skip)))) ed4))))) := by kernel_rfl
def edM (ps : List Pt) : List (Option Blk) := [some ⟨.view, .vals [ß 1 ps.length ps.length]⟩, some ⟨.view, .ints (flat ps)⟩]
def edS (l : Nat) (ps : List Pt) : St := ⟨.func (.yield l) #[] #[] :: .pointer (some ⟨0, 0, none⟩) :: List.replicate 25 undef, edM ps⟩
def edI (l : Nat) (ps : List Pt) (i : Nat) : St := ⟨(.func (.yield l) #[] #[] :: .pointer (some ⟨0, 0, none⟩) :: ω3 ß 1 ps.length ps.length :: .int .i64 ps.length :: .int .i64 i :: ω19 []), edM ps⟩
set_option maxRecDepth 100000 in
theorem tr_ed0 (l : Nat) (ps : List Pt) : asT Try.prog noJ (runM Try.prog (tabE B0) 30 12) ed0 (.leaf .normal) (edS l ps) = .leaf .normal ⟨[.func (Fn.yield l) #[] #[], .pointer (some ⟨0, 0, none⟩), .tuple #[], .tuple #[], .tuple #[], ß 1 (ps.length) (ps.length), .int .i64 ((↑ps.length : Int)), .int .i64 (0), .tuple #[], .tuple #[], .tuple #[], .tuple #[], .tuple #[], .tuple #[], .tuple #[], .tuple #[], .tuple #[], .tuple #[], .tuple #[], .tuple #[], .tuple #[], .tuple #[], .tuple #[], .tuple #[], .tuple #[], .tuple #[], .tuple #[]], [some ⟨.view, .vals [ß 1 (ps.length) (ps.length)]⟩, some ⟨.view, .ints (flat ps)⟩]⟩ := by kernel_rfl
set_option maxRecDepth 100000 in
theorem tr_ed1 (l : Nat) (ps : List Pt) (i : Nat) : asT Try.prog noJ (runM Try.prog (tabE B0) 30 12) ed1 (.leaf .normal) (edI l ps i) = .leaf .normal ⟨(.func (Fn.yield l) #[] #[] :: .pointer (some ⟨0, 0, none⟩) :: ω3 ß 1 (ps.length) (ps.length) :: .int .i64 ((↑ps.length : Int)) :: .int .i64 ((↑i : Int)) :: .bool (decide ((↑i : Int) < (↑ps.length : Int))) :: ω18 []), [some ⟨.view, .vals [ß 1 (ps.length) (ps.length)]⟩, some ⟨.view, .ints (flat ps)⟩]⟩ := by kernel_rfl
set_option maxRecDepth 100000 in
theorem tr_ed2 (l : Nat) (ps : List Pt) (i : Nat) : asT Try.prog noJ (runM Try.prog (tabE B0) 30 12) ed2 (fun s => thenT Try.prog 12 ed3 s (.leaf .normal)) (edI l ps i) = .need ((0 : Int) ≤ (↑i : Int) ∧ (↑i : Int) < (↑ps.length : Int)) (.need ((0 : Nat) + (↑i : Int).toNat * (2 : Nat) + (2 : Nat) ≤ (flat ps).length) (.need (¬(↑ps.length : Int) = (0 : Int)) (.need ((0 : Int) ≤ (ŵ ((↑i : Int) + (1 : Int))).tmod (↑ps.length : Int) ∧ (ŵ ((↑i : Int) + (1 : Int))).tmod (↑ps.length : Int) < (↑ps.length : Int)) (.need ((0 : Nat) + ((ŵ ((↑i : Int) + (1 : Int))).tmod (↑ps.length : Int)).toNat * (2 : Nat) + (2 : Nat) ≤ (flat ps).length) (.leaf .normal ⟨(.func (Fn.yield l) #[] #[] :: .pointer (some ⟨0, 0, none⟩) :: topV :: .int .i64 ((↑i : Int)) :: .pointer (some ⟨2, 0, none⟩) :: ß 1 (ps.length) (ps.length) :: .int .i64 ((↑ps.length : Int)) :: .int .i64 ((↑i : Int)) :: topV :: .int .i64 ((↑i : Int)) :: .pointer (some ⟨1, 0 + (↑i : Int).toNat * 2, none⟩) :: .agg #[.int .i64 ((flat ps).getD (0 + (↑i : Int).toNat * 2) 0), .int .i64 ((flat ps).getD (0 + (↑i : Int).toNat * 2 + 1) 0)] :: .func (Fn.yield l) #[] #[] :: .int .i64 ((↑i : Int)) :: .agg #[.int .i64 ((flat ps).getD (0 + (↑i : Int).toNat * 2) 0), .int .i64 ((flat ps).getD (0 + (↑i : Int).toNat * 2 + 1) 0)] :: ß 1 (ps.length) (ps.length) :: .int .i64 ((↑i : Int)) :: .int .i64 (ŵ ((↑i : Int) + 1)) :: ß 1 (ps.length) (ps.length) :: .int .i64 ((↑ps.length : Int)) :: .int .i64 ((ŵ ((↑i : Int) + 1)).tmod (↑ps.length : Int)) :: .pointer (some ⟨1, 0 + ((ŵ ((↑i : Int) + 1)).tmod (↑ps.length : Int)).toNat * 2, none⟩) :: .agg #[.int .i64 ((flat ps).getD (0 + ((ŵ ((↑i : Int) + 1)).tmod (↑ps.length : Int)).toNat * 2) 0), .int .i64 ((flat ps).getD (0 + ((ŵ ((↑i : Int) + 1)).tmod (↑ps.length : Int)).toNat * 2 + 1) 0)] :: .agg #[.int .i64 ((flat ps).getD (0 + (↑i : Int).toNat * 2) 0), .int .i64 ((flat ps).getD (0 + (↑i : Int).toNat * 2 + 1) 0), .int .i64 ((flat ps).getD (0 + ((ŵ ((↑i : Int) + 1)).tmod (↑ps.length : Int)).toNat * 2) 0), .int .i64 ((flat ps).getD (0 + ((ŵ ((↑i : Int) + 1)).tmod (↑ps.length : Int)).toNat * 2 + 1) 0)] :: ω3 []), [some ⟨.view, .vals [ß 1 (ps.length) (ps.length)]⟩, some ⟨.view, .ints (flat ps)⟩, some ⟨.box, .vals [.int .i64 ((flat ps).getD (0 + (↑i : Int).toNat * 2) 0), .int .i64 ((flat ps).getD (0 + (↑i : Int).toNat * 2 + 1) 0)]⟩, none]⟩))))) := by kernel_rfl
def edY (l : Nat) (ps : List Pt) (i : Nat) (b : Bool) : St := ⟨(.func (.yield l) #[] #[] :: .pointer (some ⟨0, 0, none⟩) :: ω3 ß 1 ps.length ps.length :: .int .i64 ps.length :: .int .i64 i :: ω16 [.bool b, topV, topV]), edM ps⟩
set_option maxRecDepth 100000 in
theorem tr_ed5 (l : Nat) (ps : List Pt) (i : Nat) (b : Bool) : seqT Try.prog noJ (runM Try.prog (tabE B0) 30 12) ed3 2 (.leaf .normal) 13 (ed3.drop 13) (edY l ps i b) = .leaf .normal ⟨(.func (Fn.yield l) #[] #[] :: .pointer (some ⟨0, 0, none⟩) :: ω3 ß 1 (ps.length) (ps.length) :: .int .i64 ((↑ps.length : Int)) :: .int .i64 ((↑i : Int)) :: ω16 [.bool (b), .bool (!b), topV]), [some ⟨.view, .vals [ß 1 (ps.length) (ps.length)]⟩, some ⟨.view, .ints (flat ps)⟩]⟩ := by kernel_rfl
def edA (ps : List Pt) (i : Nat) : Value := .agg #[.int .i64 ((flat ps).getD (0 + (↑i : Int).toNat * 2) 0), .int .i64 ((flat ps).getD (0 + (↑i : Int).toNat * 2 + 1) 0), .int .i64 ((flat ps).getD (0 + ((ŵ ((↑i : Int) + 1)).tmod (↑ps.length : Int)).toNat * 2) 0), .int .i64 ((flat ps).getD (0 + ((ŵ ((↑i : Int) + 1)).tmod (↑ps.length : Int)).toNat * 2 + 1) 0)]
def edZ (b : Bool) : St := ⟨(ω24 [.bool b, topV, topV]), []⟩
set_option maxRecDepth 100000 in
theorem tr_edZ (b : Bool) : seqT Try.prog noJ (runM Try.prog (tabE B0) 30 12) ed3 0 (.leaf .normal) 13 (ed3.drop 13) (edZ b) = .leaf .normal ⟨(ω24 [.bool (b), .bool (!b), topV]), []⟩ := by kernel_rfl
set_option maxRecDepth 100000 in
theorem tr_ed4 (l : Nat) (ps : List Pt) (i : Nat) : asT Try.prog noJ (runM Try.prog (tabE B0) 30 12) ed4 (.leaf .normal) (edI l ps i) = .leaf .normal ⟨(.func (Fn.yield l) #[] #[] :: .pointer (some ⟨0, 0, none⟩) :: ω3 ß 1 (ps.length) (ps.length) :: .int .i64 ((↑ps.length : Int)) :: .int .i64 (ŵ ((↑i : Int) + 1)) :: ω18 [.int .i64 (ŵ ((↑i : Int) + 1))]), [some ⟨.view, .vals [ß 1 (ps.length) (ps.length)]⟩, some ⟨.view, .ints (flat ps)⟩]⟩ := by kernel_rfl
def edV (ps : List Pt) (i : Nat) : Value := .agg #[.int .i64 (ps.getD i (0, 0)).1, .int .i64 (ps.getD i (0, 0)).2, .int .i64 (ps.getD ((i + 1) % ps.length) (0, 0)).1, .int .i64 (ps.getD ((i + 1) % ps.length) (0, 0)).2]
def encE (ps : List Pt) (i : Nat) : List Value := [.int .i64 i, edV ps i]
theorem edA_is {ps : List Pt} {i : Nat} (h : i < ps.length) (hl : ps.length ≤ 1000000000) : edA ps i = edV ps i := by
  have e1 : ((ŵ ((i : Int) + 1)).tmod (ps.length : Int)).toNat = (i + 1) % ps.length := by
    rw [wsucc h hl]
    rw [Int.tmod_eq_emod_of_nonneg (by omega)]
    omega
  unfold edA edV
  rw [e1]
  simp only [Nat.zero_add, Int.toNat_natCast, flat_get0, flat_get1]
theorem detA_of {P : Program} {J : TabJ} {callM : CallM} (hJ : GSound P J.g) (hcallM : CallMOk P callM) {c : Code} {s s' : St} (h : asT P J callM c (.leaf .normal) s = .leaf .normal s') : DetA P c s s' := by
  obtain ⟨u, h1, h2⟩ := asT_det (F := fun _ u => u = s') (H := fun _ _ => False) hJ hcallM c (.leaf .normal) s (by rw [h]; rfl)
  obtain rfl : u = s' := h1
  exact h2
theorem MM_ok : CallMOk Try.prog (runM Try.prog (tabE B0) 30 12) := runM_ok mixed (tabE_ok B0_ok) 30 12
def edF (nb nr : Nat) : Nat → Option (Option Nat)
  | 0 => some (some nb)
  | 1 => some (some nr)
  | _ => none
theorem view_re {ρ : Nat → Option Pl} {B B' : Nat → Prop} {w W : World} {n n' : Nat} {cs cs' : Cs} {f : Nat → Option (Option Nat)} (h : BlkOk ρ B w n ⟨.view, cs⟩) (hf : f n' = some (some n)) (hs : w.heap.size ≤ W.heap.size) (hk : ∀ p, ρ n = some p → ¬ nilPl p → W.heap[p.1]? = w.heap[p.1]?)
    (hv : ∀ (k : Nat) v', cs'.list[k]? = some v' → ∃ v, cs.list[k]? = some v ∧ ∀ x, VR ρ v x → VR (rhoOf ρ f) v' x) : BlkOk (rhoOf ρ f) B' W n' ⟨.view, cs'⟩ := by
  rcases h with ⟨p, h1, h2⟩ | ⟨g, o, cp, h1, hq, h2, h3⟩
  · exact .inl ⟨p, (rhoOf_some hf).trans h1, h2⟩
  · refine .inr ⟨g, o, cp, (rhoOf_some hf).trans h1, hq, by omega, fun k v' hv' => ?_⟩
    obtain ⟨v, k1, k2⟩ := hv k v' hv'
    obtain ⟨x, k3, k4⟩ := h3 k v k1
    exact ⟨x, (World.cell?_of_block (w := w) (a := ⟨g, o + k, none⟩) (hk _ h1 hq.not)).trans k3, k2 x k4⟩
noncomputable def o12 : Oper := (ed3[12]?).getD default
theorem o12_at : ed3.toArray[12]? = some o12 := by kernel_rfl
theorem o12_op : o12.op = .call { callee := .value (.tmp 12), args := #[.tmp 13, .tmp 23], argTypes := #[3, 58] } := by kernel_rfl
theorem o12_dst : o12.dst = some 24 := by kernel_rfl
theorem o12_guard : o12.guard = none := by kernel_rfl
theorem ed3_len : ed3.length = 14 := by kernel_rfl
def wE (ρE : Nat → Option Pl) (W : World) : Start := ⟨W, ρE, fun k => k < W.heap.size, fun _ h => h, [], none⟩
theorem wE_grown {ρE : Nat → Option Pl} {W : World} {s : FS} {a : Act} {w : World} (h : Conc (wE ρE W) s a w) : W.grownBy w none :=
  ⟨h.2.2.1.os, h.2.2.1.tape, h.2.2.1.output, h.2.2.1.size, fun k hk _ => h.2.2.1.block k hk⟩
theorem rep_lt {n k j : Nat} {v : Value} (h : k ≠ j) (hj : j < n) : ((List.replicate n topV).set k v).getD j undef = topV := by
  rw [List.getD_eq_getElem?_getD, List.getElem?_set_ne h, List.getElem?_replicate, if_pos hj]
  rfl
theorem rep_ge {n k j : Nat} {v : Value} (h : k ≠ j) (hj : n ≤ j) : ((List.replicate n topV).set k v).getD j undef = undef := by
  rw [List.getD_eq_getElem?_getD, List.getElem?_set_ne h, List.getElem?_replicate, if_neg (by omega)]
  rfl
set_option maxRecDepth 100000 in
theorem ed_iter (ps : List Pt) (hlen : ps.length ≤ 1000000000) {s : FS} {nb nr c : Nat} {Kn : List Nat} (h0 : s.blk nb = some ⟨.view, .vals [.slice (some ⟨nr, 0, none⟩) ps.length c]⟩) (h1 : s.blk nr = some ⟨.view, .ints (flat ps)⟩) (hb : nb ∈ Kn) (hr : nr ∈ Kn)
    (ρ0 ρ : Nat → Option Pl) (B : Nat → Prop) (w : World) (lb : Array Value) (hlb : VRs ρ [.pointer (some ⟨nb, 0, none⟩)] lb) (hm : MemOk ρ0 ρ B s.blk w) : Iter Try.prog 75 lb ps.length (encE ps) (gsOf s ρ Kn) w := by
  intro l J Jx W hGk hsz hab hJxab hY hJ0
  generalize hρE : rhoOf ρ (edF nb nr) = ρE
  have live : ∀ n b, s.blk n = some b → b.live = true → ∃ p, ρ n = some p := fun n b hn hl => let ⟨p, h, _⟩ := (hm.ok n b hn).place hl; ⟨p, h⟩
  have dom2 : ∀ n, 2 ≤ n → ρE n = none := fun n hn => by
    rw [← hρE]
    match n, hn with
    | n + 2, _ => rfl
  have keepG : ∀ W' : World, (∀ g, gsOf s ρ Kn g → W'.heap[g]? = w.heap[g]?) → ∀ n b p, n ∈ Kn → s.blk n = some b → b.live = true → ρ n = some p → ¬ nilPl p → W'.heap[p.1]? = w.heap[p.1]? := fun W' hk n b p hn hb hl hp hnp => hk p.1 ⟨n, hn, b, p, hb, hl, hp, hnp, rfl⟩
  have mem : ∀ W' : World, (∀ g, gsOf s ρ Kn g → W'.heap[g]? = w.heap[g]?) → w.heap.size ≤ W'.heap.size → MemOk ρE ρE (fun k => k < W'.heap.size) (fun n => (edM ps).getD n none) W' := by
    intro W' hk hs'
    refine ⟨Ext.refl _, fun n hn => ?_, fun n b hn => ?_, fun n n' b b' p p' hn ho => ?_⟩
    · match n, hn with
      | n + 2, _ => exact dom2 _ (by omega)
    · match n, hn with
      | 0, hn =>
        obtain rfl : (⟨.view, .vals [ß 1 ps.length ps.length]⟩ : Blk) = b := by simpa [edM] using hn
        rw [← hρE]
        refine view_re (hm.ok nb _ h0) rfl hs' (fun p hp hnp => keepG W' hk nb _ p hb h0 rfl hp hnp) fun k v' hv' => ?_
        match k, hv' with
        | 0, hv' =>
          obtain rfl : ß 1 ps.length ps.length = v' := by simpa [Cs.list] using hv'
          exact ⟨_, rfl, fun x hx => wv0_ok (f := edF nb nr) (v := .slice (some ⟨nr, 0, none⟩) ps.length c) ⟨rfl, rfl, rfl⟩ hx⟩
        | k + 1, hv' => simp [Cs.list] at hv'
      | 1, hn =>
        obtain rfl : (⟨.view, .ints (flat ps)⟩ : Blk) = b := by simpa [edM] using hn
        rw [← hρE]
        refine view_re (hm.ok nr _ h1) rfl hs' (fun p hp hnp => keepG W' hk nr _ p hr h1 rfl hp hnp) fun k v' hv' => ⟨v', hv', fun x hx => ?_⟩
        have hat : plainV v' = true := plain_of_atom (allAtoms_spec (c := .ints (flat ps)) rfl v' (List.mem_of_getElem? hv'))
        rw [hx.plain hat]
        exact .lit hat
      | n + 2, hn => simp [edM] at hn
    · match n, hn with
      | 0, hn =>
        obtain rfl : (⟨.view, .vals [ß 1 ps.length ps.length]⟩ : Blk) = b := by simpa [edM] using hn
        cases ho
      | 1, hn =>
        obtain rfl : (⟨.view, .ints (flat ps)⟩ : Blk) = b := by simpa [edM] using hn
        cases ho
      | n + 2, hn => simp [edM] at hn
  have ρ0some : ∃ p, ρE 0 = some p := by rw [← hρE]; exact live nb _ h0 rfl
  have ρ1some : ∃ p, ρE 1 = some p := by rw [← hρE]; exact live nr _ h1 rfl
  have only : ∀ (ρ' : Nat → Option Pl) (m : List (Option Blk)), m.length = 2 → Ext ρE ρ' → (∀ n, (fun n => m.getD n none) n = none → ρ' n = none) → ρ' = ρE := by
    intro ρ' m hm2 hext hfr
    funext n
    match n with
    | 0 => obtain ⟨p, hp⟩ := ρ0some; rw [hp]; exact hext _ _ hp
    | 1 => obtain ⟨p, hp⟩ := ρ1some; rw [hp]; exact hext _ _ hp
    | n + 2 => rw [dom2 _ (by omega)]; exact hfr _ (by simp [List.getElem?_eq_none (show m.length ≤ n + 2 by omega)])
  obtain ⟨y, rfl⟩ : ∃ y, lb = #[y] := Array.size_eq_one_iff.1 (by simpa using hlb.1.symm)
  have hy : VR ρE (.pointer (some ⟨0, 0, none⟩)) y := by
    rw [← hρE]
    exact wv0_ok (f := edF nb nr) (v := .pointer (some ⟨nb, 0, none⟩)) ⟨rfl, rfl⟩ (hlb.2 0 _ _ rfl rfl)
  have hargs : VRs ρE [.func (.yield l) #[] #[], .pointer (some ⟨0, 0, none⟩)] (#[.func (.yield l) #[] #[]] ++ #[y]) := ⟨by simp, fun i v v' hv hv' => by
    match i, hv, hv' with
    | 0, hv, hv' =>
      obtain rfl : Value.func (.yield l) #[] #[] = v := by simpa using hv
      obtain rfl : Value.func (.yield l) #[] #[] = v' := by simpa using hv'
      exact .lit rfl
    | 1, hv, hv' =>
      obtain rfl : Value.pointer (some ⟨0, 0, none⟩) = v := by simpa using hv
      obtain rfl : y = v' := by simpa using hv'
      exact hy
    | i + 2, hv, _ => simp at hv⟩
  have hstart : Conc (wE ρE W) (edS l ps).fs { tmps := (#[.func (.yield l) #[] #[]] ++ #[y]) ++ Array.replicate (Try.f75.ntmps - (#[Value.func (.yield l) #[] #[]] ++ #[y]).size) undef, defers := [] } W :=
    start_conc (n := Try.f75.ntmps) (w0 := wE ρE W) hargs (mem W hGk hsz) (BelowK.refl _ _) rfl
  have restart : ∀ (u : St) (a : Act) (W' w' : World), u.mem = edM ps → (∀ g, gsOf s ρ Kn g → w'.heap[g]? = w.heap[g]?) → w.heap.size ≤ w'.heap.size → Conc (wE ρE W') u.fs a w' → Conc (wE ρE w') u.fs a w' := by
    rintro u a W' w' hu hk hs' ⟨c1, c2, _, ρ', ct, cm⟩
    obtain rfl := only ρ' u.mem (by rw [hu]; rfl) cm.ext cm.fresh
    refine ⟨c1, c2, BelowK.refl _ _, ρ', ct, ?_⟩
    have := mem w' hk hs'
    show MemOk ρ' ρ' _ (fun n => u.mem.getD n none) w'
    rw [hu]
    exact this
  have glt : ∀ g, gsOf s ρ Kn g → g < w.heap.size := by
    rintro g ⟨n, hn, b, p, q1, q2, q3, q4, rfl⟩
    exact ((hm.ok n b q1).real q2 q3 q4).1
  have keepW : ∀ {W1 W2 : World}, (∀ g, gsOf s ρ Kn g → W1.heap[g]? = w.heap[g]?) ∧ w.heap.size ≤ W1.heap.size → W1.grownBy W2 none → (∀ g, gsOf s ρ Kn g → W2.heap[g]? = w.heap[g]?) ∧ w.heap.size ≤ W2.heap.size := fun {W1 W2} h hg =>
    ⟨fun g hgg => (hg.block g (by have := glt g hgg; omega) (by simp)).trans (h.1 g hgg), Nat.le_trans h.2 hg.size⟩
  have dw : ∀ W' : World, ∀ n, 2 ≤ n → (wE ρE W').ρ0 n = none := fun _ n hn => dom2 n hn
  have body : ∀ (i : Nat) (a : Act) (wr : World), i ≤ ps.length → J i wr → ((∀ g, gsOf s ρ Kn g → wr.heap[g]? = w.heap[g]?) ∧ w.heap.size ≤ wr.heap.size) → Conc (wE ρE wr) (edI l ps i).fs a wr →
      (Code.seq ed1 (.seq (.cond (.tmp 8) .skip (.exit 0)) (.seq (.block 1 (.seq ed2 (.seq (.region 3 ed3.toArray true) (.cond (.tmp 25) .ret .skip)))) ed4))).wpIn (fz none) 3 Try.prog (fun e a w' => match e with
        | .normal => i < ps.length ∧ J (i + 1) w' ∧ ((∀ g, gsOf s ρ Kn g → w'.heap[g]? = w.heap[g]?) ∧ w.heap.size ≤ w'.heap.size) ∧ Conc (wE ρE w') (edI l ps (i + 1)).fs a w'
        | .exit id => id = 0 ∧ J ps.length w' ∧ a.defers = []
        | .ret => Jx w' ∧ a.defers = []
        | _ => False) a wr := by
    intro i a wr hi hJ hk hc
    refine wpIn_seq (wpIn_mono (detA_of (failG_sound _) MM_ok (tr_ed1 l ps i) (wE ρE wr) a wr hc) ?_)
    rintro e a1 w1 ⟨rfl, hc1⟩
    have ev8 := evalO_is (c := .tmp 8) (t := decide ((i : Int) < (ps.length : Int))) hc1 rfl
    have hJ1 := hab _ _ _ hJ (wE_grown hc1)
    refine wpIn_seq ?_
    rcases Nat.lt_or_ge i ps.length with hlt | hge
    rotate_left
    · refine wpIn_cond_false (by rw [ev8]; congr 1; exact decide_eq_false (by omega)) (wpIn_exit ?_)
      obtain rfl : i = ps.length := by omega
      exact ⟨rfl, hJ1, hc1.1⟩
    refine wpIn_cond_true (by rw [ev8]; congr 1; exact decide_eq_true (by omega)) (wpIn_skip ?_)
    show Code.wpIn _ _ _ (.seq (.block 1 _) ed4) _ a1 w1
    have hcI : Conc (wE ρE wr) (edI l ps i).fs a1 w1 := weak_conc (N := 2) (π := []) (by
      refine ⟨rfl, rfl, ?_, ?_⟩ <;> repeat' (first | exact True.intro | exact rfl | exact wv_top _ _ | exact fun _ => rfl | refine And.intro ?_ ?_)) (dw wr) hc1
    obtain ⟨s2, h2, hA2⟩ := asT_det (F := fun e u => e = .normal ∧ u.tmps.getD 12 undef = .func (.yield l) #[] #[] ∧ u.tmps.getD 13 undef = .int .i64 i ∧ u.tmps.getD 23 undef = edA ps i ∧ WS 2 [] u (edI l ps i)) (H := fun _ _ => False) (failG_sound _) MM_ok ed2 (fun s => thenT Try.prog 12 ed3 s (.leaf .normal)) (edI l ps i) (by
      rw [tr_ed2]
      have e1 : (ŵ ((i : Int) + 1)).tmod (ps.length : Int) = ((i + 1) % ps.length : Nat) := by
        rw [wsucc hlt hlen, Int.tmod_eq_emod_of_nonneg (by omega)]
        omega
      have hmod : (i + 1) % ps.length < ps.length := Nat.mod_lt _ (by omega)
      refine ⟨⟨by omega, by omega⟩, by rw [flat_length]; omega, by omega, by rw [e1]; omega, by rw [e1, flat_length]; omega, rfl, rfl, rfl, rfl, ?_⟩
      refine ⟨rfl, rfl, ?_, ?_⟩ <;> repeat' (first | exact True.intro | exact rfl | exact wv_top _ _ | exact fun _ => rfl | refine And.intro ?_ ?_))
    obtain ⟨s3, ⟨_, t12, t13, t23, hws⟩, rule⟩ := thenT_ok mixed h2
    have after : ∀ (b : Bool) (a' : Act) (w' W2 : World), ((∀ g, gsOf s ρ Kn g → W2.heap[g]? = w.heap[g]?) ∧ w.heap.size ≤ W2.heap.size) → Conc (wE ρE wr) (edI l ps i).fs a' w' → Conc (wE ρE W2) (edY l ps i b).fs (a'.put (some 24) (.bool b)) W2 := by
      rintro b a' w' W2 ⟨hk2, hs2⟩ ⟨c1, c2, _, ρ', ct, cm⟩
      obtain rfl := only ρ' (edM ps) rfl cm.ext cm.fresh
      refine ⟨c1, by show (a'.tmps.setIfInBounds 24 (.bool b)).size = (edI l ps i).fs.n; simpa using c2, BelowK.refl _ _, ρ', fun j => ?_, mem W2 hk2 hs2⟩
      have hj := ct j
      by_cases h24 : 24 = j
      · subst h24
        have : 24 < a'.tmps.size := by rw [c2]; exact (by decide : 24 < 27)
        have e1 : (a'.put (some 24) (.bool b)).tmps.getD 24 undef = .bool b := by simp [Act.put, this]
        rw [e1]
        exact .lit rfl
      · have e1 : (a'.put (some 24) (.bool b)).tmps.getD j undef = a'.tmps.getD j undef := by simp [Act.put, Array.getElem?_setIfInBounds_ne h24]
        have e2 : (edY l ps i b).fs.tmp j = (edI l ps i).fs.tmp j := by
          show (edY l ps i b).tmps.getD j undef = (edI l ps i).tmps.getD j undef
          have : (edY l ps i b).tmps = (edI l ps i).tmps.set 24 (.bool b) := rfl
          rw [this]
          simp [h24]
        rw [e1, e2]
        exact hj
    refine wpIn_seq (wpIn_block (wpIn_seq (wpIn_mono (hA2 (wE ρE wr) a1 w1 hcI) ?_)))
    rintro e a2 w2 ⟨rfl, hc2⟩
    refine wpIn_seq (rule (wE ρE wr) a2 w2 _ 3 hc2 fun a' w' hcc => ?_)
    have hJ3 := hab _ _ _ hJ (wE_grown hcc)
    obtain ⟨fn, tmps, asg, bod, hyld, hR⟩ := hY i w' hJ3 hlt
    have hcI' := weak_conc hws (dw wr) hcc
    have v12 : a'.tmps.getD 12 undef = .func (.yield l) #[] #[] := by
      have := hcc.2.2.2
      obtain ⟨ρ', ct, _⟩ := this
      have k := ct 12
      rw [show s3.fs.tmp 12 = .func (.yield l) #[] #[] from t12] at k
      exact k.plain rfl
    have v13 : a'.tmps.getD 13 undef = .int .i64 i := by
      obtain ⟨ρ', ct, _⟩ := hcc.2.2.2
      have k := ct 13
      rw [show s3.fs.tmp 13 = .int .i64 i from t13] at k
      exact k.plain rfl
    have v23 : a'.tmps.getD 23 undef = edA ps i := by
      obtain ⟨ρ', ct, _⟩ := hcc.2.2.2
      have k := ct 23
      rw [show s3.fs.tmp 23 = edA ps i from t23] at k
      exact k.plain rfl
    rw [ed3_len]
    show wpOpsIn _ _ _ _ _ [12, 13] a' w'
    rw [wpOpsIn_cons]
    unfold wpOpIn
    have hwant : Region.wanted o12 (yielded ed3.toArray a'.tmps) = true := by simp [Region.wanted, o12_guard]
    have hex : (execOp a'.eval o12).run Try.prog w' = .ok (.round l fn tmps asg bod) w' := by
      have e12 : a'.eval (.tmp 12) = .func (.yield l) #[] #[] := v12
      have hargs2 : (#[.tmp 13, .tmp 23] : Array Operand).map a'.eval = (encE ps i).toArray := by
        have e13 : a'.eval (.tmp 13) = .int .i64 i := v13
        have e23 : a'.eval (.tmp 23) = edA ps i := v23
        simp [encE, e13, e23, edA_is hlt hlen]
      simp only [execOp, o12_op, resolve, e12, Deferred.ofValue, invoke, Sem.run_bind, Sem.run_pure, Result.andThen_ok, hargs2]
      simpa using hyld
    simp only [o12_at, hwant, if_true]
    refine ⟨fun _ _ => trivial, ?_⟩
    rw [Oper.semAt_eq _ _ _ (fun c hc => by rw [o12_op] at hc; cases hc), hex]
    refine ⟨fun h => (by cases h), RoundIn.mono hR ?_⟩
    have hk3 := keepW hk (wE_grown hcc)
    have rest : ∀ (b : Bool) (W2 : World), ((∀ g, gsOf s ρ Kn g → W2.heap[g]? = w.heap[g]?) ∧ w.heap.size ≤ W2.heap.size) → ∀ Q : Exit → Act → World → Prop, (∀ a4 w4, W2.grownBy w4 none → a4.defers = [] → a4.eval (.tmp 25) = .bool (!b) → Conc (wE ρE W2) (edI l ps i).fs a4 w4 → Q .normal a4 w4) →
        wpOpsIn (fz none) 3 Try.prog ed3.toArray Q [13] (a'.put (some 24) (.bool b)) W2 := by
      intro b W2 hk2 Q hQ
      have hcY := after b a' w' W2 hk2 hcI'
      obtain ⟨s5, h5, r5⟩ := seqT_ok (F := fun e u => e = .normal ∧ u.tmps.getD 25 undef = .bool (!b) ∧ WS 2 [] u (edI l ps i)) (H := fun _ _ => False) (failG_sound _) MM_ok (ops := ed3) (n := 2) (k := .leaf .normal) (ed3.drop 13) 13 (edY l ps i b) (fun j => by rw [List.getElem?_drop]) (by
        rw [tr_ed5]
        refine ⟨rfl, rfl, rfl, rfl, ?_, ?_⟩ <;> repeat' (first | exact True.intro | exact rfl | exact wv_top _ _ | exact fun _ => rfl | refine And.intro ?_ ?_))
      obtain ⟨_, t25, ws5⟩ := h5
      have := r5 (wE ρE W2) _ W2 Q hcY fun a4 w4 hc4 => hQ a4 w4 (wE_grown hc4) hc4.1 (by
        obtain ⟨ρ', ct, _⟩ := hc4.2.2.2
        have k := ct 25
        rw [show s5.fs.tmp 25 = .bool (!b) from t25] at k
        exact k.plain rfl) (weak_conc ws5 (dw W2) hc4)
      have e13 : List.range' 13 (ed3.drop 13).length = [13] := by rw [List.length_drop, ed3_len]; rfl
      rw [e13] at this
      exact this
    rintro e W2 (⟨rfl, hJ2, hK2⟩ | ⟨rfl, hJx⟩)
    · have hk2 : (∀ g, gsOf s ρ Kn g → W2.heap[g]? = w.heap[g]?) ∧ w.heap.size ≤ W2.heap.size := ⟨fun g hg => (hK2.2 g hg).trans (hk3.1 g hg), Nat.le_trans hk3.2 hK2.1⟩
      show wpOpsIn _ _ _ _ _ [13] (a'.put o12.dst (.bool true)) W2
      rw [o12_dst]
      refine rest true W2 hk2 _ fun a4 w4 hg4 hd4 he4 hc4 => ?_
      refine wpIn_cond_false he4 (wpIn_skip ?_)
      show Code.wpIn _ _ _ ed4 _ a4 w4
      refine wpIn_mono (detA_of (failG_sound _) MM_ok (tr_ed4 l ps i) (wE ρE W2) a4 w4 hc4) ?_
      rintro e a5 w5 ⟨rfl, hc5⟩
      have hJ5 := hab _ _ _ hJ2 (wE_grown hc5)
      have hk5 := keepW hk2 (wE_grown hc5)
      have hwi : ŵ ((i : Int) + 1) = ((i + 1 : Nat) : Int) := wsucc hlt hlen
      refine ⟨hlt, hJ5, hk5, restart _ a5 W2 w5 rfl hk5.1 hk5.2 (weak_conc (N := 2) (π := []) ?_ (dw W2) hc5)⟩
      rw [hwi]
      refine ⟨rfl, rfl, ?_, ?_⟩ <;> repeat' (first | exact True.intro | exact rfl | exact wv_top _ _ | exact fun _ => rfl | refine And.intro ?_ ?_)
    · have hcZ : Conc (wE (fun _ => none) W2) (edZ false).fs (a'.put (some 24) (.bool false)) W2 := by
        have hsz : a'.tmps.size = 27 := hcI'.2.1
        refine ⟨hcI'.1, by show (a'.tmps.setIfInBounds 24 (.bool false)).size = 27; simpa using hsz, BelowK.refl _ _, fun _ => none, fun j => ?_, ⟨Ext.refl _, fun _ _ => rfl, fun n b hn => by simp [edZ, St.fs] at hn, fun n n' b b' p p' hn => by simp [edZ, St.fs] at hn⟩⟩
        by_cases h24 : 24 = j
        · subst h24
          have e1 : (a'.put (some 24) (.bool false)).tmps.getD 24 undef = .bool false := by simp [Act.put, hsz]
          rw [e1]
          exact .lit rfl
        · rcases Nat.lt_or_ge j 27 with hj | hj
          · have e2 : (edZ false).fs.tmp j = topV := by
              exact rep_lt (n := 27) (v := .bool false) h24 hj
            rw [e2]
            exact .top
          · have e2 : (edZ false).fs.tmp j = undef := by
              exact rep_ge (n := 27) (v := .bool false) h24 hj
            have e1 : (a'.put (some 24) (.bool false)).tmps.getD j undef = undef := by
              simp [Act.put, Array.getElem?_setIfInBounds_ne h24, Array.getElem?_eq_none (show a'.tmps.size ≤ j by omega)]
            rw [e1, e2]
            exact .lit rfl
      obtain ⟨s5, ⟨_, t25⟩, r5⟩ := seqT_ok (F := fun e u => e = .normal ∧ u.tmps.getD 25 undef = .bool true) (H := fun _ _ => False) (failG_sound _) MM_ok (ops := ed3) (n := 0) (k := .leaf .normal) (ed3.drop 13) 13 (edZ false) (fun j => by rw [List.getElem?_drop]) (by
        rw [tr_edZ]
        exact ⟨rfl, rfl⟩)
      show wpOpsIn _ _ _ _ _ [13] (a'.put o12.dst (.bool false)) W2
      rw [o12_dst]
      have e13 : List.range' 13 (ed3.drop 13).length = [13] := by rw [List.length_drop, ed3_len]; rfl
      have := fun Q hQ => r5 (wE (fun _ => none) W2) _ W2 Q hcZ hQ
      rw [e13] at this
      refine this _ fun a4 w4 hc4 => ?_
      have he4 : a4.eval (.tmp 25) = .bool true := by
        obtain ⟨ρ', ct, _⟩ := hc4.2.2.2
        have k := ct 25
        rw [show s5.fs.tmp 25 = .bool true from t25] at k
        exact k.plain rfl
      refine wpIn_cond_true he4 (wpIn_ret ?_)
      exact ⟨hJxab _ _ hJx (wE_grown hc4), hc4.1⟩
  rw [show Try.f75.ntmps = Try.f75.ntmps from rfl] at hstart
  refine callsIn_of_wp (c := codeOf Try.f75) Try.func75 rfl trivial ?_ rfl
  rw [ed_is]
  refine wpIn_n (ro := none) (n := 3) (wpIn_seq (wpIn_mono (detA_of (failG_sound _) MM_ok (tr_ed0 l ps) (wE ρE W) _ W hstart) ?_))
  rintro e a1 w1 ⟨rfl, hc1⟩
  have hk1 := keepW ⟨hGk, hsz⟩ (wE_grown hc1)
  have hJ1 := hab _ _ _ hJ0 (wE_grown hc1)
  have hc1 := restart (edI l ps 0) a1 W w1 rfl hk1.1 hk1.2 (weak_conc (N := 2) (π := []) (by
    refine ⟨rfl, rfl, ?_, ?_⟩ <;> repeat' (first | exact True.intro | exact rfl | exact wv_top _ _ | exact fun _ => rfl | refine And.intro ?_ ?_)) (dw W) hc1)
  refine wpIn_block (wpIn_loop_ghost (fun n a w' => ∃ i, n = ps.length - i ∧ i ≤ ps.length ∧ J i w' ∧ ((∀ g, gsOf s ρ Kn g → w'.heap[g]? = w.heap[g]?) ∧ w.heap.size ≤ w'.heap.size) ∧ Conc (wE ρE w') (edI l ps i).fs a w') ps.length ⟨0, rfl, Nat.zero_le _, hJ1, hk1, hc1⟩ ?_)
  rintro n a wr ⟨i, rfl, hi, hJ, hk, hc⟩
  refine wpIn_mono (body i a wr hi hJ hk hc) ?_
  rintro e a2 w2 h
  cases e with
  | normal =>
    obtain ⟨hlt, h1, h2, h3⟩ := h
    exact ⟨ps.length - (i + 1), by omega, i + 1, rfl, by omega, h1, h2, h3⟩
  | exit id =>
    obtain ⟨rfl, h1, h2⟩ := h
    exact ⟨h2, _, results_none rfl _ _ _, ⟨_, rfl⟩, .inl h1⟩
  | ret => exact ⟨h.2, _, results_none rfl _ _ _, ⟨_, rfl⟩, .inr h.1⟩
  | _ => exact h.elim
def orT (A B : Tab) : Tab := fun f ds => match A f ds with
  | some x => some x
  | none => B f ds
theorem orT_ok {P : Program} {A B : Tab} (hA : TabOk P A) (hB : TabOk P B) : TabOk P (orT A B) := by
  intro f ds v C h hC
  unfold orT at h
  split at h
  · rename_i x hx
    obtain rfl : x = (v, C) := by simpa using h
    exact hA _ _ _ _ hx hC
  · exact hB _ _ _ _ h hC
def nxP (ps : List Pt) (j : Nat) : Pt := ps.getD ((j + 1) % ps.length) (0, 0)
def sgT (ps : List Pt) (j : Nat) : Int := (ps.getD j (0, 0)).1 * (nxP ps j).2 - (ps.getD j (0, 0)).2 * (nxP ps j).1
def sgA (ps : List Pt) : Nat → Int
  | 0 => 0
  | i + 1 => sgA ps i + sgT ps i
theorem allV_gt {ps : List Pt} (h : allV ps = true) {j : Nat} (hj : j < ps.length) : -1000 ≤ (ps.getD j (0, 0)).1 ∧ (ps.getD j (0, 0)).1 ≤ 1000 ∧ -1000 ≤ (ps.getD j (0, 0)).2 ∧ (ps.getD j (0, 0)).2 ≤ 1000 := by
  have := List.all_eq_true.1 h (ps.getD j (0, 0)) (by simp [hj])
  have := ptB_true this
  omega
theorem nx_lt {ps : List Pt} {j : Nat} (hj : j < ps.length) : (j + 1) % ps.length < ps.length := Nat.mod_lt _ (by omega)
theorem sgP_bd {ps : List Pt} (h : allV ps = true) {j : Nat} (hj : j < ps.length) : (-(1000 * 1000) ≤ (ps.getD j (0, 0)).1 * (nxP ps j).2 ∧ (ps.getD j (0, 0)).1 * (nxP ps j).2 ≤ 1000 * 1000) ∧ (-(1000 * 1000) ≤ (ps.getD j (0, 0)).2 * (nxP ps j).1 ∧ (ps.getD j (0, 0)).2 * (nxP ps j).1 ≤ 1000 * 1000) := by
  have a1 := allV_gt h hj
  have a2 := allV_gt h (nx_lt hj)
  unfold nxP
  exact ⟨mul_bd 1000 1000 (by omega) (by omega), mul_bd 1000 1000 (by omega) (by omega)⟩
theorem sgA_bd {ps : List Pt} (h : allV ps = true) : ∀ i, i ≤ ps.length → -(2000000 * (i : Int)) ≤ sgA ps i ∧ sgA ps i ≤ 2000000 * (i : Int)
  | 0, _ => by simp [sgA]
  | i + 1, hi => by
    have ih := sgA_bd h i (by omega)
    obtain ⟨b1, b2⟩ := sgP_bd h (j := i) (by omega)
    simp only [sgA, sgT]
    omega
def EGa : Env := tabE B0
theorem EGa_ok : EnvOk Try.prog EGa := tabE_ok B0_ok
noncomputable def gc_sga : Code := (rangesOf (codeOf Try.f40)).getD 0 .skip
def k_sga : Ex → List Nat := keeps [3, 7] [] []
def s_sga (ps : List Pt) : Nat → St := fun i => ⟨(ω3 .pointer (some ⟨1, 0, none⟩) :: ω3 .func (.func 75) #[] #[.pointer (some ⟨2, 0, none⟩)] :: ω10 []), [some ⟨.view, .ints (flat ps)⟩, some ⟨.box, .vals [.int .i64 (sgA ps i)]⟩, some ⟨.view, .vals [ß 0 ps.length ps.length]⟩]⟩
def g_sga (ps : List Pt) : Nat → Prop := fun i => i ≤ ps.length
def re_sga (ps : List Pt) : Ex := .normal
def rs_sga (ps : List Pt) : St := ⟨(ω3 .pointer (some ⟨1, 0, none⟩) :: ω14 []), [some ⟨.view, .ints (flat ps)⟩, some ⟨.box, .vals [.int .i64 (sgA ps ps.length)]⟩, some ⟨.view, .vals [ß 0 ps.length ps.length]⟩]⟩
set_option maxRecDepth 100000 in
theorem tr_sga (ps : List Pt) (i : Nat) : bodyR Try.prog EGa 30 12 noL noR (asgOf gc_sga) (bodOf gc_sga) ([8, 9].zip (encE ps i)) k_sga 3 (s_sga ps i) = .leaf .normal ⟨(ω3 .pointer (some ⟨1, 0, none⟩) :: ω3 .func (Fn.func 75) #[] #[.pointer (some ⟨2, 0, none⟩)] :: ω10 []), [some ⟨.view, .ints (flat ps)⟩, some ⟨.box, .vals [.int .i64 (ŵ (sgA ps i + ŵ (ŵ ((ps.getD i (0, 0)).1 * (ps.getD ((i + 1) % ps.length) (0, 0)).2) - ŵ ((ps.getD i (0, 0)).2 * (ps.getD ((i + 1) % ps.length) (0, 0)).1))))]⟩, some ⟨.view, .vals [ß 0 (ps.length) (ps.length)]⟩]⟩ := by kernel_rfl
def Round_sga (ps : List Pt) : Prop := ∀ i : Nat, g_sga ps i → i < (ps).length → (bodyR Try.prog EGa 30 12 noL noR (asgOf gc_sga) (bodOf gc_sga) ([8, 9].zip (encE ps i)) k_sga 3 (s_sga ps i)).ok (RoundEndR 3 (s_sga ps) (g_sga ps) (re_sga ps) (rs_sga ps) i) (fun _ _ => False)
set_option maxRecDepth 100000 in
theorem gcode_sga : gc_sga = .rangeFunc (.tmp 7) ([8, 9] : List Nat).toArray (asgOf gc_sga) (bodOf gc_sga) := by kernel_rfl
def e_sga (s : St) (k : Ex → St → Tree) : Option Tree := match Nat.beq s.tmps.length 18, pickL s.tmps [3, 7], s.mem with
  | true, [.pointer (some ⟨1, 0, none⟩), .func (.func 75) ⟨[]⟩ ⟨[.pointer (some ⟨2, 0, none⟩)]⟩], [some ⟨.view, .ints xs⟩, some ⟨.box, .vals [.int .i64 a0]⟩, some ⟨.box, .vals [ß 0 n _]⟩] => some (needs [a0 = 0, xs.length = n * 2, allV (ptsA n xs) = true, n ≤ 1000] (k .normal ⟨(ω3 .pointer (some ⟨1, 0, none⟩) :: ω14 []), [some ⟨.view, .ints xs⟩, some ⟨.box, .vals [.int .i64 (sgA (ptsA n xs) n)]⟩, some ⟨.view, .vals [ß 0 n n]⟩]⟩))
  | _, _, _ => none
set_option maxRecDepth 100000 in
theorem round_sga (ps : List Pt) (hv : allV ps = true) (h : ps.length ≤ 1000) : Round_sga ps := by
  intro i hg hi
  rw [tr_sga]
  have hb := sgA_bd hv i (by omega)
  obtain ⟨b1, b2⟩ := sgP_bd hv hi
  unfold nxP at b1 b2
  simp (disch := omega) only [wr]
  refine ⟨by show i + 1 ≤ ps.length; omega, [], ?_⟩
  refine ⟨rfl, rfl, ?_, ?_⟩ <;> repeat' (first | exact True.intro | exact rfl | exact wv_top _ _ | exact fun _ => rfl | refine And.intro ?_ ?_)
set_option maxRecDepth 100000 in
theorem lg_sga : RangeE Try.prog e_sga gc_sga := by
  intro s k t F H hlt ht
  unfold e_sga at hlt
  split at hlt
  rotate_left
  · cases hlt
  rename_i hlen hpick hmem
  obtain ⟨tmps, mem⟩ := s
  simp only at hlen hpick hmem
  subst hmem
  obtain rfl := Option.some.inj hlt
  obtain ⟨⟨rfl, h1, h2, h3, _⟩, ht2⟩ := needs_ok ht
  clear ht hlt
  obtain ⟨ps, rfl, rfl⟩ := even_flat h1
  rw [ptsA_flat] at ht2 h2
  refine ⟨re_sga ps, rs_sga ps, ht2, ?_⟩
  rw [gcode_sga]
  refine range_det (enc := encE ps) (len := (ps).length) (St_of := s_sga ps) (Good := g_sga ps) (N := 3) (M := 3) (Kn := [0, 2]) (cap := [.pointer (some ⟨2, 0, none⟩)]) (kf := (k_sga .normal)) (π := []) (fun _ => rfl) (fun _ => rfl) (fun i hg hlt => bodyR_ok mixed EGa_ok (noL_good) (noR_good) (round_sga ps h2 h3 i hg hlt)) (entersB_res (by kernel_rfl)).1 rfl ?_ (fun ρ0 ρ B w lb h1 h2 => ed_iter ps (by omega) (s := (s_sga ps 0).fs) (nb := 2) (nr := 0) (c := (ps).length) (Kn := [0, 2]) rfl rfl (by decide) (by decide) ρ0 ρ B w lb h1 h2) ?_ rfl (by decide) ?_ (Nat.zero_le _)
  · intro n hn b hb
    simp only [List.mem_cons, List.not_mem_nil, or_false] at hn
    rcases hn with rfl | rfl <;> (obtain rfl := Option.some.inj hb; rfl)
  · exact fun _ => ⟨rfl, [], by refine ⟨rfl, rfl, ?_, ?_⟩ <;> repeat' (first | exact True.intro | exact rfl | exact wv_top _ _ | exact fun _ => rfl | refine And.intro ?_ ?_)⟩
  · refine ⟨rfl, rfl, ?_, wvs_spread' [3, 7] hlen rfl ?_⟩
    · repeat' (first | exact True.intro | exact rfl | exact wv_top _ _ | exact fun _ => rfl | assumption | exact Eq.symm (by assumption) | exact vI0 rfl | refine And.intro ?_ ?_)
    · rw [show pickL (viewS [0, 2] ⟨tmps, _⟩).tmps [3, 7] = pickL tmps [3, 7] from rfl, hpick]
      repeat' (first | exact True.intro | exact rfl | exact wv_top _ _ | exact fun _ => rfl | assumption | exact Eq.symm (by assumption) | exact vI0 rfl | refine And.intro ?_ ?_)
theorem nx_mod {i n : Nat} (h : i < n) (hn : n ≤ 1000000000) : (ŵ ((i : Int) + 1)).tmod (n : Int) = (((i + 1) % n : Nat) : Int) := by
  rw [wsucc h hn, Int.tmod_eq_emod_of_nonneg (by omega)]
  omega
theorem Gr_sga {fn : Func} (hf : Try.prog.funcs[40]? = some fn) : RangesGood Try.prog (rt1 7 e_sga) (codeOf fn) := by
  obtain rfl := fn_is Try.func40 hf
  exact rt1_good (by kernel_rfl) lg_sga
def GSg : FuncId → RT := fun f => match f with
  | 40 => rt1 7 e_sga
  | _ => noR
def ESg : Env := withG (tabE B0) GSg
theorem ESg_ok : EnvOk Try.prog ESg := withG_ok (tabE_ok B0_ok) (by
  intro f fn hf
  unfold GSg
  split
  all_goals first | with_reducible exact Gr_sga hf | exact noR_good)
set_option maxRecDepth 100000 in
theorem tr_iSga (ps : List Pt) : bodyV Try.prog ESg 30 12 40 [.row ps.length (.ints (flat ps))] = .need ((0 : Int) = (0 : Int)) (.need ((flat ps).length = ps.length * (2 : Nat)) (.need (allV (ptsA ps.length (flat ps)) = true) (.need (ps.length ≤ (1000 : Nat)) (.fin (.int .i64 (sgA (ptsA ps.length (flat ps)) ps.length)) [])))) := by kernel_rfl
theorem res_iSga {ps : List Pt} (hv : allV ps = true) (h : ps.length ≤ 1000) : Res Try.prog 40 [.row ps.length (.ints (flat ps))] (iv (sgA ps ps.length)) := by
  refine bodyV_res mixed ESg_ok (m := 30) (n := 12) rfl ?_
  rw [tr_iSga]
  simp only [ptsA_flat]
  exact ⟨trivial, flat_length ps, hv, h, rfl⟩
def pSga : List DArg → Option (Value × List Prop)
  | [.row m (.ints xs)] => some (iv (sgA (ptsA m xs) m), [m * 2 ≤ xs.length, allV (ptsA m xs) = true, m ≤ 20])
  | _ => none
theorem pSga_i {ds : List DArg} {v : Value} {C : List Prop} (h : pSga ds = some (v, C)) (hC : AllP C) : Res Try.prog 40 ds v := by
  unfold pSga at h
  split at h
  · rename_i m xs
    obtain ⟨rfl, rfl⟩ : _ ∧ _ := by simpa using h
    obtain ⟨_, h2⟩ := ptsA_spec hC.1
    have h7 := res_pts1 (pre := []) (post := []) hC.1 (res_iSga (ps := ptsA m xs) hC.2.1 (by rw [h2]; have := hC.2.2.1; omega))
    rw [h2] at h7
    exact h7
  · cases h
def TSg : Tab := fun f ds => match f with
  | 40 => pSga ds
  | _ => none
theorem TSg_ok : TabOk Try.prog TSg := by
  intro f ds v C h hC
  unfold TSg at h
  (try split at h)
  all_goals first | with_reducible exact pSga_i h hC | with_reducible exact pSga_s h hC | cases h
def pSgb : List DArg → Option (Value × List Prop)
  | [.row m (.ints xs)] => some (iv (sgA (ptsA m xs) m), [m * 2 ≤ xs.length, allV (ptsA m xs) = true, m ≤ 1000])
  | _ => none
theorem pSgb_i {ds : List DArg} {v : Value} {C : List Prop} (h : pSgb ds = some (v, C)) (hC : AllP C) : Res Try.prog 40 ds v := by
  unfold pSgb at h
  split at h
  · rename_i m xs
    obtain ⟨rfl, rfl⟩ : _ ∧ _ := by simpa using h
    obtain ⟨_, h2⟩ := ptsA_spec hC.1
    have h7 := res_pts1 (pre := []) (post := []) hC.1 (res_iSga (ps := ptsA m xs) hC.2.1 (by rw [h2]; exact hC.2.2.1))
    rw [h2] at h7
    exact h7
  · cases h
def TSb : Tab := fun f ds => match f with
  | 40 => pSgb ds
  | _ => none
theorem TSb_ok : TabOk Try.prog TSb := by
  intro f ds v C h hC
  unfold TSb at h
  (try split at h)
  all_goals first | with_reducible exact pSgb_i h hC | with_reducible exact pSgb_s h hC | cases h
def crP (a b c : Pt) : Int := crossI a.1 a.2 b.1 b.2 c.1 c.2
def popN (st : List Pt) (p : Pt) : Nat → Nat
  | 0 => 0
  | 1 => 1
  | j + 2 => if crP (st.getD j (0, 0)) (st.getD (j + 1) (0, 0)) p ≤ 0 then popN st p (j + 1) else j + 2
def pushP (st : List Pt) (p : Pt) : List Pt := st.take (popN st p st.length) ++ [p]
def chn (st ps : List Pt) : List Pt := ps.foldl pushP st
theorem popN_le (st : List Pt) (p : Pt) : ∀ j, popN st p j ≤ j
  | 0 => Nat.le_refl _
  | 1 => Nat.le_refl _
  | j + 2 => by
    have := popN_le st p (j + 1)
    simp only [popN]
    split <;> omega
theorem pushP_len (st : List Pt) (p : Pt) : (pushP st p).length ≤ st.length + 1 := by
  unfold pushP
  simp
  omega
theorem allV_at {ps : List Pt} (h : allV ps = true) {j : Nat} (hj : j < ps.length) : ptB (ps.getD j (0, 0)).1 (ps.getD j (0, 0)).2 = true := List.all_eq_true.1 h (ps.getD j (0, 0)) (by simp [hj])
theorem allV_push {st : List Pt} {p : Pt} (h : allV st = true) (hp : ptB p.1 p.2 = true) : allV (pushP st p) = true := by
  unfold pushP
  refine List.all_eq_true.2 fun z hz => ?_
  rcases List.mem_append.1 hz with hz | hz
  · exact List.all_eq_true.1 h z (List.mem_of_mem_take hz)
  · obtain rfl : z = p := by simpa using hz
    exact hp
theorem chn_len : ∀ (ps st : List Pt), (chn st ps).length ≤ st.length + ps.length
  | [], st => Nat.le_refl _
  | p :: r, st => by
    have h1 := chn_len r (pushP st p)
    have h2 := pushP_len st p
    simp only [chn, List.foldl_cons, List.length_cons] at h1 ⊢
    omega
theorem pushP_len1 (st : List Pt) (p : Pt) : (pushP st p).length = popN st p st.length + 1 := by
  have := popN_le st p st.length
  unfold pushP
  simp
  omega
def revP (ps : List Pt) : List Pt := ps.reverse
theorem getD_rev {ps : List Pt} {k : Nat} (h : k < ps.length) : ps.reverse.getD k (0, 0) = ps.getD (ps.length - 1 - k) (0, 0) := by
  simp [List.getD, h, show ps.length - 1 - k < ps.length by omega]
theorem ext_getD {a b : List Pt} (hl : a.length = b.length) (h : ∀ k, k < a.length → a.getD k (0, 0) = b.getD k (0, 0)) : a = b := by
  refine List.ext_getElem hl fun k h1 h2 => ?_
  have := h k h1
  simpa [List.getD, h1, h2] using this
theorem flatR (o : List Pt) : List.take (o.length * 2) (List.drop 0 (flat o)) = flat o := by rw [List.drop_zero, flat_all]
def ERv : Env := tabE B0
theorem ERv_ok : EnvOk Try.prog ERv := tabE_ok B0_ok
def rvI (ps X : List Pt) (i : Nat) : Prop := X.length = ps.length ∧ ∀ k, k < ps.length → X.getD k (0, 0) = if k < i ∨ ps.length - 1 - k < i then ps.getD (ps.length - 1 - k) (0, 0) else ps.getD k (0, 0)
theorem rv_end {ps X : List Pt} {i : Nat} (h : rvI ps X i) (hi : ps.length ≤ 2 * i + 1) : X = ps.reverse := by
  refine ext_getD (by simp [h.1]) fun k hk => ?_
  rw [h.1] at hk
  rw [h.2 k hk, getD_rev hk]
  split
  · rfl
  · congr 1
    omega
theorem getD_set' (X : List Pt) (i k : Nat) (z : Pt) (h : i < X.length) : (X.set i z).getD k (0, 0) = if k = i then z else X.getD k (0, 0) := by
  simp only [List.getD, List.getElem?_set]
  by_cases e : i = k
  · subst e; simp [h]
  · simp [e, Ne.symm e]
theorem rv_step {ps X : List Pt} {i : Nat} (h : rvI ps X i) (hi : 2 * i + 1 < ps.length) : rvI ps ((X.set i (X.getD (ps.length - 1 - i) (0, 0))).set (ps.length - 1 - i) (X.getD i (0, 0))) (i + 1) := by
  refine ⟨by simp [h.1], fun k hk => ?_⟩
  rw [getD_set' _ _ _ _ (by simp [h.1]; omega), getD_set' _ _ _ _ (by rw [h.1]; omega)]
  have a1 := h.2 i (by omega)
  have a2 := h.2 (ps.length - 1 - i) (by omega)
  rw [if_neg (by omega)] at a1
  rw [if_neg (by omega)] at a2
  by_cases c1 : k = ps.length - 1 - i
  · subst c1
    rw [if_pos rfl, a1, if_pos (by omega)]
    congr 1
    omega
  · rw [if_neg c1]
    by_cases c2 : k = i
    · subst c2
      rw [if_pos rfl, a2, if_pos (by omega)]
    · rw [if_neg c2, h.2 k hk]
      by_cases c3 : k < i ∨ ps.length - 1 - k < i
      · rw [if_pos c3, if_pos (by omega)]
      · rw [if_neg c3, if_neg (by omega)]
noncomputable def c_rvs : Code := ((loopsOf (codeOf Try.f42))[0]?).getD .skip
def k_rvs : Ex → List Nat := keeps [0, 2, 3] [(0, [])] []
def s_rvs (ps : List Pt) : Nat × (List Pt) → St := fun (i, X) => ⟨(ß 0 ps.length ps.length :: topV :: .int .i64 i :: .int .i64 ((ps.length : Int) - 1 - i) :: ω24 []), [some ⟨.row 31 2, .ints (flat X)⟩]⟩
def re_rvs : Nat × (List Pt) → Ex := fun _ => .exit 0
def rs_rvs (ps : List Pt) : Nat × (List Pt) → St := fun (i, X) => ⟨(ω28 []), [some ⟨.row 31 2, .ints (flat (revP ps))⟩]⟩
set_option maxRecDepth 100000 in
theorem tr_rvs (ps : List Pt) (i : Nat) (X : List Pt) : bodyL Try.prog ERv 30 12 noL 1 c_rvs k_rvs 1 (s_rvs ps (i, X)) = brT (decide ((↑i : Int) < (↑ps.length : Int) - 1 - (↑i : Int))) (.need ((0 : Int) ≤ (↑ps.length : Int) - (1 : Int) - (↑i : Int) ∧ (↑ps.length : Int) - (1 : Int) - (↑i : Int) < (↑ps.length : Int)) (.need ((0 : Nat) + ((↑ps.length : Int) - (1 : Int) - (↑i : Int)).toNat * (2 : Nat) + (2 : Nat) ≤ (flat X).length) (.need ((0 : Int) ≤ (↑i : Int) ∧ (↑i : Int) < (↑ps.length : Int)) (.need ((0 : Nat) + (↑i : Int).toNat * (2 : Nat) + (2 : Nat) ≤ (flat X).length) (.need ((0 : Int) ≤ (↑i : Int) ∧ (↑i : Int) < (↑ps.length : Int)) (.need ((0 : Nat) + (↑i : Int).toNat * (2 : Nat) + (2 : Nat) ≤ (flat X).length) (.need ((0 : Int) ≤ (↑ps.length : Int) - (1 : Int) - (↑i : Int) ∧ (↑ps.length : Int) - (1 : Int) - (↑i : Int) < (↑ps.length : Int)) (.need ((0 : Nat) + ((↑ps.length : Int) - (1 : Int) - (↑i : Int)).toNat * (2 : Nat) + (2 : Nat) ≤ (setInts (flat X) ((0 : Nat) + (↑i : Int).toNat * (2 : Nat)) [(flat X).getD ((0 : Nat) + ((↑ps.length : Int) - (1 : Int) - (↑i : Int)).toNat * (2 : Nat)) (0 : Int), (flat X).getD ((0 : Nat) + ((↑ps.length : Int) - (1 : Int) - (↑i : Int)).toNat * (2 : Nat) + (1 : Nat)) (0 : Int)]).length) (.leaf .normal ⟨(ß 0 (ps.length) (ps.length) :: topV :: .int .i64 (ŵ ((↑i : Int) + 1)) :: .int .i64 (ŵ ((↑ps.length : Int) - 1 - (↑i : Int) - 1)) :: ω24 []), [some ⟨.row 31 2, .ints (setInts (setInts (flat X) (0 + (↑i : Int).toNat * 2) [(flat X).getD (0 + ((↑ps.length : Int) - 1 - (↑i : Int)).toNat * 2) 0, (flat X).getD (0 + ((↑ps.length : Int) - 1 - (↑i : Int)).toNat * 2 + 1) 0]) (0 + ((↑ps.length : Int) - 1 - (↑i : Int)).toNat * 2) [(flat X).getD (0 + (↑i : Int).toNat * 2) 0, (flat X).getD (0 + (↑i : Int).toNat * 2 + 1) 0])⟩]⟩))))))))) (.leaf (.exit 0) ⟨(ω28 []), [some ⟨.row 31 2, .ints (flat X)⟩]⟩) := by kernel_rfl
set_option maxRecDepth 100000 in
theorem nl_rvs : loopsOf c_rvs = [] := by kernel_rfl
def inv_rvs (ps : List Pt) : Nat × (List Pt) → Prop := fun (i, X) => 2 * i ≤ ps.length + 1 ∧ rvI ps X i
def me_rvs (ps : List Pt) : Nat × (List Pt) → Nat := fun (i, X) => ps.length + 1 - i
def Round_rvs (ps : List Pt) : Prop := ∀ xx : Nat × (List Pt), inv_rvs ps xx → (bodyL Try.prog ERv 30 12 noL 1 c_rvs k_rvs 1 (s_rvs ps xx)).ok (RoundEnd 1 (s_rvs ps) (inv_rvs ps) (me_rvs ps) re_rvs (rs_rvs ps) xx) (fun _ _ => False)
def e_rvs (s : St) (k : Ex → St → Tree) : Option Tree := match Nat.beq s.tmps.length 28, pickL s.tmps [0, 2, 3], s.mem with
  | true, [ß 0 n _, .int .i64 i0, .int .i64 j0], [some ⟨.row 31 2, .ints xs⟩] => some (needs [i0 = 0, j0 = (n : Int) - 1 - (0 : Nat), xs.length = n * 2, n ≤ 1000000000] (k (.exit 0) ⟨(ω28 []), [some ⟨.row 31 2, .ints (flat (revP (ptsA n xs)))⟩]⟩))
  | _, _, _ => none
noncomputable def c_rvd : Code := ((loopsOf (codeOf Try.f72))[0]?).getD .skip
def k_rvd : Ex → List Nat := keeps [0, 3, 4] [(0, [3])] [2]
def s_rvd (ps : List Pt) : Nat × (List Pt) → St := fun (m, o) => ⟨(ß 0 ps.length ps.length :: topV :: topV :: ß 2 o.length o.length :: .int .i64 ((m : Int) - 1) :: ω16 []), [some ⟨.view, .ints (flat ps)⟩, some ⟨.dead, .vals []⟩, some ⟨.row 31 2, .ints (flat o)⟩]⟩
def re_rvd : Nat × (List Pt) → Ex := fun _ => .exit 0
def rs_rvd (ps : List Pt) : Nat × (List Pt) → St := fun (m, o) => ⟨(ω3 ß 2 (revP ps).length (revP ps).length :: ω17 []), [some ⟨.view, .ints (flat ps)⟩, some ⟨.dead, .vals []⟩, some ⟨.row 31 2, .ints (flat (revP ps))⟩]⟩
set_option maxRecDepth 100000 in
theorem tr_rvd (ps : List Pt) (m : Nat) (o : List Pt) : bodyL Try.prog ERv 30 12 noL 1 c_rvd k_rvd 16 (s_rvd ps (m, o)) = brT (decide (0 ≤ (↑m : Int) - 1)) (.need ((0 : Int) ≤ (↑m : Int) - (1 : Int) ∧ (↑m : Int) - (1 : Int) < (↑ps.length : Int)) (.need ((0 : Nat) + ((↑m : Int) - (1 : Int)).toNat * (2 : Nat) + (2 : Nat) ≤ (flat ps).length) (.need ((o.length + (1 : Nat)) * (16 : Nat) ≤ (140737488355328 : Nat) ∧ o.length + (1 : Nat) ≤ (2000000 : Nat)) (.need ((0 : Nat) + o.length * (2 : Nat) ≤ (flat o).length) (.leaf .normal ⟨(ß 0 (ps.length) (ps.length) :: topV :: topV :: ß 4 (o.length + 1) (o.length + 1) :: .int .i64 (ŵ ((↑m : Int) - 1 - 1)) :: ω16 []), [some ⟨.view, .ints (flat ps)⟩, some deadB, some deadB, some ⟨.row 31 2, .vals [.int .i64 ((flat ps).getD (0 + ((↑m : Int) - 1).toNat * 2) 0), .int .i64 ((flat ps).getD (0 + ((↑m : Int) - 1).toNat * 2 + 1) 0)]⟩, some ⟨.row 31 2, .ints (List.take (o.length * 2) (List.drop 0 (flat o)) ++ [(flat ps).getD (0 + ((↑m : Int) - 1).toNat * 2) 0, (flat ps).getD (0 + ((↑m : Int) - 1).toNat * 2 + 1) 0])⟩]⟩))))) (.leaf (.exit 0) ⟨(ω3 ß 2 (o.length) (o.length) :: ω17 []), [some ⟨.view, .ints (flat ps)⟩, some deadB, some ⟨.row 31 2, .ints (flat o)⟩]⟩) := by kernel_rfl
set_option maxRecDepth 100000 in
theorem nl_rvd : loopsOf c_rvd = [] := by kernel_rfl
def inv_rvd (ps : List Pt) : Nat × (List Pt) → Prop := fun (m, o) => m ≤ ps.length ∧ o = (ps.drop m).reverse
def me_rvd (ps : List Pt) : Nat × (List Pt) → Nat := fun (m, o) => m
def Round_rvd (ps : List Pt) : Prop := ∀ xx : Nat × (List Pt), inv_rvd ps xx → (bodyL Try.prog ERv 30 12 noL 1 c_rvd k_rvd 16 (s_rvd ps xx)).ok (RoundEnd 2 (s_rvd ps) (inv_rvd ps) (me_rvd ps) re_rvd (rs_rvd ps) xx) (fun _ _ => False)
def e_rvd (s : St) (k : Ex → St → Tree) : Option Tree := match Nat.beq s.tmps.length 21, pickL s.tmps [0, 3, 4], s.mem with
  | true, [ß 0 n _, ß 1 z _, .int .i64 i0], [some ⟨.view, .ints xs⟩, some ⟨.row 31 2, .vals []⟩] => some (needs [i0 = (n : Int) - 1, z = 0, xs.length = n * 2, n ≤ 100000] (k (.exit 0) ⟨(ω3 ß 2 (revP (ptsA n xs)).length (revP (ptsA n xs)).length :: ω17 []), [some ⟨.view, .ints xs⟩, some ⟨.dead, .vals []⟩, some ⟨.row 31 2, .ints (flat (revP (ptsA n xs)))⟩]⟩))
  | _, _, _ => none
set_option maxRecDepth 100000 in
theorem round_rvs (ps : List Pt) (h : ps.length ≤ 1000000000) : Round_rvs ps := by
  rintro ⟨i, X⟩ ⟨h1, h2⟩
  rw [tr_rvs]
  have hl := h2.1
  refine brT_ok.2 ⟨fun hlt => ?_, fun hge => ?_⟩
  · have hlt := of_decide_eq_true hlt
    have hi : 2 * i + 1 < ps.length := by omega
    have j1 : ((ps.length : Int) - 1 - (i : Int)).toNat = ps.length - 1 - i := by omega
    have w : ŵ ((ps.length : Int) - 1 - (i : Int) - 1) = (ps.length : Int) - 1 - ((i + 1 : Nat) : Int) := by rw [wr (by omega)]; omega
    have f1 := flat_set X i (by omega) (X.getD (ps.length - 1 - i) (0, 0)).1 (X.getD (ps.length - 1 - i) (0, 0)).2
    have f2 := flat_set (X.set i ((X.getD (ps.length - 1 - i) (0, 0)).1, (X.getD (ps.length - 1 - i) (0, 0)).2)) (ps.length - 1 - i) (by rw [List.length_set]; omega) (X.getD i (0, 0)).1 (X.getD i (0, 0)).2
    simp only [j1, w, Int.toNat_natCast, Nat.zero_add, flat_get0, flat_get1, f1]
    simp only [f2, flat_length, List.length_set, wsucc (n := ps.length) (i := i) (by omega) h]
    refine ⟨by omega, by omega, by omega, by omega, by omega, by omega, by omega, by omega, ?_⟩
    refine ⟨(i + 1, (X.set i (X.getD (ps.length - 1 - i) (0, 0))).set (ps.length - 1 - i) (X.getD i (0, 0))), [], ⟨by omega, rv_step h2 hi⟩, ?_, rfl, by simp only [rs_rvs], ?_⟩
    · show ps.length + 1 - (i + 1) < ps.length + 1 - i; omega
    · repeat' (first | exact True.intro | exact rfl | exact fun _ => rfl | (simp; done) | refine And.intro ?_ ?_)
  · have hge := of_decide_eq_false hge
    obtain rfl := rv_end h2 (by omega)
    refine ⟨rfl, [], ?_⟩
    simp only [rs_rvs, revP]
    repeat' (first | exact True.intro | exact rfl | exact fun _ => rfl | (simp; done) | refine And.intro ?_ ?_)
set_option maxRecDepth 100000 in
theorem lg_rvs : LoopE Try.prog e_rvs c_rvs := by
  intro s k t F H hlt ht
  unfold e_rvs at hlt
  split at hlt
  rotate_left
  · cases hlt
  rename_i hlen hpick hmem
  obtain ⟨tmps, mem⟩ := s
  simp only at hlen hpick hmem
  subst hmem
  obtain rfl := Option.some.inj hlt
  obtain ⟨⟨rfl, rfl, h1, h2, _⟩, ht2⟩ := needs_ok ht
  clear ht hlt
  obtain ⟨ps, rfl, rfl⟩ := even_flat h1
  rw [ptsA_flat] at ht2
  refine ⟨_, _, ht2, loop_run mixed ERv_ok (s_rvs ps) (inv_rvs ps) (me_rvs ps) re_rvs (rs_rvs ps) k_rvs (fun _ => rfl) (noLoops nl_rvs) (round_rvs ps h2) (x := (0, ps)) ⟨by omega, rfl, fun k hk => by rw [if_neg (by omega)]⟩ (π := []) rfl ?_⟩
  refine ⟨rfl, rfl, ?_, wvs_spread' [0, 2, 3] hlen rfl ?_⟩
  · repeat' (first | exact True.intro | exact rfl | exact wv_top _ _ | exact fun _ => rfl | assumption | exact Eq.symm (by assumption) | exact vI0 rfl | refine And.intro ?_ ?_)
  · rw [hpick]
    repeat' (first | exact True.intro | exact rfl | exact wv_top _ _ | exact fun _ => rfl | assumption | exact Eq.symm (by assumption) | exact vI0 rfl | refine And.intro ?_ ?_)
theorem rvd_step {ps : List Pt} {m : Nat} (h : m < ps.length) : (ps.drop (m + 1)).reverse ++ [ps.getD m (0, 0)] = (ps.drop m).reverse := by
  rw [drop_cons h (0, 0), List.reverse_cons]
set_option maxRecDepth 100000 in
theorem round_rvd (ps : List Pt) (h : ps.length ≤ 100000) : Round_rvd ps := by
  rintro ⟨m, o⟩ ⟨h1, rfl⟩
  rw [tr_rvd]
  have hl : (ps.drop m).reverse.length = ps.length - m := by simp
  refine brT_ok.2 ⟨fun hlt => ?_, fun hge => ?_⟩
  · have hlt := of_decide_eq_true hlt
    obtain ⟨m, rfl⟩ : ∃ k, m = k + 1 := ⟨m - 1, by omega⟩
    have j1 : (((m + 1 : Nat) : Int) - 1).toNat = m := by omega
    have w : ŵ (((m + 1 : Nat) : Int) - 1 - 1) = (m : Int) - 1 := by rw [wr (by omega)]; omega
    have hs := rvd_step (ps := ps) (m := m) (by omega)
    have fs : flat (ps.drop (m + 1)).reverse ++ [(ps.getD m (0, 0)).1, (ps.getD m (0, 0)).2] = flat (ps.drop m).reverse := by
      rw [flat_snoc, ← hs]
    simp only [j1, w, Nat.zero_add, flat_get0, flat_get1, flat_length, flatR, fs]
    refine ⟨by omega, by omega, ⟨by omega, by omega⟩, by omega, (m, (ps.drop m).reverse), [some 4], ⟨by omega, rfl⟩, ?_, rfl, by simp only [rs_rvd], ?_⟩
    · show m < m + 1; omega
    · have e : (ps.drop (m + 1)).reverse.length + 1 = (ps.drop m).reverse.length := by rw [← hs]; simp
      rw [e]
      repeat' (first | exact True.intro | exact rfl | exact fun _ => rfl | (simp; done) | refine And.intro ?_ ?_)
  · have hge := of_decide_eq_false hge
    obtain rfl : m = 0 := by omega
    refine ⟨rfl, [some 2], ?_⟩
    simp only [rs_rvd, revP, List.drop_zero]
    repeat' (first | exact True.intro | exact rfl | exact fun _ => rfl | (simp; done) | refine And.intro ?_ ?_)
set_option maxRecDepth 100000 in
theorem lg_rvd : LoopE Try.prog e_rvd c_rvd := by
  intro s k t F H hlt ht
  unfold e_rvd at hlt
  split at hlt
  rotate_left
  · cases hlt
  rename_i hlen hpick hmem
  obtain ⟨tmps, mem⟩ := s
  simp only at hlen hpick hmem
  subst hmem
  obtain rfl := Option.some.inj hlt
  obtain ⟨⟨rfl, rfl, h1, h3, _⟩, ht2⟩ := needs_ok ht
  clear ht hlt
  obtain ⟨ps, rfl, rfl⟩ := even_flat h1
  rw [ptsA_flat] at ht2
  refine ⟨_, _, ht2, loop_run2 mixed ERv_ok (s_rvd ps) (inv_rvd ps) (me_rvd ps) re_rvd (rs_rvd ps) k_rvd (fun _ => rfl) (noLoops nl_rvd) (round_rvd ps h3) (x := (ps.length, [])) ⟨Nat.le_refl _, by rw [List.drop_length]; rfl⟩ (π := [some 1]) rfl ?_⟩
  refine ⟨rfl, rfl, ?_, wvs_spread' [0, 3, 4] hlen rfl ?_⟩
  · repeat' (first | exact True.intro | exact rfl | exact wv_top _ _ | exact fun _ => rfl | assumption | exact Eq.symm (by assumption) | exact vI0 rfl | refine And.intro ?_ ?_)
  · rw [hpick]
    repeat' (first | exact True.intro | exact rfl | exact wv_top _ _ | exact fun _ => rfl | assumption | exact Eq.symm (by assumption) | exact vI0 rfl | refine And.intro ?_ ?_)
theorem Lr_rvs {fn : Func} (hf : Try.prog.funcs[42]? = some fn) : LoopsGood Try.prog (lt1 e_rvs) 0 (codeOf fn) := by
  obtain rfl := fn_is Try.func42 hf
  exact lt1_good lg_rvs
theorem Lr_rvd {fn : Func} (hf : Try.prog.funcs[72]? = some fn) : LoopsGood Try.prog (lt1 e_rvd) 0 (codeOf fn) := by
  obtain rfl := fn_is Try.func72 hf
  exact lt1_good lg_rvd
def LRv : FuncId → LT := fun f => match f with
  | 42 => lt1 e_rvs
  | 72 => lt1 e_rvd
  | _ => noL
def ERw : Env := mkE B0 (fun _ _ => none) LRv
theorem ERw_ok : EnvOk Try.prog ERw := mkEOk B0_ok (fun _ _ _ _ _ h => (by cases h)) (by
  intro f fn hf
  unfold LRv
  split
  all_goals first | with_reducible exact Lr_rvs hf | with_reducible exact Lr_rvd hf | exact noL_good)
set_option maxRecDepth 100000 in
theorem tr_rvF (ps : List Pt) : bodyM Try.prog ERw (runM Try.prog ERw 30 12) 30 42 [ß 0 ps.length ps.length] [some ⟨.row 31 2, .ints (flat ps)⟩] .fin = .need ((0 : Int) = (0 : Int)) (.need (ŵ ((↑ps.length : Int) - (1 : Int)) = (↑ps.length : Int) - (1 : Int) - (↑(0 : Nat) : Int)) (.need ((flat ps).length = ps.length * (2 : Nat)) (.need (ps.length ≤ (1000000000 : Nat)) (.fin (.tuple #[]) [some ⟨.row 31 2, .ints (flat (revP (ptsA ps.length (flat ps))))⟩])))) := by kernel_rfl
set_option maxRecDepth 100000 in
theorem tr_rdF (ps : List Pt) : bodyX Try.prog ERw 30 12 72 [.row ps.length (.ints (flat ps))] = .need (ŵ ((↑ps.length : Int) - (1 : Int)) = (↑ps.length : Int) - (1 : Int)) (.need ((0 : Nat) = (0 : Nat)) (.need ((flat ps).length = ps.length * (2 : Nat)) (.need (ps.length ≤ (100000 : Nat)) (.fin (ß 2 ((revP (ptsA ps.length (flat ps))).length) ((revP (ptsA ps.length (flat ps))).length)) [some ⟨.view, .ints (flat ps)⟩, some deadB, some ⟨.row 31 2, .ints (flat (revP (ptsA ps.length (flat ps))))⟩])))) := by kernel_rfl
def rvW : WSpec := fun e sz l xs rest => match Nat.beq e 31 && Nat.beq sz 2, rest with
  | true, [] => some (.tuple #[], flat (revP (ptsA l xs)), [xs.length = l * 2, l ≤ 1000000000])
  | _, _ => none
theorem rvW_ok : WSpecOk Try.prog 42 rvW := by
  intro e sz l xs rest v ys C h hC
  unfold rvW at h
  split at h
  rotate_left
  · cases h
  rename_i he
  simp only [Bool.and_eq_true] at he
  obtain rfl := Nat.eq_of_beq_eq_true he.1
  obtain rfl := Nat.eq_of_beq_eq_true he.2
  obtain ⟨rfl, rfl, rfl⟩ : Value.tuple #[] = v ∧ flat (revP (ptsA l xs)) = ys ∧ [xs.length = l * 2, l ≤ 1000000000] = C := by simpa using h
  obtain ⟨h1, h2, _⟩ := hC
  obtain ⟨ps, rfl, rfl⟩ := even_flat h1
  refine ⟨ERw, 30, 12, ERw_ok, rfl, ?_⟩
  rw [tr_rvF]
  simp only [ptsA_flat]
  exact ⟨trivial, by rw [wr (by omega)]; omega, flat_length ps, h2, rfl, _, rfl, rfl, rfl⟩
theorem resR_rvd {ps : List Pt} (h : ps.length ≤ 100000) : ResR Try.prog 72 [.row ps.length (.ints (flat ps))] (rowP (revP ps)) (blkP (revP ps)) := by
  refine bodyX_resR mixed ERw_ok (m := 30) (n := 12) rfl ?_
  rw [tr_rdF]
  simp only [ptsA_flat]
  exact ⟨by rw [wr (by omega)], trivial, flat_length ps, h, some 2, ⟨rfl, rfl, rfl⟩, rfl, rfl, rfl⟩
end Go.Proofs.Ytnlciknmpjikgaa
