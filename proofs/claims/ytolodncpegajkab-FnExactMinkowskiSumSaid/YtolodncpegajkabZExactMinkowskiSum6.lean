/-
  Texts that the proof needs, merged. Written by an AI agent.
-/
import Derived.Orders
import Derived.Below
import Derived.OrdersIn
import Derived.Deep.LoopGhost
import Derived.WalkKit
import Derived.Laws.CopyRow
import Derived.Laws.AppendOwn
import Derived.Laws.Slices
import Derived.Laws.MakeOwn
import Derived.Test.YtolodncpegajkabRows
import Derived.ProofKit
import Derived.OpenShut
import Derived.Carry
import Derived.IntWalk
import Derived.Test.YtolodncpegajkabProg
import Derived.WalkSpells
import Derived.WalkLawsBesides
import Derived.Lib.Hide
import Derived.Deep.QuietTactic
import Derived.BigQuiet
import Derived.KernelRfl
import Derived.Deep.RegionHeld3
import Derived.LoopTactic
import Derived.Laws.StructEq
import Derived.Laws.Tables
import Derived.RangeFuncNested
import Derived.RangeFuncLeaves
import Derived.Deep.Slices
import Derived.Deep.Fields
import Derived.ChangeSame
import Derived.Deep.DeepCutAuto
import Derived.Shelf.SlSortCmp.WholeK
import Derived.Sort.Grow
import Derived.Shelf.SlSortCmp.NoneTotal
import Derived.Test.YtolodncpegajkabZExactMinkowskiSum5
namespace Go.Proofs.Ytolodncpegajkab
set_option linter.all false
open Go.RowKit
set_option maxRecDepth 100000 in
theorem tr_cat3 (l1 l2 l3 : Nat) (y1 y2 y3 : List Int) : bodyM Try.prog ECt (runM Try.prog ECt 30 12) 30 94 [.slice (some ⟨3, 0, none⟩) 3 3] [some ⟨.view, .ints y1⟩, some ⟨.view, .ints y2⟩, some ⟨.view, .ints y3⟩, some ⟨.view, .vals [.slice (some ⟨0, 0, none⟩) l1 l1, .slice (some ⟨1, 0, none⟩) l2 l2, .slice (some ⟨2, 0, none⟩) l3 l3]⟩] .fin = .need ((0 : Int) ≤ (0 : Int) ∧ (0 : Int) < (↑(3 : Nat) : Int)) (brT (decide (IntKind.i64.wrap (0 + (↑l1 : Int)) < 0)) (.bad) (.need ((0 : Int) ≤ IntKind.i64.wrap ((0 : Int) + (1 : Int)) ∧ IntKind.i64.wrap ((0 : Int) + (1 : Int)) < (↑(3 : Nat) : Int)) (brT (decide (IntKind.i64.wrap (IntKind.i64.wrap (0 + (↑l1 : Int)) + (↑l2 : Int)) < 0)) (.bad) (.need ((0 : Int) ≤ IntKind.i64.wrap (IntKind.i64.wrap ((0 : Int) + (1 : Int)) + (1 : Int)) ∧ IntKind.i64.wrap (IntKind.i64.wrap ((0 : Int) + (1 : Int)) + (1 : Int)) < (↑(3 : Nat) : Int)) (brT (decide (IntKind.i64.wrap (IntKind.i64.wrap (IntKind.i64.wrap (0 + (↑l1 : Int)) + (↑l2 : Int)) + (↑l3 : Int)) < 0)) (.bad) (.need ((0 : Int) < IntKind.i64.wrap (IntKind.i64.wrap (IntKind.i64.wrap ((0 : Int) + (↑l1 : Int)) + (↑l2 : Int)) + (↑l3 : Int)) ∧ IntKind.i64.wrap (IntKind.i64.wrap (IntKind.i64.wrap ((0 : Int) + (↑l1 : Int)) + (↑l2 : Int)) + (↑l3 : Int)) ≤ (1000 : Int)) (.need ((0 : Int) ≤ (0 : Int) ∧ (0 : Int) < (↑(3 : Nat) : Int)) (.need (((0 : Nat) + (l1, Cs.ints (List.take (l1 * Try.prog.types[(44 : Nat)].size) (List.drop (0 : Nat) y1)), [(0 : Nat) + l1 * Try.prog.types[(44 : Nat)].size ≤ y1.length]).fst) * (16 : Nat) ≤ (140737488355328 : Nat) ∧ (0 : Nat) + (l1, Cs.ints (List.take (l1 * Try.prog.types[(44 : Nat)].size) (List.drop (0 : Nat) y1)), [(0 : Nat) + l1 * Try.prog.types[(44 : Nat)].size ≤ y1.length]).fst ≤ (1000000 : Nat)) (.need ((0 : Nat) + l1 * (2 : Nat) ≤ y1.length) (.need ((0 : Nat) ≤ (0 : Nat)) (.need ((0 : Int) ≤ IntKind.i64.wrap ((0 : Int) + (1 : Int)) ∧ IntKind.i64.wrap ((0 : Int) + (1 : Int)) < (↑(3 : Nat) : Int)) (.need (((0 : Nat) + (l1, Cs.ints (List.take (l1 * Try.prog.types[(44 : Nat)].size) (List.drop (0 : Nat) y1)), [(0 : Nat) + l1 * Try.prog.types[(44 : Nat)].size ≤ y1.length]).fst + (l2, Cs.ints (List.take (l2 * Try.prog.types[(44 : Nat)].size) (List.drop (0 : Nat) y2)), [(0 : Nat) + l2 * Try.prog.types[(44 : Nat)].size ≤ y2.length]).fst) * (16 : Nat) ≤ (140737488355328 : Nat) ∧ (0 : Nat) + (l1, Cs.ints (List.take (l1 * Try.prog.types[(44 : Nat)].size) (List.drop (0 : Nat) y1)), [(0 : Nat) + l1 * Try.prog.types[(44 : Nat)].size ≤ y1.length]).fst + (l2, Cs.ints (List.take (l2 * Try.prog.types[(44 : Nat)].size) (List.drop (0 : Nat) y2)), [(0 : Nat) + l2 * Try.prog.types[(44 : Nat)].size ≤ y2.length]).fst ≤ (1000000 : Nat)) (.need ((0 : Nat) + l2 * (2 : Nat) ≤ y2.length) (.need ((0 : Nat) + ((0 : Nat) + (l1, Cs.ints (List.take (l1 * Try.prog.types[(44 : Nat)].size) (List.drop (0 : Nat) y1)), [(0 : Nat) + l1 * Try.prog.types[(44 : Nat)].size ≤ y1.length]).fst) * (2 : Nat) ≤ (List.take (0 : Nat) (List.drop (0 : Nat) []) ++ List.take (l1 * (2 : Nat)) (List.drop (0 : Nat) y1)).length) (.need ((0 : Int) ≤ IntKind.i64.wrap (IntKind.i64.wrap ((0 : Int) + (1 : Int)) + (1 : Int)) ∧ IntKind.i64.wrap (IntKind.i64.wrap ((0 : Int) + (1 : Int)) + (1 : Int)) < (↑(3 : Nat) : Int)) (.need (((0 : Nat) + (l1, Cs.ints (List.take (l1 * Try.prog.types[(44 : Nat)].size) (List.drop (0 : Nat) y1)), [(0 : Nat) + l1 * Try.prog.types[(44 : Nat)].size ≤ y1.length]).fst + (l2, Cs.ints (List.take (l2 * Try.prog.types[(44 : Nat)].size) (List.drop (0 : Nat) y2)), [(0 : Nat) + l2 * Try.prog.types[(44 : Nat)].size ≤ y2.length]).fst + (l3, Cs.ints (List.take (l3 * Try.prog.types[(44 : Nat)].size) (List.drop (0 : Nat) y3)), [(0 : Nat) + l3 * Try.prog.types[(44 : Nat)].size ≤ y3.length]).fst) * (16 : Nat) ≤ (140737488355328 : Nat) ∧ (0 : Nat) + (l1, Cs.ints (List.take (l1 * Try.prog.types[(44 : Nat)].size) (List.drop (0 : Nat) y1)), [(0 : Nat) + l1 * Try.prog.types[(44 : Nat)].size ≤ y1.length]).fst + (l2, Cs.ints (List.take (l2 * Try.prog.types[(44 : Nat)].size) (List.drop (0 : Nat) y2)), [(0 : Nat) + l2 * Try.prog.types[(44 : Nat)].size ≤ y2.length]).fst + (l3, Cs.ints (List.take (l3 * Try.prog.types[(44 : Nat)].size) (List.drop (0 : Nat) y3)), [(0 : Nat) + l3 * Try.prog.types[(44 : Nat)].size ≤ y3.length]).fst ≤ (1000000 : Nat)) (.need ((0 : Nat) + l3 * (2 : Nat) ≤ y3.length) (.need ((0 : Nat) + ((0 : Nat) + (l1, Cs.ints (List.take (l1 * Try.prog.types[(44 : Nat)].size) (List.drop (0 : Nat) y1)), [(0 : Nat) + l1 * Try.prog.types[(44 : Nat)].size ≤ y1.length]).fst + (l2, Cs.ints (List.take (l2 * Try.prog.types[(44 : Nat)].size) (List.drop (0 : Nat) y2)), [(0 : Nat) + l2 * Try.prog.types[(44 : Nat)].size ≤ y2.length]).fst) * (2 : Nat) ≤ (List.take (((0 : Nat) + (l1, Cs.ints (List.take (l1 * Try.prog.types[(44 : Nat)].size) (List.drop (0 : Nat) y1)), [(0 : Nat) + l1 * Try.prog.types[(44 : Nat)].size ≤ y1.length]).fst) * (2 : Nat)) (List.drop (0 : Nat) (List.take (0 : Nat) (List.drop (0 : Nat) []) ++ List.take (l1 * (2 : Nat)) (List.drop (0 : Nat) y1))) ++ List.take (l2 * (2 : Nat)) (List.drop (0 : Nat) y2)).length) (.fin (.slice (some ⟨7, 0, none⟩) (0 + (l1, Cs.ints (List.take (l1 * Try.prog.types[44].size) (List.drop 0 y1)), [0 + l1 * Try.prog.types[44].size ≤ y1.length]).fst + (l2, Cs.ints (List.take (l2 * Try.prog.types[44].size) (List.drop 0 y2)), [0 + l2 * Try.prog.types[44].size ≤ y2.length]).fst + (l3, Cs.ints (List.take (l3 * Try.prog.types[44].size) (List.drop 0 y3)), [0 + l3 * Try.prog.types[44].size ≤ y3.length]).fst) (0 + (l1, Cs.ints (List.take (l1 * Try.prog.types[44].size) (List.drop 0 y1)), [0 + l1 * Try.prog.types[44].size ≤ y1.length]).fst + (l2, Cs.ints (List.take (l2 * Try.prog.types[44].size) (List.drop 0 y2)), [0 + l2 * Try.prog.types[44].size ≤ y2.length]).fst + (l3, Cs.ints (List.take (l3 * Try.prog.types[44].size) (List.drop 0 y3)), [0 + l3 * Try.prog.types[44].size ≤ y3.length]).fst)) [some ⟨.view, .ints (y1)⟩, some ⟨.view, .ints (y2)⟩, some ⟨.view, .ints (y3)⟩, some ⟨.view, .vals [.slice (some ⟨0, 0, none⟩) (l1) (l1), .slice (some ⟨1, 0, none⟩) (l2) (l2), .slice (some ⟨2, 0, none⟩) (l3) (l3)]⟩, some deadB, some deadB, some deadB, some ⟨.row 44 2, .ints (List.take ((0 + (l1, Cs.ints (List.take (l1 * Try.prog.types[44].size) (List.drop 0 y1)), [0 + l1 * Try.prog.types[44].size ≤ y1.length]).fst + (l2, Cs.ints (List.take (l2 * Try.prog.types[44].size) (List.drop 0 y2)), [0 + l2 * Try.prog.types[44].size ≤ y2.length]).fst) * 2) (List.drop 0 (List.take ((0 + (l1, Cs.ints (List.take (l1 * Try.prog.types[44].size) (List.drop 0 y1)), [0 + l1 * Try.prog.types[44].size ≤ y1.length]).fst) * 2) (List.drop 0 (List.take 0 (List.drop 0 []) ++ List.take (l1 * 2) (List.drop 0 y1))) ++ List.take (l2 * 2) (List.drop 0 y2))) ++ List.take (l3 * 2) (List.drop 0 y3))⟩]))))))))))))))))))) := by kernel_rfl
/-- A view of three slices, beside what they are of. -/
theorem three_open {w : World} {l1 l2 l3 : Nat} {y1 y2 y3 : List Int} {x1 x2 x3 : Value} (h1 : DOk w (.row l1 (.ints y1)) x1) (h2 : DOk w (.row l2 (.ints y2)) x2) (h3 : DOk w (.row l3 (.ints y3)) x3) {g f : Nat} (hg : g < w.heap.size) (c1 : w.cell? ⟨g, f, none⟩ = some x1) (c2 : w.cell? ⟨g, f + 1, none⟩ = some x2) (c3 : w.cell? ⟨g, f + 2, none⟩ = some x3) (B : Nat → Prop) :
    ∃ ρ : Nat → Option Pl, ρ 3 = some (g, f, none) ∧ MemOk (fun _ => none) ρ B (fun n => [some (⟨.view, .ints y1⟩ : Blk), some ⟨.view, .ints y2⟩, some ⟨.view, .ints y3⟩, some ⟨.view, .vals [.slice (some ⟨0, 0, none⟩) l1 l1, .slice (some ⟨1, 0, none⟩) l2 l2, .slice (some ⟨2, 0, none⟩) l3 l3]⟩].getD n none) w := by
  obtain ⟨ρ, ha, hm⟩ := args_open (w := w) (ds := [.row l1 (.ints y1), .row l2 (.ints y2), .row l3 (.ints y3)]) (args := #[x1, x2, x3]) ⟨rfl, fun i d y hd hy => by
    match i, hd, hy with
    | 0, hd, hy =>
      obtain rfl : DArg.row l1 (.ints y1) = d := by simpa using hd
      obtain rfl : x1 = y := by simpa using hy
      exact h1
    | 1, hd, hy =>
      obtain rfl : DArg.row l2 (.ints y2) = d := by simpa using hd
      obtain rfl : x2 = y := by simpa using hy
      exact h2
    | 2, hd, hy =>
      obtain rfl : DArg.row l3 (.ints y3) = d := by simpa using hd
      obtain rfl : x3 = y := by simpa using hy
      exact h3
    | i + 3, hd, hy => simp at hd⟩ B
  have hn : ρ 3 = none := hm.fresh 3 rfl
  have v0 : VR ρ (.slice (some ⟨0, 0, none⟩) l1 l1) x1 := ha.2 0 _ _ rfl rfl
  have v1 : VR ρ (.slice (some ⟨1, 0, none⟩) l2 l2) x2 := ha.2 1 _ _ rfl rfl
  have v2 : VR ρ (.slice (some ⟨2, 0, none⟩) l3 l3) x3 := ha.2 2 _ _ rfl rfl
  have hext : Ext ρ (addPl ρ 3 (g, f, none)) := addPl_ext hn
  refine ⟨addPl ρ 3 (g, f, none), addPl_same _ _ _, fun n p hp => by simp at hp, fun n hn' => ?_, fun n b hb => ?_, fun n n' b b' p p' hb hown => ?_⟩
  · have h4 : 4 ≤ n := by
      rcases Nat.lt_or_ge n 4 with h | h
      · match n, h with
        | 0, _ => simp at hn'
        | 1, _ => simp at hn'
        | 2, _ => simp at hn'
        | 3, _ => simp at hn'
      · exact h
    rw [addPl_ne (by omega)]
    refine hm.fresh n ?_
    match n, h4 with
    | n + 4, _ => rfl
  · match n, hb with
    | 0, hb =>
      obtain rfl : (⟨.view, .ints y1⟩ : Blk) = b := by simpa using hb
      exact (hm.ok 0 _ rfl).keep hext (Nat.le_refl _) fun _ _ _ _ => rfl
    | 1, hb =>
      obtain rfl : (⟨.view, .ints y2⟩ : Blk) = b := by simpa using hb
      exact (hm.ok 1 _ rfl).keep hext (Nat.le_refl _) fun _ _ _ _ => rfl
    | 2, hb =>
      obtain rfl : (⟨.view, .ints y3⟩ : Blk) = b := by simpa using hb
      exact (hm.ok 2 _ rfl).keep hext (Nat.le_refl _) fun _ _ _ _ => rfl
    | 3, hb =>
      obtain rfl : (⟨.view, .vals [.slice (some ⟨0, 0, none⟩) l1 l1, .slice (some ⟨1, 0, none⟩) l2 l2, .slice (some ⟨2, 0, none⟩) l3 l3]⟩ : Blk) = b := by simpa using hb
      refine .inr ⟨g, f, none, addPl_same _ _ _, .inr rfl, hg, fun k v hk => ?_⟩
      match k, hk with
      | 0, hk =>
        obtain rfl : Value.slice (some ⟨0, 0, none⟩) l1 l1 = v := by simpa [Blk.cells, Cs.list] using hk
        exact ⟨x1, c1, v0.ext hext⟩
      | 1, hk =>
        obtain rfl : Value.slice (some ⟨1, 0, none⟩) l2 l2 = v := by simpa [Blk.cells, Cs.list] using hk
        exact ⟨x2, c2, v1.ext hext⟩
      | 2, hk =>
        obtain rfl : Value.slice (some ⟨2, 0, none⟩) l3 l3 = v := by simpa [Blk.cells, Cs.list] using hk
        exact ⟨x3, c3, v2.ext hext⟩
      | k + 3, hk => simp [Blk.cells, Cs.list] at hk
    | n + 4, hb => simp at hb
  · exfalso
    match n, hb with
    | 0, hb =>
      obtain rfl : (⟨.view, .ints y1⟩ : Blk) = b := by simpa using hb
      cases hown
    | 1, hb =>
      obtain rfl : (⟨.view, .ints y2⟩ : Blk) = b := by simpa using hb
      cases hown
    | 2, hb =>
      obtain rfl : (⟨.view, .ints y3⟩ : Blk) = b := by simpa using hb
      cases hown
    | 3, hb =>
      obtain rfl : (⟨.view, .vals [.slice (some ⟨0, 0, none⟩) l1 l1, .slice (some ⟨1, 0, none⟩) l2 l2, .slice (some ⟨2, 0, none⟩) l3 l3]⟩ : Blk) = b := by simpa using hb
      cases hown
    | n + 4, hb => simp at hb
/-- A function of a row of three slices that answers with a fresh row. -/
theorem three_call {P : Program} (hm : P.follows .mixedOrders = true) {E : Env} (hE : EnvOk P E) {m n : Nat} {f : FuncId} {l1 l2 l3 : Nat} {y1 y2 y3 : List Int} {v : Value} {b : Blk} (hb : isRow b = true)
    (h : (bodyM P E (runM P E m n) m f [.slice (some ⟨3, 0, none⟩) 3 3] [some ⟨.view, .ints y1⟩, some ⟨.view, .ints y2⟩, some ⟨.view, .ints y3⟩, some ⟨.view, .vals [.slice (some ⟨0, 0, none⟩) l1 l1, .slice (some ⟨1, 0, none⟩) l2 l2, .slice (some ⟨2, 0, none⟩) l3 l3]⟩] .fin).ok (fun _ _ => False) (fun u mem => RowIs v b u mem))
    (w : World) {x1 x2 x3 : Value} (h1 : DOk w (.row l1 (.ints y1)) x1) (h2 : DOk w (.row l2 (.ints y2)) x2) (h3 : DOk w (.row l3 (.ints y3)) x3) {g fo c : Nat} (hg : g < w.heap.size) (c1 : w.cell? ⟨g, fo, none⟩ = some x1) (c2 : w.cell? ⟨g, fo + 1, none⟩ = some x2) (c3 : w.cell? ⟨g, fo + 2, none⟩ = some x3) (hc : 3 ≤ c) :
    Calls P f #[.slice (some ⟨g, fo, none⟩) 3 c] w fun e w' => ∃ v' p, e = .returned v' ∧ Below w.heap.size w w' ∧ ∀ ρ name, ρ name = some p → VR ρ (atName name v) v' ∧ BlkOk ρ (fun k => k < w.heap.size) w' name b := by
  obtain ⟨u, mem', ⟨src, hrv, hsrc⟩, hent, hdet⟩ := bodyM_ok hE hm (runM_ok hm hE m n) m f _ _ _ _ _ h
  obtain ⟨kd, cs⟩ := b
  cases kd with
  | row e sz =>
    obtain ⟨ρ, hρ, hmem⟩ := three_open h1 h2 h3 hg c1 c2 c3 (fun k => k < w.heap.size)
    refine (hdet ⟨w, fun _ => none, fun k => k < w.heap.size, fun _ h => h, [], none⟩ ρ #[.slice (some ⟨g, fo, none⟩) 3 c] w ⟨rfl, fun i a x ha hx => ?_⟩ hmem (BelowK.refl _ _)).mono ?_
    · match i, ha, hx with
      | 0, ha, hx =>
        obtain rfl : Value.slice (some ⟨3, 0, none⟩) 3 3 = a := by simpa using ha
        obtain rfl : Value.slice (some ⟨g, fo, none⟩) 3 c = x := by simpa using hx
        exact .slice (o := 0) hρ (.inr rfl) hc (fun k hk => by simp at hk)
      | i + 1, ha, hx => simp at ha
    rintro e' w' ⟨v', ρ', rfl, _, g2, g3, g4⟩
    cases src with
    | none => exact ⟨v', (0, 1, some 0), rfl, g3.to, fun ρ2 name hp => ⟨rv_ok (ρ := ρ') (src := none) hp hrv g2, .inl ⟨_, hp, rfl, rfl⟩⟩⟩
    | some k =>
      simp only at hsrc
      split at hsrc
      rotate_left
      · exact hsrc.elim
      rename_i b' hb'
      obtain ⟨kd', cs'⟩ := b'
      cases kd' with
      | row e2 sz2 =>
        obtain ⟨rfl, rfl, hc⟩ := hsrc
        obtain ⟨d1, d2⟩ := rc_list hc
        rcases g4.ok k _ hb' with ⟨p, h1, h2, h3⟩ | ⟨g, cap, h1, h2, arr, h3, h4, h5⟩
        · exact ⟨v', p, rfl, g3.to, fun ρ2 name hp => ⟨rv_ok (ρ := ρ') (src := some k) (hp.trans h1.symm) hrv g2, .inl ⟨p, hp, h2, h3⟩⟩⟩
        · refine ⟨v', _, rfl, g3.to, fun ρ2 name hp => ⟨rv_ok (ρ := ρ') (src := some k) (hp.trans h1.symm) hrv g2, .inr ⟨g, cap, hp, h2, arr, h3, h4, ?_⟩⟩⟩
          intro i x hx
          obtain ⟨x', k1, k2⟩ := h5 i x (by show cs'.list[i]? = some x; rw [d1]; exact hx)
          refine ⟨x', k1, ?_⟩
          have hat := plain_of_atom (d2 x (List.mem_of_getElem? hx))
          rw [k2.plain hat]
          exact .lit hat
      | _ => exact hsrc.elim
  | _ => cases hb
abbrev catB3 (l1 l2 l3 : Nat) (y1 y2 y3 : List Int) : Blk := ⟨.row 44 2, .ints (y1.take (l1 * 2) ++ y2.take (l2 * 2) ++ y3.take (l3 * 2))⟩
theorem cat_row3 {l1 l2 l3 : Nat} {y1 y2 y3 : List Int} (h1 : l1 * 2 ≤ y1.length) (h2 : l2 * 2 ≤ y2.length) (h3 : l3 * 2 ≤ y3.length) (h0 : 0 < l1 + l2 + l3) (h4 : l1 + l2 + l3 ≤ 1000) : (bodyM Try.prog ECt (runM Try.prog ECt 30 12) 30 94 [.slice (some ⟨3, 0, none⟩) 3 3] [some ⟨.view, .ints y1⟩, some ⟨.view, .ints y2⟩, some ⟨.view, .ints y3⟩, some ⟨.view, .vals [.slice (some ⟨0, 0, none⟩) l1 l1, .slice (some ⟨1, 0, none⟩) l2 l2, .slice (some ⟨2, 0, none⟩) l3 l3]⟩] .fin).ok (fun _ _ => False) (fun u mem => RowIs (.slice (some ⟨0, 0, none⟩) (l1 + l2 + l3) (l1 + l2 + l3)) (catB3 l1 l2 l3 y1 y2 y3) u mem) := by
  rw [tr_cat3]
  have e1 : IntKind.i64.wrap (0 + (l1 : Int)) = (l1 : Int) := by rw [wr (by omega)]; omega
  have e2 : IntKind.i64.wrap ((l1 : Int) + (l2 : Int)) = (l1 : Int) + l2 := wr (by omega)
  have e4 : IntKind.i64.wrap ((l1 : Int) + (l2 : Int) + (l3 : Int)) = (l1 : Int) + l2 + l3 := wr (by omega)
  have e3 : IntKind.i64.wrap ((0 : Int) + 1) = 1 := by rw [wr (by omega)]; rfl
  have e5 : IntKind.i64.wrap ((1 : Int) + 1) = 2 := by rw [wr (by omega)]; rfl
  have t1 : (y1.take (l1 * 2)).length = l1 * 2 := by rw [List.length_take]; omega
  have t2 : (y2.take (l2 * 2)).length = l2 * 2 := by rw [List.length_take]; omega
  simp only [e1, e2, e3, e4, e5, List.drop_zero, List.take_zero, List.nil_append, Nat.zero_add, List.take_take, Nat.min_self, t1, t2]
  have t3 : List.take ((l1 + l2) * 2) (y1.take (l1 * 2) ++ y2.take (l2 * 2)) = y1.take (l1 * 2) ++ y2.take (l2 * 2) := List.take_of_length_le (by rw [List.length_append, t1, t2]; omega)
  have t4 : (l1 + l2) * 2 ≤ (y1.take (l1 * 2) ++ y2.take (l2 * 2)).length := by rw [List.length_append, t1, t2]; omega
  rw [t3]
  repeat' (first | exact True.intro | omega | exact rfl | exact t4 | refine brT_ok.2 ⟨fun q => ?_, fun _ => ?_⟩ | exact absurd (of_decide_eq_true q) (by omega) | exact ⟨some 7, ⟨rfl, rfl, rfl⟩, rfl, rfl, rfl⟩ | refine And.intro ?_ ?_)
def catG3 (name : Nat) (args : List Value) : Rd Eff := match args with
  | [.slice (some ⟨nb, 0, none⟩) 3 _] => .blk nb fun b => match b with
    | some ⟨.row _ 1, .vals [s1, s2, s3]⟩ => (rdArg s1).bind fun d1 => (rdArg s2).bind fun d2 => (rdArg s3).bind fun d3 => (match rowI d1, rowI d2, rowI d3 with
      | some (l1, y1), some (l2, y2), some (l3, y3) => .ret ⟨.slice (some ⟨name, 0, none⟩) (l1 + l2 + l3) (l1 + l2 + l3), [(name, catB3 l1 l2 l3 y1 y2 y3)], [l1 * 2 ≤ y1.length, l2 * 2 ≤ y2.length, l3 * 2 ≤ y3.length, 0 < l1 + l2 + l3, l1 + l2 + l3 ≤ 1000]⟩
      | _, _, _ => .fail)
    | _ => .fail
  | _ => .fail
set_option maxRecDepth 100000 in
theorem catG3_sound {J : TabJ} (hJ : GSound Try.prog J.g) : GSound Try.prog (consR 94 catG3 J).g := by
  intro h name args s eff hr hn
  simp only [consR] at hr
  split at hr
  rotate_left
  · exact hJ h name args s eff hr hn
  rename_i heq
  obtain rfl := Nat.eq_of_beq_eq_true heq
  refine ⟨(entersB_res (by kernel_rfl)).1, fun B ρ0 ρ w args' ha hm hB hcond => ?_⟩
  unfold catG3 at hr
  split at hr
  rotate_left
  · simp [Rd.run] at hr
  rename_i nb c
  simp only [Rd.run] at hr
  split at hr
  rotate_left
  · simp [Rd.run] at hr
  rename_i e s1 s2 s3 hb
  obtain ⟨d1, hd1, hr1⟩ := bind_some hr
  obtain ⟨d2, hd2, hr2⟩ := bind_some hr1
  obtain ⟨d3, hd3, hr3⟩ := bind_some hr2
  clear hr hr1 hr2
  split at hr3
  rotate_left
  · simp [Rd.run] at hr3
  rename_i l1 y1 l2 y2 l3 y3 r1 r2 r3
  obtain rfl := rowI_spec r1
  obtain rfl := rowI_spec r2
  obtain rfl := rowI_spec r3
  obtain rfl : (⟨.slice (some ⟨name, 0, none⟩) (l1 + l2 + l3) (l1 + l2 + l3), [(name, catB3 l1 l2 l3 y1 y2 y3)], [l1 * 2 ≤ y1.length, l2 * 2 ≤ y2.length, l3 * 2 ≤ y3.length, 0 < l1 + l2 + l3, l1 + l2 + l3 ≤ 1000]⟩ : Eff) = eff := by simpa [Rd.run] using hr3
  obtain ⟨k1, k2, k5, k3, k4, _⟩ := hcond
  obtain ⟨hsz, hval⟩ := ha
  obtain ⟨x0, rfl⟩ : ∃ x0, args' = #[x0] := by
    have h2 : args'.size = 1 := by simpa using hsz.symm
    match args', h2 with
    | ⟨[x0]⟩, _ => exact ⟨x0, rfl⟩
  have v0 := hval 0 _ x0 rfl rfl
  rcases v0.slice_inv with ⟨g, f, cp, c', j1, jok, j2, j3, j4⟩ | ⟨hl0, _⟩ | ⟨hl0, _⟩
  rotate_left
  · omega
  · omega
  rcases hm.ok nb _ hb with ⟨p, q1, q2, q3⟩ | ⟨g2, cap, q1, q2, cs', q3, q4, q5⟩
  · rw [q1] at j1
    obtain rfl : p = (g, f, cp) := by simpa using j1
    exact absurd ⟨q2, 0, q3⟩ jok.not
  rw [q1] at j1
  obtain ⟨rfl, rfl, rfl⟩ : g2 = g ∧ 0 = f ∧ some cap = cp := by simpa using j1
  subst j2
  obtain ⟨x1, a1, a2⟩ := q5 0 s1 rfl
  obtain ⟨x2, b1, b2⟩ := q5 1 s2 rfl
  obtain ⟨x3, f1, f2⟩ := q5 2 s3 rfl
  have hg : g2 < w.heap.size := (Array.getElem?_eq_some_iff.1 q3).1
  have cell : ∀ k x, cs'[k]? = some x → w.cell? ⟨g2, 0 + k, none⟩ = some x := fun k x hx => by
    simp only [World.cell?, Nat.zero_add, q3, Option.isSome_none, Bool.false_eq_true, if_false, hx]
  refine (three_call mixed ECt_ok rfl (cat_row3 k1 k2 k5 k3 k4) w ((rdArg_ok hd1).2 a2 hm) ((rdArg_ok hd2).2 b2 hm) ((rdArg_ok hd3).2 f2 hm) hg (cell 0 _ a1) (cell 1 _ b1) (cell 2 _ f1) j3).mono ?_
  rintro e' w' ⟨v', p, rfl, hbel, hrow⟩
  obtain ⟨g1, g3⟩ := hrow (addPl ρ name p) name (addPl_same _ _ _)
  refine ⟨v', addPl ρ name p, rfl, addPl_ext (hm.fresh name hn), g1, BelowK.of hbel hB, ?_⟩
  rw [upd_one]
  exact hm.newRow hB hbel hn rfl g3
end Go.Proofs.Ytolodncpegajkab
namespace Go.Proofs.Ytolodncpegajkab
set_option linter.all false
open Go.RowKit
theorem sdL_len : ∀ l : List Pt, (sdL l).length = l.length - 1
  | [] => rfl
  | [_] => rfl
  | a :: b :: t => by
    show (sdL (b :: t)).length + 1 = _
    rw [sdL_len (b :: t)]
    simp
theorem sdL_at : ∀ (l : List Pt) (k : Nat), k + 1 < l.length → (sdL l).getD k (0, 0) = dif (l.getD (k + 1) (0, 0)) (l.getD k (0, 0))
  | [], k, h => by simp at h
  | [_], k, h => by simp at h
  | a :: b :: t, 0, _ => rfl
  | a :: b :: t, k + 1, h => sdL_at (b :: t) k (by simpa using h)
theorem sdC_len (ps : List Pt) : (sdC ps).length = ps.length := by
  unfold sdC
  rw [sdL_len, List.length_append, List.length_take]
  cases ps <;> simp
theorem sdN_all (ps : List Pt) : sdN ps ps.length = sdC ps := by
  refine ext_getD (by rw [sdN_len, sdC_len]) fun k hk => ?_
  rw [sdN_len] at hk
  unfold sdC
  rw [sdL_at _ _ (by rw [List.length_append, List.length_take]; omega), getD_append, getD_append, if_pos hk]
  have e1 : (sdN ps ps.length).getD k (0, 0) = dif (nxP ps k) (ps.getD k (0, 0)) := by
    unfold sdN
    simp [List.getD, hk]
  rw [e1]
  unfold nxP
  rcases Nat.lt_or_ge (k + 1) ps.length with c | c
  · rw [if_pos c, Nat.mod_eq_of_lt c]
  · rw [if_neg (by omega)]
    have : k + 1 = ps.length := by omega
    rw [this, Nat.mod_self, Nat.sub_self]
    congr 1
    match ps, hk with
    | _ :: _, _ => rfl
theorem Gr_sds {fn : Func} (hf : Try.prog.funcs[132]? = some fn) : RangesGood Try.prog (rt1 7 e_sds) (codeOf fn) := by
  obtain rfl := fn_is Try.func132 hf
  exact rt1_good (by kernel_rfl) lg_sds
def GSd : FuncId → RT := fun f => match f with
  | 132 => rt1 7 e_sds
  | _ => noR
def ESd : Env := withG (tabE B0) GSd
theorem ESd_ok : EnvOk Try.prog ESd := withG_ok (tabE_ok B0_ok) (by
  intro f fn hf
  unfold GSd
  split
  all_goals first | with_reducible exact Gr_sds hf | exact noR_good)
set_option maxRecDepth 100000 in
theorem tr_iSd (ps : List Pt) : bodyX Try.prog ESd 30 12 132 [.row ps.length (.ints (flat ps))] = .need ((flat ps).length = ps.length * (2 : Nat)) (.need (allV (ptsA ps.length (flat ps)) = true) (.need (ps.length ≤ (1000 : Nat)) (.fin (.slice (some ⟨3, 0, none⟩) (ps.length) (ps.length)) [some ⟨.view, .ints (flat ps)⟩, some ⟨.box, .vals [.slice (some ⟨3, 0, none⟩) (ps.length) (ps.length)]⟩, some ⟨.view, .vals [.slice (some ⟨0, 0, none⟩) (ps.length) (ps.length)]⟩, some ⟨.row 44 2, .ints (flat (sdN (ptsA ps.length (flat ps)) ps.length))⟩]))) := by kernel_rfl
theorem resR_iSd {ps : List Pt} (hv : allV ps = true) (h : ps.length ≤ 1000) : ResR Try.prog 132 [.row ps.length (.ints (flat ps))] (rowP (sdC ps)) (blkP (sdC ps)) := by
  refine bodyX_resR mixed ESd_ok (m := 30) (n := 12) rfl ?_
  rw [tr_iSd]
  simp only [ptsA_flat, sdN_all]
  exact ⟨flat_length ps, hv, h, some 3, ⟨rfl, rfl, (sdC_len ps).symm⟩, rfl, rfl, rfl⟩
theorem drop_cons2 {l : List Pt} {i : Nat} (h : i < l.length) : l.drop i = l.getD i (0, 0) :: l.drop (i + 1) := drop_cons h (0, 0)
/-- What the merge of two lists comes to. -/
theorem mgE_is : ∀ (f i j : Nat) (o U V : List Pt), U.length + V.length ≤ f + i + j → i ≤ U.length → j ≤ V.length →
    (mgE f i j o U V).1 ≤ U.length ∧ (mgE f i j o U V).2.1 ≤ V.length ∧ (mgE f i j o U V).2.2 ++ U.drop (mgE f i j o U V).1 ++ V.drop (mgE f i j o U V).2.1 = o ++ mrg (U.drop i) (V.drop j)
  | 0, i, j, o, U, V, h, hi, hj => by
    refine ⟨hi, hj, ?_⟩
    show o ++ U.drop i ++ V.drop j = _
    rw [List.drop_of_length_le (show U.length ≤ i by omega), List.drop_of_length_le (show V.length ≤ j by omega), mrg_nl]
    simp
  | f + 1, i, j, o, U, V, h, hi, hj => by
    by_cases c : i < U.length ∧ j < V.length
    · rw [mgE, if_pos c, drop_cons2 c.1, drop_cons2 c.2, mrg_cc]
      split
      · obtain ⟨a1, a2, a3⟩ := mgE_is f (i + 1) j (o ++ [U.getD i (0, 0)]) U V (by omega) (by omega) hj
        refine ⟨a1, a2, ?_⟩
        rw [a3, drop_cons2 c.2]
        simp
      · split
        · obtain ⟨a1, a2, a3⟩ := mgE_is f i (j + 1) (o ++ [V.getD j (0, 0)]) U V (by omega) hi (by omega)
          refine ⟨a1, a2, ?_⟩
          rw [a3, drop_cons2 c.1]
          simp
        · obtain ⟨a1, a2, a3⟩ := mgE_is f (i + 1) (j + 1) (o ++ [adP (U.getD i (0, 0)) (V.getD j (0, 0))]) U V (by omega) (by omega) (by omega)
          refine ⟨a1, a2, ?_⟩
          rw [a3]
          simp
    · rw [mgE, if_neg c]
      refine ⟨hi, hj, ?_⟩
      show o ++ U.drop i ++ V.drop j = _
      rcases Nat.lt_or_ge i U.length with d | d
      · rw [List.drop_of_length_le (show V.length ≤ j by omega), mrg_nil]
        simp
      · rw [List.drop_of_length_le d, mrg_nl]
        simp
theorem mgT_is (us vs : List Pt) : (mgT us vs).1 ≤ us.length ∧ (mgT us vs).2.1 ≤ vs.length ∧ (mgT us vs).2.2 ++ us.drop (mgT us vs).1 ++ vs.drop (mgT us vs).2.1 = mrg us vs := by
  have := mgE_is (us.length + vs.length) 0 0 [] us vs (by omega) (Nat.zero_le _) (Nat.zero_le _)
  simpa [mgT] using this
theorem mrg_len : ∀ (n : Nat) (u v : List Pt), u.length + v.length ≤ n → (mrg u v).length ≤ u.length + v.length ∧ (0 < u.length + v.length → 0 < (mrg u v).length)
  | _, [], v, _ => by rw [mrg_nl]; simp
  | _, u :: us, [], _ => by rw [mrg_nil]; simp
  | 0, _ :: _, _ :: _, hn => by simp at hn
  | n + 1, u :: us, v :: vs, hn => by
    have i1 := mrg_len n us (v :: vs) (by simp at hn ⊢; omega)
    have i2 := mrg_len n (u :: us) vs (by simp at hn ⊢; omega)
    have i3 := mrg_len n us vs (by simp at hn ⊢; omega)
    rw [mrg_cc]
    split
    · simp at *; omega
    · split <;> (simp at *; omega)
theorem Lr_mgs {fn : Func} (hf : Try.prog.funcs[131]? = some fn) : LoopsGood Try.prog (lt1 e_mgs) 0 (codeOf fn) := by
  obtain rfl := fn_is Try.func131 hf
  exact lt1_good lg_mgs
def LMg : FuncId → LT := fun f => match f with
  | 131 => lt1 e_mgs
  | _ => noL
def JCt3 : TabJ := consR 94 catG3 noJ
theorem JCt3_ok : GSound Try.prog JCt3.g := catG3_sound (failG_sound Try.prog)
def EMk : Env := withT (mkE B0 (fun _ _ => none) LMg) JCt3
theorem EMk_ok : EnvOk Try.prog EMk := withT_ok (mkEOk B0_ok (fun _ _ _ _ _ h => (by cases h)) (by
  intro f fn hf
  unfold LMg
  split
  all_goals first | with_reducible exact Lr_mgs hf | exact noL_good)) JCt3_ok
set_option maxRecDepth 100000 in
theorem tr_iMg (us vs : List Pt) : bodyX Try.prog EMk 30 12 131 [.row us.length (.ints (flat us)), .row vs.length (.ints (flat vs))] = .need ((flat us).length = us.length * (2 : Nat)) (.need ((flat vs).length = vs.length * (2 : Nat)) (.need (allW (ptsA us.length (flat us)) = true) (.need (allW (ptsA vs.length (flat vs)) = true) (.need (us.length + vs.length ≤ (1000 : Nat)) (.need ((mgT (ptsA us.length (flat us)) (ptsA vs.length (flat vs))).snd.2.length * (2 : Nat) ≤ (List.drop (0 : Nat) (flat (mgT (ptsA us.length (flat us)) (ptsA vs.length (flat vs))).snd.2)).length) (.need ((us.length - (mgT (ptsA us.length (flat us)) (ptsA vs.length (flat vs))).fst) * (2 : Nat) ≤ (List.drop ((mgT (ptsA us.length (flat us)) (ptsA vs.length (flat vs))).fst * (2 : Nat)) (flat us)).length) (.need ((vs.length - (mgT (ptsA us.length (flat us)) (ptsA vs.length (flat vs))).snd.fst) * (2 : Nat) ≤ (List.drop ((mgT (ptsA us.length (flat us)) (ptsA vs.length (flat vs))).snd.fst * (2 : Nat)) (flat vs)).length) (.need ((0 : Nat) < (mgT (ptsA us.length (flat us)) (ptsA vs.length (flat vs))).snd.2.length + (us.length - (mgT (ptsA us.length (flat us)) (ptsA vs.length (flat vs))).fst) + (vs.length - (mgT (ptsA us.length (flat us)) (ptsA vs.length (flat vs))).snd.fst)) (.need ((mgT (ptsA us.length (flat us)) (ptsA vs.length (flat vs))).snd.2.length + (us.length - (mgT (ptsA us.length (flat us)) (ptsA vs.length (flat vs))).fst) + (vs.length - (mgT (ptsA us.length (flat us)) (ptsA vs.length (flat vs))).snd.fst) ≤ (1000 : Nat)) (.fin (.slice (some ⟨4, 0, none⟩) ((mgT (ptsA us.length (flat us)) (ptsA vs.length (flat vs))).snd.2.length + (us.length - (mgT (ptsA us.length (flat us)) (ptsA vs.length (flat vs))).fst) + (vs.length - (mgT (ptsA us.length (flat us)) (ptsA vs.length (flat vs))).snd.fst)) ((mgT (ptsA us.length (flat us)) (ptsA vs.length (flat vs))).snd.2.length + (us.length - (mgT (ptsA us.length (flat us)) (ptsA vs.length (flat vs))).fst) + (vs.length - (mgT (ptsA us.length (flat us)) (ptsA vs.length (flat vs))).snd.fst))) [some ⟨.view, .ints (flat us)⟩, some ⟨.view, .ints (flat vs)⟩, some ⟨.row 44 2, .ints (flat (mgT (ptsA us.length (flat us)) (ptsA vs.length (flat vs))).snd.2)⟩, some ⟨.row 39 1, .vals [.slice (some ⟨2, 0, none⟩) ((mgT (ptsA us.length (flat us)) (ptsA vs.length (flat vs))).snd.2.length) ((mgT (ptsA us.length (flat us)) (ptsA vs.length (flat vs))).snd.2.length), .slice (some ⟨0, (mgT (ptsA us.length (flat us)) (ptsA vs.length (flat vs))).fst * 2, none⟩) (us.length - (mgT (ptsA us.length (flat us)) (ptsA vs.length (flat vs))).fst) (us.length - (mgT (ptsA us.length (flat us)) (ptsA vs.length (flat vs))).fst), .slice (some ⟨1, (mgT (ptsA us.length (flat us)) (ptsA vs.length (flat vs))).snd.fst * 2, none⟩) (vs.length - (mgT (ptsA us.length (flat us)) (ptsA vs.length (flat vs))).snd.fst) (vs.length - (mgT (ptsA us.length (flat us)) (ptsA vs.length (flat vs))).snd.fst)]⟩, some ⟨.row 44 2, .ints (List.take ((mgT (ptsA us.length (flat us)) (ptsA vs.length (flat vs))).snd.2.length * 2) (List.drop 0 (flat (mgT (ptsA us.length (flat us)) (ptsA vs.length (flat vs))).snd.2)) ++ List.take ((us.length - (mgT (ptsA us.length (flat us)) (ptsA vs.length (flat vs))).fst) * 2) (List.drop ((mgT (ptsA us.length (flat us)) (ptsA vs.length (flat vs))).fst * 2) (flat us)) ++ List.take ((vs.length - (mgT (ptsA us.length (flat us)) (ptsA vs.length (flat vs))).snd.fst) * 2) (List.drop ((mgT (ptsA us.length (flat us)) (ptsA vs.length (flat vs))).snd.fst * 2) (flat vs)))⟩])))))))))) := by kernel_rfl
theorem flat_dropK (l : List Pt) (i : Nat) : (flat l).drop (i * 2) = flat (l.drop i) := by
  induction l generalizing i with
  | nil => simp [flat]
  | cons p t ih =>
    cases i with
    | zero => rfl
    | succ i =>
      rw [List.drop_succ_cons, ← ih i]
      show List.drop ((i + 1) * 2) (p.1 :: p.2 :: flat t) = _
      rw [Nat.add_mul]
      rfl
theorem resR_iMg {us vs : List Pt} (ha : allW us = true) (hb : allW vs = true) (h : us.length + vs.length ≤ 1000) (h0 : 0 < us.length + vs.length) : ResR Try.prog 131 [.row us.length (.ints (flat us)), .row vs.length (.ints (flat vs))] (rowP (mrg us vs)) (blkP (mrg us vs)) := by
  refine bodyX_resR mixed EMk_ok (m := 30) (n := 12) rfl ?_
  rw [tr_iMg]
  simp only [ptsA_flat, List.drop_zero, flat_dropK, flat_length]
  obtain ⟨m1, m2, m3⟩ := mgT_is us vs
  obtain ⟨l1, l2⟩ := mrg_len _ us vs (Nat.le_refl _)
  have l2 := l2 h0
  have ll := congrArg List.length m3
  simp only [List.length_append, List.length_drop] at ll
  generalize mgT us vs = T at *
  obtain ⟨i, j, o⟩ := T
  simp only at *
  have t1 : List.take (o.length * 2) (flat o) = flat o := List.take_of_length_le (by rw [flat_length]; omega)
  have t2 : List.take ((us.length - i) * 2) (flat (us.drop i)) = flat (us.drop i) := List.take_of_length_le (by rw [flat_length, List.length_drop]; omega)
  have t3 : List.take ((vs.length - j) * 2) (flat (vs.drop j)) = flat (vs.drop j) := List.take_of_length_le (by rw [flat_length, List.length_drop]; omega)
  rw [t1, t2, t3, ← flat_append, ← flat_append, m3, ll]
  refine ⟨trivial, trivial, ha, hb, h, ?_, ?_, ?_, ?_, ?_, some 4, ⟨rfl, rfl, rfl⟩, rfl, rfl, rfl⟩
  all_goals first | omega | (rw [List.length_drop]; omega)
end Go.Proofs.Ytolodncpegajkab
namespace Go.Proofs.Ytolodncpegajkab
set_option linter.all false
open Go.RowKit
def pt4 (x y : Int) : Bool := decide (-4000 ≤ x ∧ x ≤ 4000 ∧ -4000 ≤ y ∧ y ≤ 4000)
theorem pt4_iff {x y : Int} : pt4 x y = true ↔ (-4000 ≤ x ∧ x ≤ 4000 ∧ -4000 ≤ y ∧ y ≤ 4000) := by unfold pt4; exact decide_eq_true_iff
def all4 (ps : List Pt) : Bool := ps.all fun p => pt4 p.1 p.2
theorem all4_at {ps : List Pt} (h : all4 ps = true) {j : Nat} (hj : j < ps.length) : pt4 (ps.getD j (0, 0)).1 (ps.getD j (0, 0)).2 = true := List.all_eq_true.1 h (ps.getD j (0, 0)) (by simp [hj])
theorem all4_of {ps : List Pt} (h : allW ps = true) : all4 ps = true := List.all_eq_true.2 fun z hz => by
  have := pt2_iff.1 (List.all_eq_true.1 h z hz)
  exact pt4_iff.2 (by omega)
theorem all4_cons {p : Pt} {l : List Pt} : all4 (p :: l) = true ↔ pt4 p.1 p.2 = true ∧ all4 l = true := by unfold all4; simp
theorem allW_cons {p : Pt} {l : List Pt} : allW (p :: l) = true ↔ pt2 p.1 p.2 = true ∧ allW l = true := by unfold allW; simp
theorem pt4_of {p : Pt} (h : pt2 p.1 p.2 = true) : pt4 p.1 p.2 = true := by
  have := pt2_iff.1 h
  exact pt4_iff.2 (by omega)
theorem mrg_all4 : ∀ (n : Nat) (u v : List Pt), u.length + v.length ≤ n → allW u = true → allW v = true → all4 (mrg u v) = true
  | _, [], v, _, _, hv => by rw [mrg_nl]; exact all4_of hv
  | _, u :: us, [], _, hu, _ => by rw [mrg_nil]; exact all4_of hu
  | 0, _ :: _, _ :: _, hn, _, _ => by simp at hn
  | n + 1, u :: us, v :: vs, hn, hu, hv => by
    have hu' := allW_cons.1 hu
    have hv' := allW_cons.1 hv
    rw [mrg_cc]
    split
    · exact all4_cons.2 ⟨pt4_of hu'.1, mrg_all4 n us (v :: vs) (by simp at hn ⊢; omega) hu'.2 hv⟩
    · split
      · exact all4_cons.2 ⟨pt4_of hv'.1, mrg_all4 n (u :: us) vs (by simp at hn ⊢; omega) hu hv'.2⟩
      · refine all4_cons.2 ⟨?_, mrg_all4 n us vs (by simp at hn ⊢; omega) hu'.2 hv'.2⟩
        have a1 := pt2_iff.1 hu'.1
        have a2 := pt2_iff.1 hv'.1
        unfold adP
        exact pt4_iff.2 (by simp only; omega)
theorem allW_sd {ps : List Pt} (h : allV ps = true) : allW (sdC ps) = true := by
  rw [← sdN_all]
  refine List.all_eq_true.2 fun z hz => ?_
  unfold sdN at hz
  obtain ⟨j, hj, rfl⟩ := List.mem_map.1 hz
  have hj := List.mem_range.1 hj
  have b1 := allV_gt h hj
  have b2 := allV_gt h (nx_lt hj)
  unfold dif nxP
  exact pt2_iff.2 (by simp only; omega)
theorem resR_two {P : Program} {f : FuncId} {v : Value} {b : Blk} {n m : Nat} {xs ys : List Int} (hn : n * 2 ≤ xs.length) (hm : m * 2 ≤ ys.length) (h0 : ResR P f [.row (ptsA n xs).length (.ints (flat (ptsA n xs))), .row (ptsA m ys).length (.ints (flat (ptsA m ys)))] v b) : ResR P f [.row n (.ints xs), .row m (.ints ys)] v b := by
  have h1 := resR_pts1 (pre := []) (post := [.row (ptsA m ys).length (.ints (flat (ptsA m ys)))]) hn h0
  exact resR_pts1 (pre := [.row n (.ints xs)]) (post := []) hm h1
def RMg : TabR := fun f ds => match f, ds with
  | 132, [.row m (.ints xs)] => some (rowP (sdC (ptsA m xs)), blkP (sdC (ptsA m xs)), [m * 2 ≤ xs.length, allV (ptsA m xs) = true, m ≤ 1000])
  | 131, [.row m (.ints xs), .row n (.ints ys)] => some (rowP (mrg (ptsA m xs) (ptsA n ys)), blkP (mrg (ptsA m xs) (ptsA n ys)), [m * 2 ≤ xs.length, n * 2 ≤ ys.length, allW (ptsA m xs) = true, allW (ptsA n ys) = true, m + n ≤ 1000, 0 < m + n])
  | _, _ => none
theorem RMg_ok : TabROk Try.prog RMg := by
  intro f ds v b C h hC
  unfold RMg at h
  split at h
  · obtain ⟨rfl, rfl, rfl⟩ : _ ∧ _ ∧ _ := by simpa using h
    obtain ⟨_, h2⟩ := ptsA_spec hC.1
    have h1 := resR_pts1 (pre := []) (post := []) hC.1 (resR_iSd hC.2.1 (by rw [h2]; exact hC.2.2.1))
    simp only [List.nil_append] at h1
    exact h1
  · obtain ⟨rfl, rfl, rfl⟩ : _ ∧ _ ∧ _ := by simpa using h
    obtain ⟨_, h2⟩ := ptsA_spec hC.1
    obtain ⟨_, h3⟩ := ptsA_spec hC.2.1
    exact resR_two hC.1 hC.2.1 (resR_iMg hC.2.2.1 hC.2.2.2.1 (by rw [h2, h3]; exact hC.2.2.2.2.1) (by rw [h2, h3]; exact hC.2.2.2.2.2.1))
  · cases h
def EMf : Env := mkE B0 RMg (fun _ => noL)
theorem EMf_ok : EnvOk Try.prog EMf := mkEOk B0_ok RMg_ok (fun _ _ _ => noL_good)
/-- The points along sides, but where they lead back. -/
def addR (p : Pt) (ms : List Pt) : List Pt := p :: (cumP p ms).tail.filter fun z => decide (z ≠ p)
def cuF (p a : Pt) (l : List Pt) : List Pt := (cumP a l).tail.filter fun z => decide (z ≠ p)
theorem cuF_cons (p a m : Pt) (l : List Pt) : cuF p a (m :: l) = if adP a m = p then cuF p (adP a m) l else adP a m :: cuF p (adP a m) l := by
  unfold cuF
  show ((cumP (adP a m) l).filter _) = _
  obtain ⟨t, e⟩ := cumP_cons l (adP a m)
  rw [e, List.tail_cons, List.filter_cons]
  by_cases c : adP a m = p
  · rw [if_pos c, c]; simp
  · rw [if_neg c, if_pos (by simpa using c)]
noncomputable def c_adh : Code := ((loopsOf (codeOf Try.f89))[0]?).getD .skip
def k_adh : Ex → List Nat := keeps [5, 6, 22, 23, 24] [(0, [6])] []
def s_adh (ms : List Pt) (x y : Int) : Nat × Pt × (List Pt) → St := fun (i, a, o) => ⟨(topV :: topV :: topV :: topV :: topV :: .pointer (some ⟨3, 0, none⟩) :: .slice (some ⟨8, 0, none⟩) o.length o.length :: topV :: topV :: topV :: topV :: topV :: topV :: topV :: topV :: topV :: topV :: topV :: topV :: topV :: topV :: topV :: .slice (some ⟨7, 0, none⟩) ms.length ms.length :: .int .i64 ms.length :: .int .i64 i :: topV :: topV :: topV :: topV :: topV :: topV :: topV :: topV :: topV :: topV :: topV :: topV :: topV :: topV :: topV :: topV :: topV :: []), [some ⟨.dead, .vals []⟩, some ⟨.dead, .vals []⟩, none, some ⟨.box, .vals [.int .i64 a.1, .int .i64 a.2]⟩, some ⟨.dead, .vals []⟩, some ⟨.dead, .vals []⟩, some ⟨.dead, .vals []⟩, some ⟨.row 44 2, .ints (flat ms)⟩, some ⟨.row 44 2, .ints (flat o)⟩]⟩
def re_adh : Nat × Pt × (List Pt) → Ex := fun _ => .exit 0
def rs_adh (ms : List Pt) (x y : Int) : Nat × Pt × (List Pt) → St := fun (i, a, o) => ⟨(topV :: topV :: topV :: topV :: topV :: topV :: .slice (some ⟨8, 0, none⟩) (addR (x, y) ms).length (addR (x, y) ms).length :: topV :: topV :: topV :: topV :: topV :: topV :: topV :: topV :: topV :: topV :: topV :: topV :: topV :: topV :: topV :: topV :: topV :: topV :: topV :: topV :: topV :: topV :: topV :: topV :: topV :: topV :: topV :: topV :: topV :: topV :: topV :: topV :: topV :: topV :: topV :: []), [some ⟨.dead, .vals []⟩, some ⟨.dead, .vals []⟩, none, some ⟨.dead, .vals []⟩, some ⟨.dead, .vals []⟩, some ⟨.dead, .vals []⟩, some ⟨.dead, .vals []⟩, some ⟨.dead, .vals []⟩, some ⟨.row 44 2, .ints (flat (addR (x, y) ms))⟩]⟩
set_option maxRecDepth 100000 in
theorem tr_adh (ms : List Pt) (x y : Int) (i : Nat) (a : Pt) (o : List Pt) : bodyL Try.prog EMf 30 12 noL 1 c_adh k_adh 24 (s_adh ms x y (i, a, o)) = brT (decide ((↑i : Int) < (↑ms.length : Int))) (.need ((0 : Int) ≤ (↑i : Int) ∧ (↑i : Int) < (↑ms.length : Int)) (.need ((0 : Nat) + (↑i : Int).toNat * (2 : Nat) + (2 : Nat) ≤ (flat ms).length) (.need ((0 : Int) ≤ (0 : Int) ∧ (0 : Int) < (↑o.length : Int)) (.need ((2 : Nat) ≤ (flat o).length) (brT (negB true (IntKind.i64.wrap (a.1 + (flat ms).getD (0 + (↑i : Int).toNat * 2) 0) == (flat o).getD 0 0 && (IntKind.i64.wrap (a.2 + (flat ms).getD (0 + (↑i : Int).toNat * 2 + 1) 0) == (flat o).getD 1 0 && true))) (.need ((o.length + (1 : Nat)) * (16 : Nat) ≤ (140737488355328 : Nat) ∧ o.length + (1 : Nat) ≤ (1000000 : Nat)) (.need ((0 : Nat) + o.length * (2 : Nat) ≤ (flat o).length) (.leaf .normal ⟨(topV :: topV :: topV :: topV :: topV :: .pointer (some ⟨3, 0, none⟩) :: .slice (some ⟨14, 0, none⟩) (o.length + 1) (o.length + 1) :: topV :: topV :: topV :: topV :: topV :: topV :: topV :: topV :: topV :: topV :: topV :: topV :: topV :: topV :: topV :: .slice (some ⟨7, 0, none⟩) (ms.length) (ms.length) :: .int .i64 ((↑ms.length : Int)) :: .int .i64 (IntKind.i64.wrap ((↑i : Int) + 1)) :: topV :: topV :: topV :: topV :: topV :: topV :: topV :: topV :: topV :: topV :: topV :: topV :: topV :: topV :: topV :: topV :: topV :: []), [some deadB, some deadB, none, some ⟨.box, .vals [.int .i64 (IntKind.i64.wrap (a.1 + (flat ms).getD (0 + (↑i : Int).toNat * 2) 0)), .int .i64 (IntKind.i64.wrap (a.2 + (flat ms).getD (0 + (↑i : Int).toNat * 2 + 1) 0))]⟩, some deadB, some deadB, some deadB, some ⟨.row 44 2, .ints (flat ms)⟩, some deadB, some ⟨.box, .vals [.int .i64 ((flat ms).getD (0 + (↑i : Int).toNat * 2) 0), .int .i64 ((flat ms).getD (0 + (↑i : Int).toNat * 2 + 1) 0)]⟩, some ⟨.box, .vals [.int .i64 (a.1), .int .i64 (a.2)]⟩, some ⟨.box, .vals [.int .i64 ((flat ms).getD (0 + (↑i : Int).toNat * 2) 0), .int .i64 ((flat ms).getD (0 + (↑i : Int).toNat * 2 + 1) 0)]⟩, some ⟨.box, .vals [.int .i64 (IntKind.i64.wrap (a.1 + (flat ms).getD (0 + (↑i : Int).toNat * 2) 0)), .int .i64 (IntKind.i64.wrap (a.2 + (flat ms).getD (0 + (↑i : Int).toNat * 2 + 1) 0))]⟩, some ⟨.row 44 2, .vals [.int .i64 (IntKind.i64.wrap (a.1 + (flat ms).getD (0 + (↑i : Int).toNat * 2) 0)), .int .i64 (IntKind.i64.wrap (a.2 + (flat ms).getD (0 + (↑i : Int).toNat * 2 + 1) 0))]⟩, some ⟨.row 44 2, .ints (List.take (o.length * 2) (List.drop 0 (flat o)) ++ [IntKind.i64.wrap (a.1 + (flat ms).getD (0 + (↑i : Int).toNat * 2) 0), IntKind.i64.wrap (a.2 + (flat ms).getD (0 + (↑i : Int).toNat * 2 + 1) 0)])⟩]⟩))) (.leaf .normal ⟨(topV :: topV :: topV :: topV :: topV :: .pointer (some ⟨3, 0, none⟩) :: .slice (some ⟨8, 0, none⟩) (o.length) (o.length) :: topV :: topV :: topV :: topV :: topV :: topV :: topV :: topV :: topV :: topV :: topV :: topV :: topV :: topV :: topV :: .slice (some ⟨7, 0, none⟩) (ms.length) (ms.length) :: .int .i64 ((↑ms.length : Int)) :: .int .i64 (IntKind.i64.wrap ((↑i : Int) + 1)) :: topV :: topV :: topV :: topV :: topV :: topV :: topV :: topV :: topV :: topV :: topV :: topV :: topV :: topV :: topV :: topV :: topV :: []), [some deadB, some deadB, none, some ⟨.box, .vals [.int .i64 (IntKind.i64.wrap (a.1 + (flat ms).getD (0 + (↑i : Int).toNat * 2) 0)), .int .i64 (IntKind.i64.wrap (a.2 + (flat ms).getD (0 + (↑i : Int).toNat * 2 + 1) 0))]⟩, some deadB, some deadB, some deadB, some ⟨.row 44 2, .ints (flat ms)⟩, some ⟨.row 44 2, .ints (flat o)⟩, some ⟨.box, .vals [.int .i64 ((flat ms).getD (0 + (↑i : Int).toNat * 2) 0), .int .i64 ((flat ms).getD (0 + (↑i : Int).toNat * 2 + 1) 0)]⟩, some ⟨.box, .vals [.int .i64 (a.1), .int .i64 (a.2)]⟩, some ⟨.box, .vals [.int .i64 ((flat ms).getD (0 + (↑i : Int).toNat * 2) 0), .int .i64 ((flat ms).getD (0 + (↑i : Int).toNat * 2 + 1) 0)]⟩, some ⟨.box, .vals [.int .i64 (IntKind.i64.wrap (a.1 + (flat ms).getD (0 + (↑i : Int).toNat * 2) 0)), .int .i64 (IntKind.i64.wrap (a.2 + (flat ms).getD (0 + (↑i : Int).toNat * 2 + 1) 0))]⟩]⟩)))))) (.leaf (.exit 0) ⟨(topV :: topV :: topV :: topV :: topV :: topV :: .slice (some ⟨8, 0, none⟩) (o.length) (o.length) :: topV :: topV :: topV :: topV :: topV :: topV :: topV :: topV :: topV :: topV :: topV :: topV :: topV :: topV :: topV :: topV :: topV :: topV :: topV :: topV :: topV :: topV :: topV :: topV :: topV :: topV :: topV :: topV :: topV :: topV :: topV :: topV :: topV :: topV :: topV :: []), [some deadB, some deadB, none, some ⟨.box, .vals [.int .i64 (a.1), .int .i64 (a.2)]⟩, some deadB, some deadB, some deadB, some ⟨.row 44 2, .ints (flat ms)⟩, some ⟨.row 44 2, .ints (flat o)⟩]⟩) := by kernel_rfl
set_option maxRecDepth 100000 in
theorem nl_adh : loopsOf c_adh = [] := by kernel_rfl
def inv_adh (ms : List Pt) (x y : Int) : Nat × Pt × (List Pt) → Prop := fun (i, a, o) => i ≤ ms.length ∧ o.length ≤ i + 1 ∧ 0 < o.length ∧ o.getD 0 (0, 0) = (x, y) ∧ (-(2000 + 4000 * (i : Int)) ≤ a.1 ∧ a.1 ≤ 2000 + 4000 * i ∧ -(2000 + 4000 * (i : Int)) ≤ a.2 ∧ a.2 ≤ 2000 + 4000 * i) ∧ o ++ cuF (x, y) a (ms.drop i) = addR (x, y) ms
def me_adh (ms : List Pt) (x y : Int) : Nat × Pt × (List Pt) → Nat := fun (i, a, o) => ms.length - i
/-- A round of this loop. -/
def Round_adh (ms : List Pt) (x y : Int) : Prop := ∀ xx : Nat × Pt × (List Pt), inv_adh ms x y xx → (bodyL Try.prog EMf 30 12 noL 1 c_adh k_adh 24 (s_adh ms x y xx)).ok (RoundEnd 8 (s_adh ms x y) (inv_adh ms x y) (me_adh ms x y) re_adh (rs_adh ms x y) xx) (fun _ _ => False)
def e_adh (s : St) (k : Ex → St → Tree) : Option Tree := match Nat.beq s.tmps.length 42, pickL s.tmps [5, 6, 22, 23, 24], s.mem with
  | true, [.pointer (some ⟨3, 0, none⟩), .slice (some ⟨4, 0, none⟩) z _, .slice (some ⟨7, 0, none⟩) n _, .int .i64 n1, .int .i64 i0], [_, _, none, some ⟨.box, .vals [.int .i64 x, .int .i64 y]⟩, some ⟨.row 44 2, .vals [.int .i64 x1, .int .i64 y1]⟩, _, _, some ⟨.row 44 2, .ints xs⟩] => some (needs [z = 1, n1 = n, i0 = 0, x1 = x, y1 = y, xs.length = n * 2, all4 (ptsA n xs) = true, n ≤ 1000, pt2 x y = true] (k (.exit 0) ⟨(topV :: topV :: topV :: topV :: topV :: topV :: .slice (some ⟨8, 0, none⟩) (addR (x, y) (ptsA n xs)).length (addR (x, y) (ptsA n xs)).length :: topV :: topV :: topV :: topV :: topV :: topV :: topV :: topV :: topV :: topV :: topV :: topV :: topV :: topV :: topV :: topV :: topV :: topV :: topV :: topV :: topV :: topV :: topV :: topV :: topV :: topV :: topV :: topV :: topV :: topV :: topV :: topV :: topV :: topV :: topV :: []), [some ⟨.dead, .vals []⟩, some ⟨.dead, .vals []⟩, none, some ⟨.dead, .vals []⟩, some ⟨.dead, .vals []⟩, some ⟨.dead, .vals []⟩, some ⟨.dead, .vals []⟩, some ⟨.dead, .vals []⟩, some ⟨.row 44 2, .ints (flat (addR (x, y) (ptsA n xs)))⟩]⟩))
  | _, _, _ => none
theorem ad_bd {a m : Pt} {i : Nat} (h5 : -(2000 + 4000 * (i : Int)) ≤ a.1 ∧ a.1 ≤ 2000 + 4000 * i ∧ -(2000 + 4000 * (i : Int)) ≤ a.2 ∧ a.2 ≤ 2000 + 4000 * i) (hm : -4000 ≤ m.1 ∧ m.1 ≤ 4000 ∧ -4000 ≤ m.2 ∧ m.2 ≤ 4000) : -(2000 + 4000 * ((i + 1 : Nat) : Int)) ≤ (adP a m).1 ∧ (adP a m).1 ≤ 2000 + 4000 * ((i + 1 : Nat) : Int) ∧ -(2000 + 4000 * ((i + 1 : Nat) : Int)) ≤ (adP a m).2 ∧ (adP a m).2 ≤ 2000 + 4000 * ((i + 1 : Nat) : Int) := by
  unfold adP
  simp only
  omega
set_option maxRecDepth 100000 in
theorem round_adh (ms : List Pt) (x y : Int) (hm : all4 ms = true) (h : ms.length ≤ 1000) : Round_adh ms x y := by
  rintro ⟨i, a, o⟩ ⟨h1, h2, h3, h4, h5, h6⟩
  rw [tr_adh]
  have f0 : (flat o).getD 0 0 = x := by have := flat_get0 o 0; rw [h4] at this; exact this
  have f1 : (flat o).getD 1 0 = y := by have := flat_get1 o 0; rw [h4] at this; exact this
  simp only [Int.toNat_natCast, Nat.zero_add, flat_get0, flat_get1, flat_length, List.drop_zero, flat_take, List.take_length, f0, f1]
  refine brT_ok.2 ⟨fun c => ?_, fun c => ?_⟩
  · have c := of_decide_eq_true c
    have hi : i < ms.length := by omega
    have b4 := pt4_iff.1 (all4_at hm hi)
    simp (disch := omega) only [wr]
    have ek : (i : Int) + 1 = ((i + 1 : Nat) : Int) := by omega
    rw [ek]
    rw [drop_cons2 hi, cuF_cons] at h6
    have h7 := ad_bd h5 b4
    have sn := flat_snoc o (a.1 + (ms.getD i (0, 0)).1) (a.2 + (ms.getD i (0, 0)).2)
    rw [sn]
    generalize ms.getD i (0, 0) = m at *
    have eb : (a.1 + m.1 == x && (a.2 + m.2 == y && true)) = decide (adP a m = (x, y)) := by
      rw [Bool.eq_iff_iff]
      simp [adP, Prod.mk.injEq]
    rw [eb]
    refine ⟨by omega, by omega, by omega, by omega, brT_ok.2 ⟨fun q => ?_, fun q => ?_⟩⟩
    · have c : ¬ adP a m = (x, y) := by
        intro c
        rw [decide_eq_true c] at q
        exact absurd q (by decide)
      rw [if_neg c] at h6
      refine ⟨by omega, by omega, (i + 1, adP a m, o ++ [adP a m]), [some 14], ⟨by omega, by simp; omega, by simp, ?_, h7, by simpa using h6⟩, ?_, rfl, rfl, ?_⟩
      · rw [getD_append, if_pos h3, h4]
      · show ms.length - (i + 1) < ms.length - i; omega
      · repeat' (first | exact True.intro | exact rfl | exact wv_top _ _ | exact fun _ => rfl | (simp; done) | refine And.intro ?_ ?_)
    · have c : adP a m = (x, y) := by
        rcases Decidable.em (adP a m = (x, y)) with c | c
        · exact c
        · rw [decide_eq_false c] at q
          exact absurd q (by decide)
      rw [if_pos c] at h6
      refine ⟨(i + 1, adP a m, o), [some 8], ⟨by omega, by omega, h3, h4, h7, h6⟩, ?_, rfl, rfl, ?_⟩
      · show ms.length - (i + 1) < ms.length - i; omega
      · repeat' (first | exact True.intro | exact rfl | exact wv_top _ _ | exact fun _ => rfl | (simp; done) | refine And.intro ?_ ?_)
  · have c := of_decide_eq_false c
    have e : o = addR (x, y) ms := by
      rw [← h6, List.drop_of_length_le (by omega)]
      show o = o ++ []
      simp
    refine ⟨rfl, [some 8], ?_⟩
    simp only [rs_adh, ← e]
    repeat' (first | exact True.intro | exact rfl | exact wv_top _ _ | exact fun _ => rfl | (simp; done) | refine And.intro ?_ ?_)
set_option maxRecDepth 100000 in
theorem lg_adh : LoopE Try.prog e_adh c_adh := by
  intro s k t F H hlt ht
  unfold e_adh at hlt
  split at hlt
  rotate_left
  · cases hlt
  rename_i hlen hpick hmem
  obtain ⟨tmps, mem⟩ := s
  simp only at hlen hpick hmem
  subst hmem
  obtain rfl := Option.some.inj hlt
  obtain ⟨⟨rfl, rfl, rfl, rfl, rfl, h1, h2, h3, h4, _⟩, ht2⟩ := needs_ok ht
  clear ht hlt
  obtain ⟨ms, rfl, rfl⟩ := even_flat h1
  rw [ptsA_flat] at ht2 h2
  refine ⟨_, _, ht2, loop_run2 mixed EMf_ok (s_adh ms _ _) (inv_adh ms _ _) (me_adh ms _ _) re_adh (rs_adh ms _ _) k_adh (fun _ => rfl) (noLoops nl_adh) (round_adh ms _ _ h2 h3) (x := (0, (_, _), [(_, _)])) ⟨Nat.zero_le _, Nat.le_refl _, Nat.zero_lt_one, rfl, by have := pt2_iff.1 h4; simp only; omega, rfl⟩ (π := [some 4]) rfl ?_⟩
  refine ⟨rfl, rfl, ?_, wvs_spread' [5, 6, 22, 23, 24] hlen rfl ?_⟩
  · repeat' (first | exact True.intro | exact rfl | exact wv_top _ _ | exact fun _ => rfl | assumption | exact Eq.symm (by assumption) | exact vI0 rfl | refine And.intro ?_ ?_)
  · rw [hpick]
    repeat' (first | exact True.intro | exact rfl | exact wv_top _ _ | exact fun _ => rfl | assumption | exact Eq.symm (by assumption) | exact vI0 rfl | refine And.intro ?_ ?_)
theorem Lr_adh {fn : Func} (hf : Try.prog.funcs[89]? = some fn) : LoopsGood Try.prog (lt1 e_adh) 0 (codeOf fn) := by
  obtain rfl := fn_is Try.func89 hf
  exact lt1_good lg_adh
def LAh : FuncId → LT := fun f => match f with
  | 89 => lt1 e_adh
  | _ => noL
def EAh : Env := mkE B0 RMg LAh
theorem EAh_ok : EnvOk Try.prog EAh := mkEOk B0_ok RMg_ok (by
  intro f fn hf
  unfold LAh
  split
  all_goals first | with_reducible exact Lr_adh hf | exact noL_good)
set_option maxRecDepth 100000 in
theorem tr_iAh (us vs : List Pt) : bodyX Try.prog EAh 30 12 89 [.row us.length (.ints (flat us)), .row vs.length (.ints (flat vs))] = .need ((0 : Int) ≤ (0 : Int) ∧ (0 : Int) < (↑us.length : Int)) (.need ((2 : Nat) ≤ (flat us).length) (.need ((0 : Int) ≤ (0 : Int) ∧ (0 : Int) < (↑vs.length : Int)) (.need ((2 : Nat) ≤ (flat vs).length) (.need (us.length * (2 : Nat) ≤ (List.drop (0 : Nat) (flat us)).length) (.need (allV (ptsA us.length (List.drop (0 : Nat) (flat us))) = true) (.need (us.length ≤ (1000 : Nat)) (.need (vs.length * (2 : Nat) ≤ (List.drop (0 : Nat) (flat vs)).length) (.need (allV (ptsA vs.length (List.drop (0 : Nat) (flat vs))) = true) (.need (vs.length ≤ (1000 : Nat)) (.need ((sdC (ptsA us.length (List.drop (0 : Nat) (flat us)))).length * (2 : Nat) ≤ (List.drop (0 : Nat) (flat (sdC (ptsA us.length (List.drop (0 : Nat) (flat us)))))).length) (.need ((sdC (ptsA vs.length (List.drop (0 : Nat) (flat vs)))).length * (2 : Nat) ≤ (List.drop (0 : Nat) (flat (sdC (ptsA vs.length (List.drop (0 : Nat) (flat vs)))))).length) (.need (allW (ptsA (sdC (ptsA us.length (List.drop (0 : Nat) (flat us)))).length (List.drop (0 : Nat) (flat (sdC (ptsA us.length (List.drop (0 : Nat) (flat us))))))) = true) (.need (allW (ptsA (sdC (ptsA vs.length (List.drop (0 : Nat) (flat vs)))).length (List.drop (0 : Nat) (flat (sdC (ptsA vs.length (List.drop (0 : Nat) (flat vs))))))) = true) (.need ((sdC (ptsA us.length (List.drop (0 : Nat) (flat us)))).length + (sdC (ptsA vs.length (List.drop (0 : Nat) (flat vs)))).length ≤ (1000 : Nat)) (.need ((0 : Nat) < (sdC (ptsA us.length (List.drop (0 : Nat) (flat us)))).length + (sdC (ptsA vs.length (List.drop (0 : Nat) (flat vs)))).length) (.need ((1 : Nat) = (1 : Nat)) (.need ((↑(mrg (ptsA (sdC (ptsA us.length (List.drop (0 : Nat) (flat us)))).length (List.drop (0 : Nat) (flat (sdC (ptsA us.length (List.drop (0 : Nat) (flat us))))))) (ptsA (sdC (ptsA vs.length (List.drop (0 : Nat) (flat vs)))).length (List.drop (0 : Nat) (flat (sdC (ptsA vs.length (List.drop (0 : Nat) (flat vs)))))))).length : Int) = (↑(mrg (ptsA (sdC (ptsA us.length (List.drop (0 : Nat) (flat us)))).length (List.drop (0 : Nat) (flat (sdC (ptsA us.length (List.drop (0 : Nat) (flat us))))))) (ptsA (sdC (ptsA vs.length (List.drop (0 : Nat) (flat vs)))).length (List.drop (0 : Nat) (flat (sdC (ptsA vs.length (List.drop (0 : Nat) (flat vs)))))))).length : Int)) (.need ((0 : Int) = (0 : Int)) (.need (IntKind.i64.wrap ((flat us).getD (0 : Nat) (0 : Int) + (flat vs).getD (0 : Nat) (0 : Int)) = IntKind.i64.wrap ((flat us).getD (0 : Nat) (0 : Int) + (flat vs).getD (0 : Nat) (0 : Int))) (.need (IntKind.i64.wrap ((flat us).getD (1 : Nat) (0 : Int) + (flat vs).getD (1 : Nat) (0 : Int)) = IntKind.i64.wrap ((flat us).getD (1 : Nat) (0 : Int) + (flat vs).getD (1 : Nat) (0 : Int))) (.need ((flat (mrg (ptsA (sdC (ptsA us.length (List.drop (0 : Nat) (flat us)))).length (List.drop (0 : Nat) (flat (sdC (ptsA us.length (List.drop (0 : Nat) (flat us))))))) (ptsA (sdC (ptsA vs.length (List.drop (0 : Nat) (flat vs)))).length (List.drop (0 : Nat) (flat (sdC (ptsA vs.length (List.drop (0 : Nat) (flat vs))))))))).length = (mrg (ptsA (sdC (ptsA us.length (List.drop (0 : Nat) (flat us)))).length (List.drop (0 : Nat) (flat (sdC (ptsA us.length (List.drop (0 : Nat) (flat us))))))) (ptsA (sdC (ptsA vs.length (List.drop (0 : Nat) (flat vs)))).length (List.drop (0 : Nat) (flat (sdC (ptsA vs.length (List.drop (0 : Nat) (flat vs)))))))).length * (2 : Nat)) (.need (all4 (ptsA (mrg (ptsA (sdC (ptsA us.length (List.drop (0 : Nat) (flat us)))).length (List.drop (0 : Nat) (flat (sdC (ptsA us.length (List.drop (0 : Nat) (flat us))))))) (ptsA (sdC (ptsA vs.length (List.drop (0 : Nat) (flat vs)))).length (List.drop (0 : Nat) (flat (sdC (ptsA vs.length (List.drop (0 : Nat) (flat vs)))))))).length (flat (mrg (ptsA (sdC (ptsA us.length (List.drop (0 : Nat) (flat us)))).length (List.drop (0 : Nat) (flat (sdC (ptsA us.length (List.drop (0 : Nat) (flat us))))))) (ptsA (sdC (ptsA vs.length (List.drop (0 : Nat) (flat vs)))).length (List.drop (0 : Nat) (flat (sdC (ptsA vs.length (List.drop (0 : Nat) (flat vs)))))))))) = true) (.need ((mrg (ptsA (sdC (ptsA us.length (List.drop (0 : Nat) (flat us)))).length (List.drop (0 : Nat) (flat (sdC (ptsA us.length (List.drop (0 : Nat) (flat us))))))) (ptsA (sdC (ptsA vs.length (List.drop (0 : Nat) (flat vs)))).length (List.drop (0 : Nat) (flat (sdC (ptsA vs.length (List.drop (0 : Nat) (flat vs)))))))).length ≤ (1000 : Nat)) (.need (pt2 (IntKind.i64.wrap ((flat us).getD (0 : Nat) (0 : Int) + (flat vs).getD (0 : Nat) (0 : Int))) (IntKind.i64.wrap ((flat us).getD (1 : Nat) (0 : Int) + (flat vs).getD (1 : Nat) (0 : Int))) = true) (.fin (.slice (some ⟨8, 0, none⟩) ((addR (IntKind.i64.wrap ((flat us).getD (0 + Int.toNat 0 * (2 : Nat)) 0 + (flat vs).getD (0 + Int.toNat 0 * (2 : Nat)) 0), IntKind.i64.wrap ((flat us).getD (0 + Int.toNat 0 * (2 : Nat) + 1) 0 + (flat vs).getD (0 + Int.toNat 0 * (2 : Nat) + 1) 0)) (ptsA (mrg (ptsA (sdC (ptsA us.length (List.drop 0 (flat us)))).length (List.drop 0 (flat (sdC (ptsA us.length (List.drop 0 (flat us))))))) (ptsA (sdC (ptsA vs.length (List.drop 0 (flat vs)))).length (List.drop 0 (flat (sdC (ptsA vs.length (List.drop 0 (flat vs)))))))).length (flat (mrg (ptsA (sdC (ptsA us.length (List.drop 0 (flat us)))).length (List.drop 0 (flat (sdC (ptsA us.length (List.drop 0 (flat us))))))) (ptsA (sdC (ptsA vs.length (List.drop 0 (flat vs)))).length (List.drop 0 (flat (sdC (ptsA vs.length (List.drop 0 (flat vs))))))))))).length) ((addR (IntKind.i64.wrap ((flat us).getD (0 + Int.toNat 0 * (2 : Nat)) 0 + (flat vs).getD (0 + Int.toNat 0 * (2 : Nat)) 0), IntKind.i64.wrap ((flat us).getD (0 + Int.toNat 0 * (2 : Nat) + 1) 0 + (flat vs).getD (0 + Int.toNat 0 * (2 : Nat) + 1) 0)) (ptsA (mrg (ptsA (sdC (ptsA us.length (List.drop 0 (flat us)))).length (List.drop 0 (flat (sdC (ptsA us.length (List.drop 0 (flat us))))))) (ptsA (sdC (ptsA vs.length (List.drop 0 (flat vs)))).length (List.drop 0 (flat (sdC (ptsA vs.length (List.drop 0 (flat vs)))))))).length (flat (mrg (ptsA (sdC (ptsA us.length (List.drop 0 (flat us)))).length (List.drop 0 (flat (sdC (ptsA us.length (List.drop 0 (flat us))))))) (ptsA (sdC (ptsA vs.length (List.drop 0 (flat vs)))).length (List.drop 0 (flat (sdC (ptsA vs.length (List.drop 0 (flat vs))))))))))).length)) [some deadB, some deadB, none, some deadB, some deadB, some deadB, some deadB, some deadB, some ⟨.row 44 2, .ints (flat (addR (IntKind.i64.wrap ((flat us).getD (0 + Int.toNat 0 * (2 : Nat)) 0 + (flat vs).getD (0 + Int.toNat 0 * (2 : Nat)) 0), IntKind.i64.wrap ((flat us).getD (0 + Int.toNat 0 * (2 : Nat) + 1) 0 + (flat vs).getD (0 + Int.toNat 0 * (2 : Nat) + 1) 0)) (ptsA (mrg (ptsA (sdC (ptsA us.length (List.drop 0 (flat us)))).length (List.drop 0 (flat (sdC (ptsA us.length (List.drop 0 (flat us))))))) (ptsA (sdC (ptsA vs.length (List.drop 0 (flat vs)))).length (List.drop 0 (flat (sdC (ptsA vs.length (List.drop 0 (flat vs)))))))).length (flat (mrg (ptsA (sdC (ptsA us.length (List.drop 0 (flat us)))).length (List.drop 0 (flat (sdC (ptsA us.length (List.drop 0 (flat us))))))) (ptsA (sdC (ptsA vs.length (List.drop 0 (flat vs)))).length (List.drop 0 (flat (sdC (ptsA vs.length (List.drop 0 (flat vs))))))))))))⟩]))))))))))))))))))))))))) := by kernel_rfl
theorem addL_is (us vs : List Pt) : addL us vs = addR (adP (us.getD 0 (0, 0)) (vs.getD 0 (0, 0))) (mrg (sdC us) (sdC vs)) := rfl
theorem fl00 (l : List Pt) : (flat l).getD 0 0 = (l.getD 0 (0, 0)).1 := flat_get0 l 0
theorem fl01 (l : List Pt) : (flat l).getD 1 0 = (l.getD 0 (0, 0)).2 := flat_get1 l 0
theorem resR_iAh {us vs : List Pt} (hu : allV us = true) (hv : allV vs = true) (h : us.length ≤ 100) (h' : vs.length ≤ 100) (u0 : 0 < us.length) (v0 : 0 < vs.length) : ResR Try.prog 89 [.row us.length (.ints (flat us)), .row vs.length (.ints (flat vs))] (rowP (addL us vs)) (blkP (addL us vs)) := by
  refine bodyX_resR mixed EAh_ok (m := 30) (n := 12) rfl ?_
  rw [tr_iAh]
  have a1 := allV_gt hu u0
  have a2 := allV_gt hv v0
  have w1 := allW_sd hu
  have w2 := allW_sd hv
  have l1 := sdC_len us
  have l2 := sdC_len vs
  have l3 := mrg_len _ (sdC us) (sdC vs) (Nat.le_refl _)
  have w3 := mrg_all4 _ (sdC us) (sdC vs) (Nat.le_refl _) w1 w2
  have fu := flat_length us
  have fv := flat_length vs
  simp only [ptsA_flat, List.drop_zero, Int.toNat_zero, Nat.zero_mul, Nat.zero_add, Nat.add_zero, fl00, fl01, flat_length]
  simp (disch := omega) only [wr]
  have p2 : pt2 ((us.getD 0 (0, 0)).1 + (vs.getD 0 (0, 0)).1) ((us.getD 0 (0, 0)).2 + (vs.getD 0 (0, 0)).2) = true := pt2_iff.2 (by omega)
  rw [addL_is]
  have e : ((us.getD 0 (0, 0)).1 + (vs.getD 0 (0, 0)).1, (us.getD 0 (0, 0)).2 + (vs.getD 0 (0, 0)).2) = adP (us.getD 0 (0, 0)) (vs.getD 0 (0, 0)) := rfl
  rw [e]
  generalize addR (adP (us.getD 0 (0, 0)) (vs.getD 0 (0, 0))) (mrg (sdC us) (sdC vs)) = A at *
  repeat' (first | exact True.intro | assumption | omega | exact rfl | exact ⟨some 8, ⟨rfl, rfl, rfl⟩, rfl, rfl, rfl⟩ | refine And.intro ?_ ?_)
end Go.Proofs.Ytolodncpegajkab
namespace Go.Proofs.Ytolodncpegajkab
set_option linter.all false
open Go.RowKit
/-- A point beside each of a list. -/
def ro1 (p : Pt) (vs : List Pt) : List Pt := vs.map (adP p)
/-- All sums. -/
def smL (us vs : List Pt) : List Pt := us.flatMap fun p => ro1 p vs
theorem ro1_step {vs : List Pt} {k : Nat} (p : Pt) (o : List Pt) (h : k < vs.length) : o ++ ro1 p (vs.drop k) = (o ++ [adP p (vs.getD k (0, 0))]) ++ ro1 p (vs.drop (k + 1)) := by
  unfold ro1
  rw [drop_cons h (0, 0)]
  simp
theorem ro1_end {vs : List Pt} {k : Nat} (p : Pt) (h : vs.length ≤ k) : ro1 p (vs.drop k) = [] := by
  unfold ro1
  rw [List.drop_of_length_le h]
  rfl
theorem smL_step {us : List Pt} {i : Nat} (vs o : List Pt) (h : i < us.length) : o ++ smL (us.drop i) vs = (o ++ ro1 (us.getD i (0, 0)) vs) ++ smL (us.drop (i + 1)) vs := by
  unfold smL
  rw [drop_cons h (0, 0)]
  simp
theorem smL_end {us : List Pt} {i : Nat} (vs : List Pt) (h : us.length ≤ i) : smL (us.drop i) vs = [] := by
  unfold smL
  rw [List.drop_of_length_le h]
  rfl
theorem ro1_len (p : Pt) (vs : List Pt) : (ro1 p vs).length = vs.length := by unfold ro1; simp
theorem smL_len : ∀ (us vs : List Pt), (smL us vs).length = us.length * vs.length
  | [], vs => by simp [smL]
  | p :: us, vs => by
    show (ro1 p vs ++ smL us vs).length = _
    rw [List.length_append, ro1_len, smL_len us vs, List.length_cons, Nat.add_mul]
    omega
theorem mem_smL {us vs : List Pt} {z : Pt} : z ∈ smL us vs ↔ smS (fun q => q ∈ us) (fun q => q ∈ vs) z := by
  unfold smL ro1 smS
  rw [List.mem_flatMap]
  constructor
  · rintro ⟨p, hp, hz⟩
    obtain ⟨q, hq, rfl⟩ := List.mem_map.1 hz
    exact ⟨p, q, hp, hq, rfl⟩
  · rintro ⟨p, q, hp, hq, rfl⟩
    exact ⟨p, hp, List.mem_map.2 ⟨q, hq, rfl⟩⟩
noncomputable def c_smi : Code := ((loopsOf (codeOf Try.f86))[1]?).getD .skip
def k_smi : Ex → List Nat := keeps [0, 1, 5, 6, 7] [(2, [0, 1, 5, 6])] []
def s_smi (us vs : List Pt) (i : Nat) : Nat × (List Pt) → St := fun (k, o) => ⟨(.slice (some ⟨0, 0, none⟩) us.length us.length :: .slice (some ⟨1, 0, none⟩) vs.length vs.length :: topV :: topV :: topV :: .slice (some ⟨4, 0, none⟩) o.length o.length :: .int .i64 i :: .int .i64 k :: topV :: topV :: topV :: topV :: topV :: topV :: topV :: topV :: topV :: topV :: topV :: topV :: topV :: topV :: topV :: topV :: topV :: topV :: topV :: topV :: topV :: topV :: topV :: topV :: topV :: topV :: topV :: topV :: topV :: topV :: topV :: topV :: topV :: topV :: topV :: topV :: topV :: topV :: topV :: topV :: []), [some ⟨.view, .ints (flat us)⟩, some ⟨.view, .ints (flat vs)⟩, some ⟨.dead, .vals []⟩, some ⟨.dead, .vals []⟩, some ⟨.row 44 2, .ints (flat o)⟩]⟩
def re_smi : Nat × (List Pt) → Ex := fun _ => .exit 2
def rs_smi (us vs : List Pt) (i : Nat) : Nat × (List Pt) → St := fun (k, o) => ⟨(.slice (some ⟨0, 0, none⟩) us.length us.length :: .slice (some ⟨1, 0, none⟩) vs.length vs.length :: topV :: topV :: topV :: .slice (some ⟨4, 0, none⟩) (o ++ ro1 (us.getD i (0, 0)) (vs.drop k)).length (o ++ ro1 (us.getD i (0, 0)) (vs.drop k)).length :: .int .i64 i :: topV :: topV :: topV :: topV :: topV :: topV :: topV :: topV :: topV :: topV :: topV :: topV :: topV :: topV :: topV :: topV :: topV :: topV :: topV :: topV :: topV :: topV :: topV :: topV :: topV :: topV :: topV :: topV :: topV :: topV :: topV :: topV :: topV :: topV :: topV :: topV :: topV :: topV :: topV :: topV :: topV :: []), [some ⟨.view, .ints (flat us)⟩, some ⟨.view, .ints (flat vs)⟩, some ⟨.dead, .vals []⟩, some ⟨.dead, .vals []⟩, some ⟨.row 44 2, .ints (flat (o ++ ro1 (us.getD i (0, 0)) (vs.drop k)))⟩]⟩
set_option maxRecDepth 100000 in
theorem tr_smi (us vs : List Pt) (i : Nat) (k : Nat) (o : List Pt) : bodyL Try.prog EGa 30 12 noL 2 c_smi k_smi 16 (s_smi us vs i (k, o)) = brT (decide ((↑k : Int) < (↑vs.length : Int))) (.need ((0 : Int) ≤ (↑i : Int) ∧ (↑i : Int) < (↑us.length : Int)) (.need ((0 : Nat) + (↑i : Int).toNat * (2 : Nat) + (0 : Nat) < (flat us).length) (.need ((0 : Int) ≤ (↑k : Int) ∧ (↑k : Int) < (↑vs.length : Int)) (.need ((0 : Nat) + (↑k : Int).toNat * (2 : Nat) + (0 : Nat) < (flat vs).length) (.need ((0 : Int) ≤ (↑i : Int) ∧ (↑i : Int) < (↑us.length : Int)) (.need ((0 : Nat) + (↑i : Int).toNat * (2 : Nat) + (1 : Nat) < (flat us).length) (.need ((0 : Int) ≤ (↑k : Int) ∧ (↑k : Int) < (↑vs.length : Int)) (.need ((0 : Nat) + (↑k : Int).toNat * (2 : Nat) + (1 : Nat) < (flat vs).length) (.need ((o.length + (1 : Nat)) * (16 : Nat) ≤ (140737488355328 : Nat) ∧ o.length + (1 : Nat) ≤ (1000000 : Nat)) (.need ((0 : Nat) + o.length * (2 : Nat) ≤ (flat o).length) (.leaf .normal ⟨(.slice (some ⟨0, 0, none⟩) (us.length) (us.length) :: .slice (some ⟨1, 0, none⟩) (vs.length) (vs.length) :: topV :: topV :: topV :: .slice (some ⟨6, 0, none⟩) (o.length + 1) (o.length + 1) :: .int .i64 ((↑i : Int)) :: .int .i64 (IntKind.i64.wrap ((↑k : Int) + 1)) :: topV :: topV :: topV :: topV :: topV :: topV :: topV :: topV :: topV :: topV :: topV :: topV :: topV :: topV :: topV :: topV :: topV :: topV :: topV :: topV :: topV :: topV :: topV :: topV :: topV :: topV :: topV :: topV :: topV :: topV :: topV :: topV :: topV :: topV :: topV :: topV :: topV :: topV :: topV :: topV :: []), [some ⟨.view, .ints (flat us)⟩, some ⟨.view, .ints (flat vs)⟩, some deadB, some deadB, some deadB, some ⟨.row 44 2, .vals [.int .i64 (IntKind.i64.wrap ((flat us).getD (0 + (↑i : Int).toNat * 2 + 0) 0 + (flat vs).getD (0 + (↑k : Int).toNat * 2 + 0) 0)), .int .i64 (IntKind.i64.wrap ((flat us).getD (0 + (↑i : Int).toNat * 2 + 1) 0 + (flat vs).getD (0 + (↑k : Int).toNat * 2 + 1) 0))]⟩, some ⟨.row 44 2, .ints (List.take (o.length * 2) (List.drop 0 (flat o)) ++ [IntKind.i64.wrap ((flat us).getD (0 + (↑i : Int).toNat * 2 + 0) 0 + (flat vs).getD (0 + (↑k : Int).toNat * 2 + 0) 0), IntKind.i64.wrap ((flat us).getD (0 + (↑i : Int).toNat * 2 + 1) 0 + (flat vs).getD (0 + (↑k : Int).toNat * 2 + 1) 0)])⟩]⟩))))))))))) (.leaf (.exit 2) ⟨(.slice (some ⟨0, 0, none⟩) (us.length) (us.length) :: .slice (some ⟨1, 0, none⟩) (vs.length) (vs.length) :: topV :: topV :: topV :: .slice (some ⟨4, 0, none⟩) (o.length) (o.length) :: .int .i64 ((↑i : Int)) :: topV :: topV :: topV :: topV :: topV :: topV :: topV :: topV :: topV :: topV :: topV :: topV :: topV :: topV :: topV :: topV :: topV :: topV :: topV :: topV :: topV :: topV :: topV :: topV :: topV :: topV :: topV :: topV :: topV :: topV :: topV :: topV :: topV :: topV :: topV :: topV :: topV :: topV :: topV :: topV :: topV :: []), [some ⟨.view, .ints (flat us)⟩, some ⟨.view, .ints (flat vs)⟩, some deadB, some deadB, some ⟨.row 44 2, .ints (flat o)⟩]⟩) := by kernel_rfl
set_option maxRecDepth 100000 in
theorem nl_smi : loopsOf c_smi = [] := by kernel_rfl
def inv_smi (us vs : List Pt) (i : Nat) : Nat × (List Pt) → Prop := fun (k, o) => k ≤ vs.length ∧ o.length + (vs.length - k) ≤ 100000
def me_smi (us vs : List Pt) (i : Nat) : Nat × (List Pt) → Nat := fun (k, o) => vs.length - k
/-- A round of this loop. -/
def Round_smi (us vs : List Pt) (i : Nat) : Prop := ∀ xx : Nat × (List Pt), inv_smi us vs i xx → (bodyL Try.prog EGa 30 12 noL 2 c_smi k_smi 16 (s_smi us vs i xx)).ok (RoundEnd 4 (s_smi us vs i) (inv_smi us vs i) (me_smi us vs i) re_smi (rs_smi us vs i) xx) (fun _ _ => False)
def e_smi (s : St) (k : Ex → St → Tree) : Option Tree := match Nat.beq s.tmps.length 48, pickL s.tmps [0, 1, 5, 6, 7], s.mem with
  | true, [.slice (some ⟨0, 0, none⟩) n _, .slice (some ⟨1, 0, none⟩) m _, .slice (some ⟨3, 0, none⟩) z _, .int .i64 ii, .int .i64 k0], [some ⟨.view, .ints xs⟩, some ⟨.view, .ints ys⟩, some ⟨.dead, .vals []⟩, some ⟨.row 44 2, .ints zs⟩] => some (needs [k0 = 0, 0 ≤ ii, xs.length = n * 2, ys.length = m * 2, allV (ptsA n xs) = true, allV (ptsA m ys) = true, z + m ≤ 100000, ii < n, zs.length = z * 2, n ≤ 100000, m ≤ 100000] (k (.exit 2) ⟨(.slice (some ⟨0, 0, none⟩) n n :: .slice (some ⟨1, 0, none⟩) m m :: topV :: topV :: topV :: .slice (some ⟨4, 0, none⟩) (ptsA z zs ++ ro1 ((ptsA n xs).getD ii.toNat (0, 0)) (ptsA m ys)).length (ptsA z zs ++ ro1 ((ptsA n xs).getD ii.toNat (0, 0)) (ptsA m ys)).length :: .int .i64 ii :: topV :: topV :: topV :: topV :: topV :: topV :: topV :: topV :: topV :: topV :: topV :: topV :: topV :: topV :: topV :: topV :: topV :: topV :: topV :: topV :: topV :: topV :: topV :: topV :: topV :: topV :: topV :: topV :: topV :: topV :: topV :: topV :: topV :: topV :: topV :: topV :: topV :: topV :: topV :: topV :: topV :: []), [some ⟨.view, .ints xs⟩, some ⟨.view, .ints ys⟩, some ⟨.dead, .vals []⟩, some ⟨.dead, .vals []⟩, some ⟨.row 44 2, .ints (flat (ptsA z zs ++ ro1 ((ptsA n xs).getD ii.toNat (0, 0)) (ptsA m ys)))⟩]⟩))
  | _, _, _ => none
set_option maxRecDepth 100000 in
theorem round_smi (us vs : List Pt) (i : Nat) (ha : allV us = true) (hb : allV vs = true) (hi : i < us.length) (hn : us.length ≤ 100000) (hm : vs.length ≤ 100000) : Round_smi us vs i := by
  rintro ⟨k, o⟩ ⟨h1, h2⟩
  rw [tr_smi]
  simp only [Int.toNat_natCast, Nat.zero_add, Nat.add_zero, flat_get0, flat_get1, flat_length, List.drop_zero, flat_take, List.take_length]
  refine brT_ok.2 ⟨fun c => ?_, fun c => ?_⟩
  · have c := of_decide_eq_true c
    have hk : k < vs.length := by omega
    have a1 := allV_gt ha hi
    have a2 := allV_gt hb hk
    simp (disch := omega) only [wr]
    have ek : (k : Int) + 1 = ((k + 1 : Nat) : Int) := by omega
    rw [ek]
    have sn := flat_snoc o ((us.getD i (0, 0)).1 + (vs.getD k (0, 0)).1) ((us.getD i (0, 0)).2 + (vs.getD k (0, 0)).2)
    rw [sn]
    refine ⟨by omega, by omega, by omega, by omega, by omega, by omega, by omega, by omega, by omega, by omega, (k + 1, o ++ [adP (us.getD i (0, 0)) (vs.getD k (0, 0))]), [some 6], ⟨by omega, by simp; omega⟩, ?_, rfl, ?_, ?_⟩
    · show vs.length - (k + 1) < vs.length - k; omega
    · simp only [rs_smi, ro1_step (us.getD i (0, 0)) o hk]
    · repeat' (first | exact True.intro | exact rfl | exact wv_top _ _ | exact fun _ => rfl | (simp; done) | refine And.intro ?_ ?_)
  · have c := of_decide_eq_false c
    refine ⟨rfl, [some 4], ?_⟩
    simp only [rs_smi, ro1_end (us.getD i (0, 0)) (show vs.length ≤ k by omega), List.append_nil]
    repeat' (first | exact True.intro | exact rfl | exact wv_top _ _ | exact fun _ => rfl | (simp; done) | refine And.intro ?_ ?_)
set_option maxRecDepth 100000 in
theorem lg_smi : LoopE Try.prog e_smi c_smi := by
  intro s k t F H hlt ht
  unfold e_smi at hlt
  split at hlt
  rotate_left
  · cases hlt
  rename_i hlen hpick hmem
  obtain ⟨tmps, mem⟩ := s
  simp only at hlen hpick hmem
  subst hmem
  obtain rfl := Option.some.inj hlt
  obtain ⟨⟨rfl, h6, h1, h2, h3, h4, h5, h7, g1, h8, h9, _⟩, ht2⟩ := needs_ok ht
  clear ht hlt
  obtain ⟨us, rfl, rfl⟩ := even_flat h1
  obtain ⟨vs, rfl, rfl⟩ := even_flat h2
  obtain ⟨o, rfl, rfl⟩ := even_flat g1
  obtain ⟨i, rfl⟩ := Int.eq_ofNat_of_zero_le h6
  rw [ptsA_flat] at h3 h4
  simp only [ptsA_flat, Int.toNat_natCast] at ht2
  refine ⟨_, _, ht2, loop_run2 mixed EGa_ok (s_smi us vs i) (inv_smi us vs i) (me_smi us vs i) re_smi (rs_smi us vs i) k_smi (fun _ => rfl) (noLoops nl_smi) (round_smi us vs i h3 h4 (by omega) h8 h9) (x := (0, o)) ⟨Nat.zero_le _, by omega⟩ (π := [some 3]) rfl ?_⟩
  refine ⟨rfl, rfl, ?_, wvs_spread' [0, 1, 5, 6, 7] hlen rfl ?_⟩
  · repeat' (first | exact True.intro | exact rfl | exact wv_top _ _ | exact fun _ => rfl | assumption | exact Eq.symm (by assumption) | exact vI0 rfl | refine And.intro ?_ ?_)
  · rw [hpick]
    repeat' (first | exact True.intro | exact rfl | exact wv_top _ _ | exact fun _ => rfl | assumption | exact Eq.symm (by assumption) | exact vI0 rfl | refine And.intro ?_ ?_)
def ltSm : LT := fun j s k => match j with
  | 1 => e_smi s k
  | _ => none
noncomputable def c_smo : Code := ((loopsOf (codeOf Try.f86))[0]?).getD .skip
def k_smo : Ex → List Nat := keeps [0, 1, 5, 6] [(0, [5])] []
def s_smo (us vs : List Pt) : Nat × (List Pt) → St := fun (i, o) => ⟨(.slice (some ⟨0, 0, none⟩) us.length us.length :: .slice (some ⟨1, 0, none⟩) vs.length vs.length :: topV :: topV :: topV :: .slice (some ⟨3, 0, none⟩) o.length o.length :: .int .i64 i :: topV :: topV :: topV :: topV :: topV :: topV :: topV :: topV :: topV :: topV :: topV :: topV :: topV :: topV :: topV :: topV :: topV :: topV :: topV :: topV :: topV :: topV :: topV :: topV :: topV :: topV :: topV :: topV :: topV :: topV :: topV :: topV :: topV :: topV :: topV :: topV :: topV :: topV :: topV :: topV :: topV :: []), [some ⟨.view, .ints (flat us)⟩, some ⟨.view, .ints (flat vs)⟩, some ⟨.dead, .vals []⟩, some ⟨.row 44 2, .ints (flat o)⟩]⟩
def re_smo : Nat × (List Pt) → Ex := fun _ => .exit 0
def rs_smo (us vs : List Pt) : Nat × (List Pt) → St := fun (i, o) => ⟨(topV :: topV :: topV :: topV :: topV :: .slice (some ⟨3, 0, none⟩) (o ++ smL (us.drop i) vs).length (o ++ smL (us.drop i) vs).length :: topV :: topV :: topV :: topV :: topV :: topV :: topV :: topV :: topV :: topV :: topV :: topV :: topV :: topV :: topV :: topV :: topV :: topV :: topV :: topV :: topV :: topV :: topV :: topV :: topV :: topV :: topV :: topV :: topV :: topV :: topV :: topV :: topV :: topV :: topV :: topV :: topV :: topV :: topV :: topV :: topV :: topV :: []), [some ⟨.view, .ints (flat us)⟩, some ⟨.view, .ints (flat vs)⟩, some ⟨.dead, .vals []⟩, some ⟨.row 44 2, .ints (flat (o ++ smL (us.drop i) vs))⟩]⟩
set_option maxRecDepth 100000 in
theorem tr_smo (us vs : List Pt) (i : Nat) (o : List Pt) : bodyL Try.prog EGa 30 12 ltSm 1 c_smo k_smo 16 (s_smo us vs (i, o)) = brT (decide ((↑i : Int) < (↑us.length : Int))) (.need ((0 : Int) = (0 : Int)) (.need ((0 : Int) ≤ (↑i : Int)) (.need ((flat us).length = us.length * (2 : Nat)) (.need ((flat vs).length = vs.length * (2 : Nat)) (.need (allV (ptsA us.length (flat us)) = true) (.need (allV (ptsA vs.length (flat vs)) = true) (.need (o.length + vs.length ≤ (100000 : Nat)) (.need ((↑i : Int) < (↑us.length : Int)) (.need ((flat o).length = o.length * (2 : Nat)) (.need (us.length ≤ (100000 : Nat)) (.need (vs.length ≤ (100000 : Nat)) (.leaf .normal ⟨(.slice (some ⟨0, 0, none⟩) (us.length) (us.length) :: .slice (some ⟨1, 0, none⟩) (vs.length) (vs.length) :: topV :: topV :: topV :: .slice (some ⟨4, 0, none⟩) ((ptsA o.length (flat o) ++ ro1 ((ptsA us.length (flat us)).getD (↑i : Int).toNat (0, 0)) (ptsA vs.length (flat vs))).length) ((ptsA o.length (flat o) ++ ro1 ((ptsA us.length (flat us)).getD (↑i : Int).toNat (0, 0)) (ptsA vs.length (flat vs))).length) :: .int .i64 (IntKind.i64.wrap ((↑i : Int) + 1)) :: topV :: topV :: topV :: topV :: topV :: topV :: topV :: topV :: topV :: topV :: topV :: topV :: topV :: topV :: topV :: topV :: topV :: topV :: topV :: topV :: topV :: topV :: topV :: topV :: topV :: topV :: topV :: topV :: topV :: topV :: topV :: topV :: topV :: topV :: topV :: topV :: topV :: topV :: topV :: topV :: topV :: []), [some ⟨.view, .ints (flat us)⟩, some ⟨.view, .ints (flat vs)⟩, some deadB, some deadB, some ⟨.row 44 2, .ints (flat (ptsA o.length (flat o) ++ ro1 ((ptsA us.length (flat us)).getD (↑i : Int).toNat (0, 0)) (ptsA vs.length (flat vs))))⟩]⟩)))))))))))) (.leaf (.exit 0) ⟨(topV :: topV :: topV :: topV :: topV :: .slice (some ⟨3, 0, none⟩) (o.length) (o.length) :: topV :: topV :: topV :: topV :: topV :: topV :: topV :: topV :: topV :: topV :: topV :: topV :: topV :: topV :: topV :: topV :: topV :: topV :: topV :: topV :: topV :: topV :: topV :: topV :: topV :: topV :: topV :: topV :: topV :: topV :: topV :: topV :: topV :: topV :: topV :: topV :: topV :: topV :: topV :: topV :: topV :: topV :: []), [some ⟨.view, .ints (flat us)⟩, some ⟨.view, .ints (flat vs)⟩, some deadB, some ⟨.row 44 2, .ints (flat o)⟩]⟩) := by kernel_rfl
def inv_smo (us vs : List Pt) : Nat × (List Pt) → Prop := fun (i, o) => i ≤ us.length ∧ o.length = i * vs.length
def me_smo (us vs : List Pt) : Nat × (List Pt) → Nat := fun (i, o) => us.length - i
/-- A round of this loop. -/
def Round_smo (us vs : List Pt) : Prop := ∀ xx : Nat × (List Pt), inv_smo us vs xx → (bodyL Try.prog EGa 30 12 ltSm 1 c_smo k_smo 16 (s_smo us vs xx)).ok (RoundEnd 3 (s_smo us vs) (inv_smo us vs) (me_smo us vs) re_smo (rs_smo us vs) xx) (fun _ _ => False)
def e_smo (s : St) (k : Ex → St → Tree) : Option Tree := match Nat.beq s.tmps.length 48, pickL s.tmps [0, 1, 5, 6], s.mem with
  | true, [.slice (some ⟨0, 0, none⟩) n _, .slice (some ⟨1, 0, none⟩) m _, .slice (some ⟨2, 0, none⟩) z _, .int .i64 i0], [some ⟨.view, .ints xs⟩, some ⟨.view, .ints ys⟩, some ⟨.row 44 2, .vals []⟩] => some (needs [z = 0, i0 = 0, xs.length = n * 2, ys.length = m * 2, allV (ptsA n xs) = true, allV (ptsA m ys) = true, n ≤ 100, m ≤ 100] (k (.exit 0) ⟨(topV :: topV :: topV :: topV :: topV :: .slice (some ⟨3, 0, none⟩) (smL (ptsA n xs) (ptsA m ys)).length (smL (ptsA n xs) (ptsA m ys)).length :: topV :: topV :: topV :: topV :: topV :: topV :: topV :: topV :: topV :: topV :: topV :: topV :: topV :: topV :: topV :: topV :: topV :: topV :: topV :: topV :: topV :: topV :: topV :: topV :: topV :: topV :: topV :: topV :: topV :: topV :: topV :: topV :: topV :: topV :: topV :: topV :: topV :: topV :: topV :: topV :: topV :: topV :: []), [some ⟨.view, .ints xs⟩, some ⟨.view, .ints ys⟩, some ⟨.dead, .vals []⟩, some ⟨.row 44 2, .ints (flat (smL (ptsA n xs) (ptsA m ys)))⟩]⟩))
  | _, _, _ => none
set_option maxRecDepth 100000 in
theorem in_smo : loopsOf c_smo = [c_smi] := by kernel_rfl
theorem ltSm_good : LoopsGood Try.prog ltSm 1 c_smo := by
  intro i d hd s k t F H hlt ht
  rw [in_smo] at hd
  cases i with
  | zero =>
    obtain rfl : c_smi = d := by simpa using hd
    exact lg_smi s k t F H hlt ht
  | succ i => simp at hd
set_option maxRecDepth 100000 in
theorem round_smo (us vs : List Pt) (ha : allV us = true) (hb : allV vs = true) (hn : us.length ≤ 100) (hm : vs.length ≤ 100) : Round_smo us vs := by
  rintro ⟨i, o⟩ ⟨h1, h2⟩
  rw [tr_smo]
  have hb1 : i * vs.length ≤ 100 * 100 := Nat.mul_le_mul (by omega) hm
  simp only [Int.toNat_natCast, ptsA_flat, flat_length]
  refine brT_ok.2 ⟨fun c => ?_, fun c => ?_⟩
  · have c := of_decide_eq_true c
    have hi : i < us.length := by omega
    rw [wsucc hi (by omega)]
    refine ⟨by first | exact True.intro | omega, by first | exact True.intro | omega, by first | exact True.intro | rfl | omega, by first | exact True.intro | rfl | omega, ha, hb, by omega, by omega, by first | exact True.intro | rfl | omega, by omega, by omega, (i + 1, o ++ ro1 (us.getD i (0, 0)) vs), [some 4], ⟨by omega, by rw [List.length_append, ro1_len, h2, Nat.add_mul]; omega⟩, ?_, rfl, ?_, ?_⟩
    · show us.length - (i + 1) < us.length - i; omega
    · simp only [rs_smo, smL_step vs o hi]
    · repeat' (first | exact True.intro | exact rfl | exact wv_top _ _ | exact fun _ => rfl | (simp; done) | refine And.intro ?_ ?_)
  · have c := of_decide_eq_false c
    refine ⟨rfl, [some 3], ?_⟩
    simp only [rs_smo, smL_end vs (show us.length ≤ i by omega), List.append_nil]
    repeat' (first | exact True.intro | exact rfl | exact wv_top _ _ | exact fun _ => rfl | (simp; done) | refine And.intro ?_ ?_)
set_option maxRecDepth 100000 in
theorem lg_smo : LoopE Try.prog e_smo c_smo := by
  intro s k t F H hlt ht
  unfold e_smo at hlt
  split at hlt
  rotate_left
  · cases hlt
  rename_i hlen hpick hmem
  obtain ⟨tmps, mem⟩ := s
  simp only at hlen hpick hmem
  subst hmem
  obtain rfl := Option.some.inj hlt
  obtain ⟨⟨rfl, rfl, h1, h2, h3, h4, h5, h6, _⟩, ht2⟩ := needs_ok ht
  clear ht hlt
  obtain ⟨us, rfl, rfl⟩ := even_flat h1
  obtain ⟨vs, rfl, rfl⟩ := even_flat h2
  rw [ptsA_flat] at h3 h4
  simp only [ptsA_flat] at ht2
  refine ⟨_, _, ht2, loop_run2 mixed EGa_ok (s_smo us vs) (inv_smo us vs) (me_smo us vs) re_smo (rs_smo us vs) k_smo (fun _ => rfl) ltSm_good (round_smo us vs h3 h4 h5 h6) (x := (0, [])) ⟨Nat.zero_le _, by simp⟩ (π := [some 2]) rfl ?_⟩
  refine ⟨rfl, rfl, ?_, wvs_spread' [0, 1, 5, 6] hlen rfl ?_⟩
  · repeat' (first | exact True.intro | exact rfl | exact wv_top _ _ | exact fun _ => rfl | assumption | exact Eq.symm (by assumption) | exact vI0 rfl | refine And.intro ?_ ?_)
  · rw [hpick]
    repeat' (first | exact True.intro | exact rfl | exact wv_top _ _ | exact fun _ => rfl | assumption | exact Eq.symm (by assumption) | exact vI0 rfl | refine And.intro ?_ ?_)
end Go.Proofs.Ytolodncpegajkab
namespace Go.Proofs.Ytolodncpegajkab
set_option linter.all false
open Go.RowKit
def TCh : Tab := orT T3 TOl
theorem TCh_ok : TabOk Try.prog TCh := orT_ok T3_ok TOl_ok
def ECh : Env := mkE TCh RSq (fun _ => noL)
theorem ECh_ok : EnvOk Try.prog ECh := mkEOk TCh_ok RSq_ok (fun _ _ _ => noL_good)
noncomputable def c_chI : Code := ((loopsOf (codeOf Try.f59))[1]?).getD .skip
def k_chI : Ex → List Nat := keeps [3, 5, 6, 7, 8, 9] [(2, [3, 5, 7, 8, 9]), (1, [3, 7, 8, 9]), (0, [3])] [2]
def s_chI (xs : List Int) (st : List Pt) (x y : Int) (n i : Nat) : Nat → St := fun j => ⟨(topV :: topV :: topV :: .slice (some ⟨1, 0, none⟩) j j :: topV :: .pointer (some ⟨2, 0, none⟩) :: .int .i64 j :: .slice (some ⟨0, 0, none⟩) n n :: .int .i64 n :: .int .i64 i :: topV :: topV :: topV :: topV :: topV :: topV :: topV :: topV :: topV :: topV :: topV :: topV :: topV :: topV :: topV :: topV :: topV :: topV :: topV :: topV :: topV :: topV :: topV :: topV :: topV :: topV :: topV :: topV :: topV :: topV :: topV :: topV :: topV :: topV :: []), [some ⟨.view, .ints xs⟩, some ⟨.row 44 2, .ints (flat st)⟩, some ⟨.box, .vals [.int .i64 x, .int .i64 y]⟩]⟩
def re_chI : Nat → Ex := fun _ => .exit 2
def rs_chI (xs : List Int) (st : List Pt) (x y : Int) (n i : Nat) : Nat → St := fun j => ⟨(topV :: topV :: topV :: .slice (some ⟨1, 0, none⟩) (popN st (x, y) st.length) (popN st (x, y) st.length) :: topV :: .pointer (some ⟨2, 0, none⟩) :: topV :: .slice (some ⟨0, 0, none⟩) n n :: .int .i64 n :: .int .i64 i :: topV :: topV :: topV :: topV :: topV :: topV :: topV :: topV :: topV :: topV :: topV :: topV :: topV :: topV :: topV :: topV :: topV :: topV :: topV :: topV :: topV :: topV :: topV :: topV :: topV :: topV :: topV :: topV :: topV :: topV :: topV :: topV :: topV :: topV :: []), [some ⟨.view, .ints xs⟩, some ⟨.row 44 2, .ints (flat st)⟩, some ⟨.box, .vals [.int .i64 x, .int .i64 y]⟩]⟩
set_option maxRecDepth 100000 in
theorem tr_chI (xs : List Int) (st : List Pt) (x y : Int) (n i : Nat) (j : Nat) : bodyL Try.prog ECh 30 12 noL 2 c_chI k_chI 3 (s_chI xs st x y n i j) = brT (decide (2 ≤ (↑j : Int))) (.need (ptB ((flat st).getD ((0 : Nat) + (IntKind.i64.wrap ((↑j : Int) - (2 : Int))).toNat * (2 : Nat)) (0 : Int)) ((flat st).getD ((0 : Nat) + (IntKind.i64.wrap ((↑j : Int) - (2 : Int))).toNat * (2 : Nat) + (1 : Nat)) (0 : Int)) = true) (.need (ptB ((flat st).getD ((0 : Nat) + (IntKind.i64.wrap ((↑j : Int) - (1 : Int))).toNat * (2 : Nat)) (0 : Int)) ((flat st).getD ((0 : Nat) + (IntKind.i64.wrap ((↑j : Int) - (1 : Int))).toNat * (2 : Nat) + (1 : Nat)) (0 : Int)) = true) (.need (ptB x y = true) (.need ((0 : Int) ≤ IntKind.i64.wrap ((↑j : Int) - (2 : Int)) ∧ IntKind.i64.wrap ((↑j : Int) - (2 : Int)) < (↑j : Int)) (.need ((0 : Nat) + (IntKind.i64.wrap ((↑j : Int) - (2 : Int))).toNat * (2 : Nat) + (2 : Nat) ≤ (flat st).length) (.need ((0 : Int) ≤ IntKind.i64.wrap ((↑j : Int) - (1 : Int)) ∧ IntKind.i64.wrap ((↑j : Int) - (1 : Int)) < (↑j : Int)) (.need ((0 : Nat) + (IntKind.i64.wrap ((↑j : Int) - (1 : Int))).toNat * (2 : Nat) + (2 : Nat) ≤ (flat st).length) (brT (decide (crossI ((flat st).getD (0 + (IntKind.i64.wrap ((↑j : Int) - 2)).toNat * 2) 0) ((flat st).getD (0 + (IntKind.i64.wrap ((↑j : Int) - 2)).toNat * 2 + 1) 0) ((flat st).getD (0 + (IntKind.i64.wrap ((↑j : Int) - 1)).toNat * 2) 0) ((flat st).getD (0 + (IntKind.i64.wrap ((↑j : Int) - 1)).toNat * 2 + 1) 0) x y ≤ 0)) (.need ((0 : Int) ≤ bndI none (0 : Int) ∧ bndI none (0 : Int) ≤ bndI (some (IntKind.i64, IntKind.i64.wrap ((↑j : Int) - (1 : Int)))) (↑j : Int) ∧ bndI (some (IntKind.i64, IntKind.i64.wrap ((↑j : Int) - (1 : Int)))) (↑j : Int) ≤ (↑j : Int)) (.leaf .normal ⟨(topV :: topV :: topV :: .slice (some ⟨1, 0, none⟩) ((bndI (some (IntKind.i64, IntKind.i64.wrap ((↑j : Int) - 1))) (↑j : Int)).toNat - 0) ((bndI (some (IntKind.i64, IntKind.i64.wrap ((↑j : Int) - 1))) (↑j : Int)).toNat - 0) :: topV :: .pointer (some ⟨2, 0, none⟩) :: .int .i64 (IntKind.i64.wrap ((↑j : Int) - 1)) :: .slice (some ⟨0, 0, none⟩) (n) (n) :: .int .i64 ((↑n : Int)) :: .int .i64 ((↑i : Int)) :: topV :: topV :: topV :: topV :: topV :: topV :: topV :: topV :: topV :: topV :: topV :: topV :: topV :: topV :: topV :: topV :: topV :: topV :: topV :: topV :: topV :: topV :: topV :: topV :: topV :: topV :: topV :: topV :: topV :: topV :: topV :: topV :: topV :: topV :: []), [some ⟨.view, .ints (xs)⟩, some ⟨.row 44 2, .ints (flat st)⟩, some ⟨.box, .vals [.int .i64 (x), .int .i64 (y)]⟩]⟩)) (.leaf (.exit 2) ⟨(topV :: topV :: topV :: .slice (some ⟨1, 0, none⟩) (j) (j) :: topV :: .pointer (some ⟨2, 0, none⟩) :: topV :: .slice (some ⟨0, 0, none⟩) (n) (n) :: .int .i64 ((↑n : Int)) :: .int .i64 ((↑i : Int)) :: topV :: topV :: topV :: topV :: topV :: topV :: topV :: topV :: topV :: topV :: topV :: topV :: topV :: topV :: topV :: topV :: topV :: topV :: topV :: topV :: topV :: topV :: topV :: topV :: topV :: topV :: topV :: topV :: topV :: topV :: topV :: topV :: topV :: topV :: []), [some ⟨.view, .ints (xs)⟩, some ⟨.row 44 2, .ints (flat st)⟩, some ⟨.box, .vals [.int .i64 (x), .int .i64 (y)]⟩]⟩))))))))) (.leaf (.exit 2) ⟨(topV :: topV :: topV :: .slice (some ⟨1, 0, none⟩) (j) (j) :: topV :: .pointer (some ⟨2, 0, none⟩) :: topV :: .slice (some ⟨0, 0, none⟩) (n) (n) :: .int .i64 ((↑n : Int)) :: .int .i64 ((↑i : Int)) :: topV :: topV :: topV :: topV :: topV :: topV :: topV :: topV :: topV :: topV :: topV :: topV :: topV :: topV :: topV :: topV :: topV :: topV :: topV :: topV :: topV :: topV :: topV :: topV :: topV :: topV :: topV :: topV :: topV :: topV :: topV :: topV :: topV :: topV :: []), [some ⟨.view, .ints (xs)⟩, some ⟨.row 44 2, .ints (flat st)⟩, some ⟨.box, .vals [.int .i64 (x), .int .i64 (y)]⟩]⟩) := by kernel_rfl
set_option maxRecDepth 100000 in
theorem nl_chI : loopsOf c_chI = [] := by kernel_rfl
def inv_chI (xs : List Int) (st : List Pt) (x y : Int) (n i : Nat) : Nat → Prop := fun j => j ≤ st.length ∧ popN st (x, y) j = popN st (x, y) st.length
def me_chI (xs : List Int) (st : List Pt) (x y : Int) (n i : Nat) : Nat → Nat := fun j => j
/-- A round of this loop. -/
def Round_chI (xs : List Int) (st : List Pt) (x y : Int) (n i : Nat) : Prop := ∀ xx : Nat, inv_chI xs st x y n i xx → (bodyL Try.prog ECh 30 12 noL 2 c_chI k_chI 3 (s_chI xs st x y n i xx)).ok (RoundEnd 3 (s_chI xs st x y n i) (inv_chI xs st x y n i) (me_chI xs st x y n i) re_chI (rs_chI xs st x y n i) xx) (fun _ _ => False)
def e_chI (s : St) (k : Ex → St → Tree) : Option Tree := match Nat.beq s.tmps.length 44, pickL s.tmps [3, 5, 6, 7, 8, 9], s.mem with
  | true, [.slice (some ⟨1, 0, none⟩) l _, .pointer (some ⟨2, 0, none⟩), .int .i64 jj, .slice (some ⟨0, 0, none⟩) n _, .int .i64 n1, .int .i64 i], [some ⟨.view, .ints xs⟩, some ⟨.row 44 2, .ints ys⟩, some ⟨.box, .vals [.int .i64 x, .int .i64 y]⟩] => some (needs [jj = l, n1 = n, 0 ≤ i, ys.length = l * 2, allV (ptsA l ys) = true, ptB x y = true, l ≤ 1000] (k (.exit 2) ⟨(topV :: topV :: topV :: .slice (some ⟨1, 0, none⟩) (popN (ptsA l ys) (x, y) l) (popN (ptsA l ys) (x, y) l) :: topV :: .pointer (some ⟨2, 0, none⟩) :: topV :: .slice (some ⟨0, 0, none⟩) n n :: .int .i64 n :: .int .i64 i :: topV :: topV :: topV :: topV :: topV :: topV :: topV :: topV :: topV :: topV :: topV :: topV :: topV :: topV :: topV :: topV :: topV :: topV :: topV :: topV :: topV :: topV :: topV :: topV :: topV :: topV :: topV :: topV :: topV :: topV :: topV :: topV :: topV :: topV :: []), [some ⟨.view, .ints xs⟩, some ⟨.row 44 2, .ints ys⟩, some ⟨.box, .vals [.int .i64 x, .int .i64 y]⟩]⟩))
  | _, _, _ => none
noncomputable def c_chS : Code := ((loopsOf (codeOf Try.f128))[1]?).getD .skip
def k_chS : Ex → List Nat := keeps [0, 3, 4] [(2, [0, 3, 4]), (1, [0, 3, 4]), (0, [3])] [2]
def s_chS (ps st : List Pt) (i : Nat) : Nat → St := fun j => ⟨(.slice (some ⟨0, 0, none⟩) ps.length ps.length :: topV :: topV :: .slice (some ⟨2, 0, none⟩) j j :: .int .i64 i :: topV :: topV :: topV :: topV :: topV :: topV :: topV :: topV :: topV :: topV :: topV :: topV :: topV :: topV :: topV :: topV :: topV :: topV :: topV :: topV :: topV :: topV :: topV :: topV :: topV :: topV :: topV :: topV :: topV :: topV :: topV :: topV :: topV :: topV :: topV :: topV :: topV :: topV :: topV :: topV :: topV :: topV :: topV :: []), [some ⟨.view, .ints (flat ps)⟩, some ⟨.dead, .vals []⟩, some ⟨.row 44 2, .ints (flat st)⟩]⟩
def re_chS : Nat → Ex := fun _ => .exit 2
def rs_chS (ps st : List Pt) (i : Nat) : Nat → St := fun j => ⟨(.slice (some ⟨0, 0, none⟩) ps.length ps.length :: topV :: topV :: .slice (some ⟨2, 0, none⟩) (popN st (ps.getD i (0, 0)) st.length) (popN st (ps.getD i (0, 0)) st.length) :: .int .i64 i :: topV :: topV :: topV :: topV :: topV :: topV :: topV :: topV :: topV :: topV :: topV :: topV :: topV :: topV :: topV :: topV :: topV :: topV :: topV :: topV :: topV :: topV :: topV :: topV :: topV :: topV :: topV :: topV :: topV :: topV :: topV :: topV :: topV :: topV :: topV :: topV :: topV :: topV :: topV :: topV :: topV :: topV :: topV :: []), [some ⟨.view, .ints (flat ps)⟩, some ⟨.dead, .vals []⟩, some ⟨.row 44 2, .ints (flat st)⟩]⟩
set_option maxRecDepth 100000 in
theorem tr_chS (ps st : List Pt) (i : Nat) (j : Nat) : bodyL Try.prog ECh 30 12 noL 2 c_chS k_chS 3 (s_chS ps st i j) = brT (decide (1 < (↑j : Int))) (.need (ptB ((flat st).getD ((0 : Nat) + (IntKind.i64.wrap ((↑j : Int) - (2 : Int))).toNat * (2 : Nat)) (0 : Int)) ((flat st).getD ((0 : Nat) + (IntKind.i64.wrap ((↑j : Int) - (2 : Int))).toNat * (2 : Nat) + (1 : Nat)) (0 : Int)) = true) (.need (ptB ((flat st).getD ((0 : Nat) + (IntKind.i64.wrap ((↑j : Int) - (1 : Int))).toNat * (2 : Nat)) (0 : Int)) ((flat st).getD ((0 : Nat) + (IntKind.i64.wrap ((↑j : Int) - (1 : Int))).toNat * (2 : Nat) + (1 : Nat)) (0 : Int)) = true) (.need (ptB ((flat ps).getD ((0 : Nat) + (↑i : Int).toNat * (2 : Nat)) (0 : Int)) ((flat ps).getD ((0 : Nat) + (↑i : Int).toNat * (2 : Nat) + (1 : Nat)) (0 : Int)) = true) (.need ((0 : Int) ≤ IntKind.i64.wrap ((↑j : Int) - (2 : Int)) ∧ IntKind.i64.wrap ((↑j : Int) - (2 : Int)) < (↑j : Int)) (.need ((0 : Nat) + (IntKind.i64.wrap ((↑j : Int) - (2 : Int))).toNat * (2 : Nat) + (2 : Nat) ≤ (flat st).length) (.need ((0 : Int) ≤ IntKind.i64.wrap ((↑j : Int) - (1 : Int)) ∧ IntKind.i64.wrap ((↑j : Int) - (1 : Int)) < (↑j : Int)) (.need ((0 : Nat) + (IntKind.i64.wrap ((↑j : Int) - (1 : Int))).toNat * (2 : Nat) + (2 : Nat) ≤ (flat st).length) (.need ((0 : Int) ≤ (↑i : Int) ∧ (↑i : Int) < (↑ps.length : Int)) (.need ((0 : Nat) + (↑i : Int).toNat * (2 : Nat) + (2 : Nat) ≤ (flat ps).length) (brT (decide (crossI ((flat st).getD (0 + (IntKind.i64.wrap ((↑j : Int) - 2)).toNat * 2) 0) ((flat st).getD (0 + (IntKind.i64.wrap ((↑j : Int) - 2)).toNat * 2 + 1) 0) ((flat st).getD (0 + (IntKind.i64.wrap ((↑j : Int) - 1)).toNat * 2) 0) ((flat st).getD (0 + (IntKind.i64.wrap ((↑j : Int) - 1)).toNat * 2 + 1) 0) ((flat ps).getD (0 + (↑i : Int).toNat * 2) 0) ((flat ps).getD (0 + (↑i : Int).toNat * 2 + 1) 0) ≤ 0)) (.need ((0 : Int) ≤ bndI none (0 : Int) ∧ bndI none (0 : Int) ≤ bndI (some (IntKind.i64, IntKind.i64.wrap ((↑j : Int) - (1 : Int)))) (↑j : Int) ∧ bndI (some (IntKind.i64, IntKind.i64.wrap ((↑j : Int) - (1 : Int)))) (↑j : Int) ≤ (↑j : Int)) (.leaf .normal ⟨(.slice (some ⟨0, 0, none⟩) (ps.length) (ps.length) :: topV :: topV :: .slice (some ⟨2, 0, none⟩) ((bndI (some (IntKind.i64, IntKind.i64.wrap ((↑j : Int) - 1))) (↑j : Int)).toNat - 0) ((bndI (some (IntKind.i64, IntKind.i64.wrap ((↑j : Int) - 1))) (↑j : Int)).toNat - 0) :: .int .i64 ((↑i : Int)) :: topV :: topV :: topV :: topV :: topV :: topV :: topV :: topV :: topV :: topV :: topV :: topV :: topV :: topV :: topV :: topV :: topV :: topV :: topV :: topV :: topV :: topV :: topV :: topV :: topV :: topV :: topV :: topV :: topV :: topV :: topV :: topV :: topV :: topV :: topV :: topV :: topV :: topV :: topV :: topV :: topV :: topV :: topV :: []), [some ⟨.view, .ints (flat ps)⟩, some deadB, some ⟨.row 44 2, .ints (flat st)⟩]⟩)) (.leaf (.exit 2) ⟨(.slice (some ⟨0, 0, none⟩) (ps.length) (ps.length) :: topV :: topV :: .slice (some ⟨2, 0, none⟩) (j) (j) :: .int .i64 ((↑i : Int)) :: topV :: topV :: topV :: topV :: topV :: topV :: topV :: topV :: topV :: topV :: topV :: topV :: topV :: topV :: topV :: topV :: topV :: topV :: topV :: topV :: topV :: topV :: topV :: topV :: topV :: topV :: topV :: topV :: topV :: topV :: topV :: topV :: topV :: topV :: topV :: topV :: topV :: topV :: topV :: topV :: topV :: topV :: topV :: []), [some ⟨.view, .ints (flat ps)⟩, some deadB, some ⟨.row 44 2, .ints (flat st)⟩]⟩))))))))))) (.leaf (.exit 2) ⟨(.slice (some ⟨0, 0, none⟩) (ps.length) (ps.length) :: topV :: topV :: .slice (some ⟨2, 0, none⟩) (j) (j) :: .int .i64 ((↑i : Int)) :: topV :: topV :: topV :: topV :: topV :: topV :: topV :: topV :: topV :: topV :: topV :: topV :: topV :: topV :: topV :: topV :: topV :: topV :: topV :: topV :: topV :: topV :: topV :: topV :: topV :: topV :: topV :: topV :: topV :: topV :: topV :: topV :: topV :: topV :: topV :: topV :: topV :: topV :: topV :: topV :: topV :: topV :: topV :: []), [some ⟨.view, .ints (flat ps)⟩, some deadB, some ⟨.row 44 2, .ints (flat st)⟩]⟩) := by kernel_rfl
set_option maxRecDepth 100000 in
theorem nl_chS : loopsOf c_chS = [] := by kernel_rfl
def inv_chS (ps st : List Pt) (i : Nat) : Nat → Prop := fun j => j ≤ st.length ∧ popN st (ps.getD i (0, 0)) j = popN st (ps.getD i (0, 0)) st.length
def me_chS (ps st : List Pt) (i : Nat) : Nat → Nat := fun j => j
/-- A round of this loop. -/
def Round_chS (ps st : List Pt) (i : Nat) : Prop := ∀ xx : Nat, inv_chS ps st i xx → (bodyL Try.prog ECh 30 12 noL 2 c_chS k_chS 3 (s_chS ps st i xx)).ok (RoundEnd 3 (s_chS ps st i) (inv_chS ps st i) (me_chS ps st i) re_chS (rs_chS ps st i) xx) (fun _ _ => False)
def e_chS (s : St) (k : Ex → St → Tree) : Option Tree := match Nat.beq s.tmps.length 48, pickL s.tmps [0, 3, 4], s.mem with
  | true, [.slice (some ⟨0, 0, none⟩) n _, .slice (some ⟨2, 0, none⟩) l _, .int .i64 ii], [some ⟨.view, .ints xs⟩, some ⟨.dead, .vals []⟩, some ⟨.row 44 2, .ints ys⟩] => some (needs [xs.length = n * 2, allV (ptsA n xs) = true, 0 ≤ ii, ii < n, ys.length = l * 2, allV (ptsA l ys) = true, l ≤ 1000] (k (.exit 2) ⟨(.slice (some ⟨0, 0, none⟩) n n :: topV :: topV :: .slice (some ⟨2, 0, none⟩) (popN (ptsA l ys) ((ptsA n xs).getD ii.toNat (0, 0)) l) (popN (ptsA l ys) ((ptsA n xs).getD ii.toNat (0, 0)) l) :: .int .i64 ii :: topV :: topV :: topV :: topV :: topV :: topV :: topV :: topV :: topV :: topV :: topV :: topV :: topV :: topV :: topV :: topV :: topV :: topV :: topV :: topV :: topV :: topV :: topV :: topV :: topV :: topV :: topV :: topV :: topV :: topV :: topV :: topV :: topV :: topV :: topV :: topV :: topV :: topV :: topV :: topV :: topV :: topV :: topV :: []), [some ⟨.view, .ints xs⟩, some ⟨.dead, .vals []⟩, some ⟨.row 44 2, .ints ys⟩]⟩))
  | _, _, _ => none
theorem popN_yes {st : List Pt} {p : Pt} {m : Nat} (h : crP (st.getD m (0, 0)) (st.getD (m + 1) (0, 0)) p ≤ 0) : popN st p (m + 2) = popN st p (m + 1) := by simp only [popN, h, if_true]
theorem popN_no {st : List Pt} {p : Pt} {m : Nat} (h : ¬ crP (st.getD m (0, 0)) (st.getD (m + 1) (0, 0)) p ≤ 0) : popN st p (m + 2) = m + 2 := by simp only [popN, h, if_false]
theorem popN_low {st : List Pt} {p : Pt} {j : Nat} (h : j < 2) : popN st p j = j := by
  match j, h with
  | 0, _ => rfl
  | 1, _ => rfl
set_option maxRecDepth 100000 in
theorem round_chI (xs : List Int) (st : List Pt) (x y : Int) (n i : Nat) (hv : allV st = true) (hp : ptB x y = true) (h : st.length ≤ 1000) : Round_chI xs st x y n i := by
  rintro j ⟨h1, h2⟩
  rw [tr_chI]
  refine brT_ok.2 ⟨fun hlt => ?_, fun hge => ?_⟩
  · have hlt := of_decide_eq_true hlt
    obtain ⟨m, rfl⟩ : ∃ m, j = m + 2 := ⟨j - 2, by omega⟩
    have w1 : IntKind.i64.wrap (((m + 2 : Nat) : Int) - 2) = (m : Int) := by rw [wr (by omega)]; omega
    have w2 : IntKind.i64.wrap (((m + 2 : Nat) : Int) - 1) = ((m + 1 : Nat) : Int) := by rw [wr (by omega)]; omega
    simp only [w1, w2, bnd_some, bnd_none, Int.toNat_natCast, flat_get0, flat_get1, flat_length, Nat.zero_add, Nat.sub_zero]
    refine ⟨allV_at hv (by omega), allV_at hv (by omega), hp, by omega, by omega, by omega, by omega, brT_ok.2 ⟨fun q => ⟨by omega, ?_⟩, fun q => ?_⟩⟩
    · have e := popN_yes (st := st) (p := (x, y)) (m := m) (of_decide_eq_true q)
      refine ⟨m + 1, [], ⟨by omega, by rw [← e]; exact h2⟩, ?_, rfl, by simp only [rs_chI], ?_⟩
      · show m + 1 < m + 2; omega
      · repeat' (first | exact True.intro | exact rfl | exact fun _ => rfl | (simp; done) | refine And.intro ?_ ?_)
    · have e := popN_no (st := st) (p := (x, y)) (m := m) (of_decide_eq_false q)
      refine ⟨rfl, [], ?_⟩
      simp only [rs_chI, ← h2, e]
      repeat' (first | exact True.intro | exact rfl | exact fun _ => rfl | (simp; done) | refine And.intro ?_ ?_)
  · have hge := of_decide_eq_false hge
    have e := popN_low (st := st) (p := (x, y)) (j := j) (by omega)
    refine ⟨rfl, [], ?_⟩
    simp only [rs_chI, ← h2, e]
    repeat' (first | exact True.intro | exact rfl | exact fun _ => rfl | (simp; done) | refine And.intro ?_ ?_)
set_option maxRecDepth 100000 in
theorem lg_chI : LoopE Try.prog e_chI c_chI := by
  intro s k t F H hlt ht
  unfold e_chI at hlt
  split at hlt
  rotate_left
  · cases hlt
  rename_i hlen hpick hmem
  obtain ⟨tmps, mem⟩ := s
  simp only at hlen hpick hmem
  subst hmem
  obtain rfl := Option.some.inj hlt
  obtain ⟨⟨rfl, rfl, h0, h1, h2, h3, h4, _⟩, ht2⟩ := needs_ok ht
  clear ht hlt
  obtain ⟨st, rfl, rfl⟩ := even_flat h1
  obtain ⟨i, rfl⟩ := Int.eq_ofNat_of_zero_le h0
  rw [ptsA_flat] at ht2 h2
  refine ⟨_, _, ht2, loop_run mixed ECh_ok (s_chI _ st _ _ _ _) (inv_chI _ st _ _ _ _) (me_chI _ st _ _ _ _) re_chI (rs_chI _ st _ _ _ _) k_chI (fun _ => rfl) (noLoops nl_chI) (round_chI _ st _ _ _ _ h2 h3 h4) (x := st.length) ⟨Nat.le_refl _, rfl⟩ (π := []) rfl ?_⟩
  refine ⟨rfl, rfl, ?_, wvs_spread' [3, 5, 6, 7, 8, 9] hlen rfl ?_⟩
  · repeat' (first | exact True.intro | exact rfl | exact wv_top _ _ | exact fun _ => rfl | assumption | exact Eq.symm (by assumption) | exact vI0 rfl | refine And.intro ?_ ?_)
  · rw [hpick]
    repeat' (first | exact True.intro | exact rfl | exact wv_top _ _ | exact fun _ => rfl | assumption | exact Eq.symm (by assumption) | exact vI0 rfl | refine And.intro ?_ ?_)
set_option maxRecDepth 100000 in
theorem round_chS (ps st : List Pt) (i : Nat) (hv : allV st = true) (hp : allV ps = true) (h : st.length ≤ 1000) (hi : i < ps.length) : Round_chS ps st i := by
  rintro j ⟨h1, h2⟩
  rw [tr_chS]
  refine brT_ok.2 ⟨fun hlt => ?_, fun hge => ?_⟩
  · have hlt := of_decide_eq_true hlt
    obtain ⟨m, rfl⟩ : ∃ m, j = m + 2 := ⟨j - 2, by omega⟩
    have w1 : IntKind.i64.wrap (((m + 2 : Nat) : Int) - 2) = (m : Int) := by rw [wr (by omega)]; omega
    have w2 : IntKind.i64.wrap (((m + 2 : Nat) : Int) - 1) = ((m + 1 : Nat) : Int) := by rw [wr (by omega)]; omega
    simp only [w1, w2, bnd_some, bnd_none, Int.toNat_natCast, flat_get0, flat_get1, flat_length, Nat.zero_add, Nat.sub_zero]
    refine ⟨allV_at hv (by omega), allV_at hv (by omega), allV_at hp hi, by omega, by omega, by omega, by omega, by omega, by omega, brT_ok.2 ⟨fun q => ⟨by omega, ?_⟩, fun q => ?_⟩⟩
    · have e := popN_yes (st := st) (p := ps.getD i (0, 0)) (m := m) (of_decide_eq_true q)
      refine ⟨m + 1, [], ⟨by omega, by rw [← e]; exact h2⟩, ?_, rfl, by simp only [rs_chS], ?_⟩
      · show m + 1 < m + 2; omega
      · repeat' (first | exact True.intro | exact rfl | exact fun _ => rfl | (simp; done) | refine And.intro ?_ ?_)
    · have e := popN_no (st := st) (p := ps.getD i (0, 0)) (m := m) (of_decide_eq_false q)
      refine ⟨rfl, [], ?_⟩
      simp only [rs_chS, ← h2, e]
      repeat' (first | exact True.intro | exact rfl | exact fun _ => rfl | (simp; done) | refine And.intro ?_ ?_)
  · have hge := of_decide_eq_false hge
    have e := popN_low (st := st) (p := ps.getD i (0, 0)) (j := j) (by omega)
    refine ⟨rfl, [], ?_⟩
    simp only [rs_chS, ← h2, e]
    repeat' (first | exact True.intro | exact rfl | exact fun _ => rfl | (simp; done) | refine And.intro ?_ ?_)
set_option maxRecDepth 100000 in
theorem lg_chS : LoopE Try.prog e_chS c_chS := by
  intro s k t F H hlt ht
  unfold e_chS at hlt
  split at hlt
  rotate_left
  · cases hlt
  rename_i hlen hpick hmem
  obtain ⟨tmps, mem⟩ := s
  simp only at hlen hpick hmem
  subst hmem
  obtain rfl := Option.some.inj hlt
  obtain ⟨⟨h0, h5, h6, h7, h1, h2, h4, _⟩, ht2⟩ := needs_ok ht
  clear ht hlt
  obtain ⟨st, rfl, rfl⟩ := even_flat h1
  obtain ⟨ps, rfl, rfl⟩ := even_flat h0
  obtain ⟨i, rfl⟩ := Int.eq_ofNat_of_zero_le h6
  rw [ptsA_flat] at ht2 h2 h5
  simp only [ptsA_flat, Int.toNat_natCast] at ht2
  refine ⟨_, _, ht2, loop_run mixed ECh_ok (s_chS ps st i) (inv_chS ps st i) (me_chS ps st i) re_chS (rs_chS ps st i) k_chS (fun _ => rfl) (noLoops nl_chS) (round_chS ps st i h2 h5 h4 (by omega)) (x := st.length) ⟨Nat.le_refl _, rfl⟩ (π := []) rfl ?_⟩
  refine ⟨rfl, rfl, ?_, wvs_spread' [0, 3, 4] hlen rfl ?_⟩
  · repeat' (first | exact True.intro | exact rfl | exact wv_top _ _ | exact fun _ => rfl | assumption | exact Eq.symm (by assumption) | exact vI0 rfl | refine And.intro ?_ ?_)
  · rw [hpick]
    repeat' (first | exact True.intro | exact rfl | exact wv_top _ _ | exact fun _ => rfl | assumption | exact Eq.symm (by assumption) | exact vI0 rfl | refine And.intro ?_ ?_)
def ltCi : LT := fun j s k => match j with
  | 1 => e_chI s k
  | _ => none
def ltCs : LT := fun j s k => match j with
  | 1 => e_chS s k
  | _ => none
noncomputable def c_chO : Code := ((loopsOf (codeOf Try.f59))[0]?).getD .skip
def k_chO : Ex → List Nat := keeps [3, 7, 8, 9] [(0, [3])] [2]
def s_chO (ps : List Pt) : Nat × (List Pt) → St := fun (i, st) => ⟨(topV :: topV :: topV :: .slice (some ⟨1, 0, none⟩) st.length st.length :: topV :: topV :: topV :: .slice (some ⟨0, 0, none⟩) ps.length ps.length :: .int .i64 ps.length :: .int .i64 i :: topV :: topV :: topV :: topV :: topV :: topV :: topV :: topV :: topV :: topV :: topV :: topV :: topV :: topV :: topV :: topV :: topV :: topV :: topV :: topV :: topV :: topV :: topV :: topV :: topV :: topV :: topV :: topV :: topV :: topV :: topV :: topV :: topV :: topV :: []), [some ⟨.view, .ints (flat ps)⟩, some ⟨.row 44 2, .ints (flat st)⟩]⟩
def re_chO : Nat × (List Pt) → Ex := fun _ => .exit 0
def rs_chO (ps : List Pt) : Nat × (List Pt) → St := fun (i, st) => ⟨(topV :: topV :: topV :: .slice (some ⟨1, 0, none⟩) (chn st (ps.drop i)).length (chn st (ps.drop i)).length :: topV :: topV :: topV :: topV :: topV :: topV :: topV :: topV :: topV :: topV :: topV :: topV :: topV :: topV :: topV :: topV :: topV :: topV :: topV :: topV :: topV :: topV :: topV :: topV :: topV :: topV :: topV :: topV :: topV :: topV :: topV :: topV :: topV :: topV :: topV :: topV :: topV :: topV :: topV :: topV :: []), [some ⟨.view, .ints (flat ps)⟩, some ⟨.row 44 2, .ints (flat (chn st (ps.drop i)))⟩]⟩
set_option maxRecDepth 100000 in
theorem tr_chO (ps : List Pt) (i : Nat) (st : List Pt) : bodyL Try.prog ECh 30 12 ltCi 1 c_chO k_chO 16 (s_chO ps (i, st)) = brT (decide ((↑i : Int) < (↑ps.length : Int))) (.need ((0 : Int) ≤ (↑i : Int) ∧ (↑i : Int) < (↑ps.length : Int)) (.need ((0 : Nat) + (↑i : Int).toNat * (2 : Nat) + (2 : Nat) ≤ (flat ps).length) (.need ((↑st.length : Int) = (↑st.length : Int)) (.need ((↑ps.length : Int) = (↑ps.length : Int)) (.need ((0 : Int) ≤ (↑i : Int)) (.need ((flat st).length = st.length * (2 : Nat)) (.need (allV (ptsA st.length (flat st)) = true) (.need (ptB ((flat ps).getD ((0 : Nat) + (↑i : Int).toNat * (2 : Nat)) (0 : Int)) ((flat ps).getD ((0 : Nat) + (↑i : Int).toNat * (2 : Nat) + (1 : Nat)) (0 : Int)) = true) (.need (st.length ≤ (1000 : Nat)) (.need ((popN (ptsA st.length (flat st)) ((flat ps).getD ((0 : Nat) + (↑i : Int).toNat * (2 : Nat)) (0 : Int), (flat ps).getD ((0 : Nat) + (↑i : Int).toNat * (2 : Nat) + (1 : Nat)) (0 : Int)) st.length + (1 : Nat)) * (16 : Nat) ≤ (140737488355328 : Nat) ∧ popN (ptsA st.length (flat st)) ((flat ps).getD ((0 : Nat) + (↑i : Int).toNat * (2 : Nat)) (0 : Int), (flat ps).getD ((0 : Nat) + (↑i : Int).toNat * (2 : Nat) + (1 : Nat)) (0 : Int)) st.length + (1 : Nat) ≤ (1000000 : Nat)) (.need ((0 : Nat) + popN (ptsA st.length (flat st)) ((flat ps).getD ((0 : Nat) + (↑i : Int).toNat * (2 : Nat)) (0 : Int), (flat ps).getD ((0 : Nat) + (↑i : Int).toNat * (2 : Nat) + (1 : Nat)) (0 : Int)) st.length * (2 : Nat) ≤ (flat st).length) (.leaf .normal ⟨(topV :: topV :: topV :: .slice (some ⟨4, 0, none⟩) (popN (ptsA st.length (flat st)) ((flat ps).getD (0 + (↑i : Int).toNat * (2 : Nat)) 0, (flat ps).getD (0 + (↑i : Int).toNat * (2 : Nat) + 1) 0) st.length + 1) (popN (ptsA st.length (flat st)) ((flat ps).getD (0 + (↑i : Int).toNat * (2 : Nat)) 0, (flat ps).getD (0 + (↑i : Int).toNat * (2 : Nat) + 1) 0) st.length + 1) :: topV :: topV :: topV :: .slice (some ⟨0, 0, none⟩) (ps.length) (ps.length) :: .int .i64 ((↑ps.length : Int)) :: .int .i64 (IntKind.i64.wrap ((↑i : Int) + 1)) :: topV :: topV :: topV :: topV :: topV :: topV :: topV :: topV :: topV :: topV :: topV :: topV :: topV :: topV :: topV :: topV :: topV :: topV :: topV :: topV :: topV :: topV :: topV :: topV :: topV :: topV :: topV :: topV :: topV :: topV :: topV :: topV :: topV :: topV :: []), [some ⟨.view, .ints (flat ps)⟩, some deadB, some ⟨.box, .vals [.int .i64 ((flat ps).getD (0 + (↑i : Int).toNat * 2) 0), .int .i64 ((flat ps).getD (0 + (↑i : Int).toNat * 2 + 1) 0)]⟩, some ⟨.row 44 2, .vals [.int .i64 ((flat ps).getD (0 + (↑i : Int).toNat * 2) 0), .int .i64 ((flat ps).getD (0 + (↑i : Int).toNat * 2 + 1) 0)]⟩, some ⟨.row 44 2, .ints (List.take (popN (ptsA st.length (flat st)) ((flat ps).getD (0 + (↑i : Int).toNat * (2 : Nat)) 0, (flat ps).getD (0 + (↑i : Int).toNat * (2 : Nat) + 1) 0) st.length * 2) (List.drop 0 (flat st)) ++ [(flat ps).getD (0 + (↑i : Int).toNat * 2) 0, (flat ps).getD (0 + (↑i : Int).toNat * 2 + 1) 0])⟩]⟩)))))))))))) (.leaf (.exit 0) ⟨(topV :: topV :: topV :: .slice (some ⟨1, 0, none⟩) (st.length) (st.length) :: topV :: topV :: topV :: topV :: topV :: topV :: topV :: topV :: topV :: topV :: topV :: topV :: topV :: topV :: topV :: topV :: topV :: topV :: topV :: topV :: topV :: topV :: topV :: topV :: topV :: topV :: topV :: topV :: topV :: topV :: topV :: topV :: topV :: topV :: topV :: topV :: topV :: topV :: topV :: topV :: []), [some ⟨.view, .ints (flat ps)⟩, some ⟨.row 44 2, .ints (flat st)⟩]⟩) := by kernel_rfl
def inv_chO (ps : List Pt) : Nat × (List Pt) → Prop := fun (i, st) => i ≤ ps.length ∧ st.length ≤ i ∧ allV st = true
def me_chO (ps : List Pt) : Nat × (List Pt) → Nat := fun (i, st) => ps.length - i
/-- A round of this loop. -/
def Round_chO (ps : List Pt) : Prop := ∀ xx : Nat × (List Pt), inv_chO ps xx → (bodyL Try.prog ECh 30 12 ltCi 1 c_chO k_chO 16 (s_chO ps xx)).ok (RoundEnd 1 (s_chO ps) (inv_chO ps) (me_chO ps) re_chO (rs_chO ps) xx) (fun _ _ => False)
def e_chO (s : St) (k : Ex → St → Tree) : Option Tree := match Nat.beq s.tmps.length 44, pickL s.tmps [3, 7, 8, 9], s.mem with
  | true, [.slice none 0 0, .slice (some ⟨0, 0, none⟩) n _, .int .i64 n1, .int .i64 i], [some ⟨.view, .ints xs⟩] => some (needs [i = 0, n1 = n, xs.length = n * 2, allV (ptsA n xs) = true, n ≤ 1000] (k (.exit 0) ⟨(topV :: topV :: topV :: .slice (some ⟨1, 0, none⟩) (chn [] (ptsA n xs)).length (chn [] (ptsA n xs)).length :: topV :: topV :: topV :: topV :: topV :: topV :: topV :: topV :: topV :: topV :: topV :: topV :: topV :: topV :: topV :: topV :: topV :: topV :: topV :: topV :: topV :: topV :: topV :: topV :: topV :: topV :: topV :: topV :: topV :: topV :: topV :: topV :: topV :: topV :: topV :: topV :: topV :: topV :: topV :: topV :: []), [some ⟨.view, .ints xs⟩, some ⟨.row 44 2, .ints (flat (chn [] (ptsA n xs)))⟩]⟩))
  | _, _, _ => none
noncomputable def c_chP : Code := ((loopsOf (codeOf Try.f128))[0]?).getD .skip
def k_chP : Ex → List Nat := keeps [0, 3, 4] [(0, [3])] [2]
def s_chP (ps : List Pt) : Nat × (List Pt) → St := fun (i, st) => ⟨(.slice (some ⟨0, 0, none⟩) ps.length ps.length :: topV :: topV :: .slice (some ⟨2, 0, none⟩) st.length st.length :: .int .i64 i :: topV :: topV :: topV :: topV :: topV :: topV :: topV :: topV :: topV :: topV :: topV :: topV :: topV :: topV :: topV :: topV :: topV :: topV :: topV :: topV :: topV :: topV :: topV :: topV :: topV :: topV :: topV :: topV :: topV :: topV :: topV :: topV :: topV :: topV :: topV :: topV :: topV :: topV :: topV :: topV :: topV :: topV :: topV :: []), [some ⟨.view, .ints (flat ps)⟩, some ⟨.dead, .vals []⟩, some ⟨.row 44 2, .ints (flat st)⟩]⟩
def re_chP : Nat × (List Pt) → Ex := fun _ => .exit 0
def rs_chP (ps : List Pt) : Nat × (List Pt) → St := fun (i, st) => ⟨(topV :: topV :: topV :: .slice (some ⟨2, 0, none⟩) (chn st (ps.drop i)).length (chn st (ps.drop i)).length :: topV :: topV :: topV :: topV :: topV :: topV :: topV :: topV :: topV :: topV :: topV :: topV :: topV :: topV :: topV :: topV :: topV :: topV :: topV :: topV :: topV :: topV :: topV :: topV :: topV :: topV :: topV :: topV :: topV :: topV :: topV :: topV :: topV :: topV :: topV :: topV :: topV :: topV :: topV :: topV :: topV :: topV :: topV :: topV :: []), [some ⟨.view, .ints (flat ps)⟩, some ⟨.dead, .vals []⟩, some ⟨.row 44 2, .ints (flat (chn st (ps.drop i)))⟩]⟩
set_option maxRecDepth 100000 in
theorem tr_chP (ps : List Pt) (i : Nat) (st : List Pt) : bodyL Try.prog ECh 30 12 ltCs 1 c_chP k_chP 16 (s_chP ps (i, st)) = brT (decide ((↑i : Int) < (↑ps.length : Int))) (.need ((flat ps).length = ps.length * (2 : Nat)) (.need (allV (ptsA ps.length (flat ps)) = true) (.need ((0 : Int) ≤ (↑i : Int)) (.need ((↑i : Int) < (↑ps.length : Int)) (.need ((flat st).length = st.length * (2 : Nat)) (.need (allV (ptsA st.length (flat st)) = true) (.need (st.length ≤ (1000 : Nat)) (.need ((0 : Int) ≤ (↑i : Int) ∧ (↑i : Int) < (↑ps.length : Int)) (.need ((0 : Nat) + (↑i : Int).toNat * (2 : Nat) + (2 : Nat) ≤ (flat ps).length) (.need ((popN (ptsA st.length (flat st)) ((ptsA ps.length (flat ps)).getD (↑i : Int).toNat ((0 : Int), (0 : Int))) st.length + (1 : Nat)) * (16 : Nat) ≤ (140737488355328 : Nat) ∧ popN (ptsA st.length (flat st)) ((ptsA ps.length (flat ps)).getD (↑i : Int).toNat ((0 : Int), (0 : Int))) st.length + (1 : Nat) ≤ (1000000 : Nat)) (.need ((0 : Nat) + popN (ptsA st.length (flat st)) ((ptsA ps.length (flat ps)).getD (↑i : Int).toNat ((0 : Int), (0 : Int))) st.length * (2 : Nat) ≤ (flat st).length) (.leaf .normal ⟨(.slice (some ⟨0, 0, none⟩) (ps.length) (ps.length) :: topV :: topV :: .slice (some ⟨4, 0, none⟩) (popN (ptsA st.length (flat st)) ((ptsA ps.length (flat ps)).getD (↑i : Int).toNat (0, 0)) st.length + 1) (popN (ptsA st.length (flat st)) ((ptsA ps.length (flat ps)).getD (↑i : Int).toNat (0, 0)) st.length + 1) :: .int .i64 (IntKind.i64.wrap ((↑i : Int) + 1)) :: topV :: topV :: topV :: topV :: topV :: topV :: topV :: topV :: topV :: topV :: topV :: topV :: topV :: topV :: topV :: topV :: topV :: topV :: topV :: topV :: topV :: topV :: topV :: topV :: topV :: topV :: topV :: topV :: topV :: topV :: topV :: topV :: topV :: topV :: topV :: topV :: topV :: topV :: topV :: topV :: topV :: topV :: topV :: []), [some ⟨.view, .ints (flat ps)⟩, some deadB, some deadB, some ⟨.row 44 2, .vals [.int .i64 ((flat ps).getD (0 + (↑i : Int).toNat * 2) 0), .int .i64 ((flat ps).getD (0 + (↑i : Int).toNat * 2 + 1) 0)]⟩, some ⟨.row 44 2, .ints (List.take (popN (ptsA st.length (flat st)) ((ptsA ps.length (flat ps)).getD (↑i : Int).toNat (0, 0)) st.length * 2) (List.drop 0 (flat st)) ++ [(flat ps).getD (0 + (↑i : Int).toNat * 2) 0, (flat ps).getD (0 + (↑i : Int).toNat * 2 + 1) 0])⟩]⟩)))))))))))) (.leaf (.exit 0) ⟨(topV :: topV :: topV :: .slice (some ⟨2, 0, none⟩) (st.length) (st.length) :: topV :: topV :: topV :: topV :: topV :: topV :: topV :: topV :: topV :: topV :: topV :: topV :: topV :: topV :: topV :: topV :: topV :: topV :: topV :: topV :: topV :: topV :: topV :: topV :: topV :: topV :: topV :: topV :: topV :: topV :: topV :: topV :: topV :: topV :: topV :: topV :: topV :: topV :: topV :: topV :: topV :: topV :: topV :: topV :: []), [some ⟨.view, .ints (flat ps)⟩, some deadB, some ⟨.row 44 2, .ints (flat st)⟩]⟩) := by kernel_rfl
def inv_chP (ps : List Pt) : Nat × (List Pt) → Prop := fun (i, st) => i ≤ ps.length ∧ st.length ≤ i ∧ allV st = true
def me_chP (ps : List Pt) : Nat × (List Pt) → Nat := fun (i, st) => ps.length - i
/-- A round of this loop. -/
def Round_chP (ps : List Pt) : Prop := ∀ xx : Nat × (List Pt), inv_chP ps xx → (bodyL Try.prog ECh 30 12 ltCs 1 c_chP k_chP 16 (s_chP ps xx)).ok (RoundEnd 2 (s_chP ps) (inv_chP ps) (me_chP ps) re_chP (rs_chP ps) xx) (fun _ _ => False)
def e_chP (s : St) (k : Ex → St → Tree) : Option Tree := match Nat.beq s.tmps.length 48, pickL s.tmps [0, 3, 4], s.mem with
  | true, [.slice (some ⟨0, 0, none⟩) n _, .slice (some ⟨1, 0, none⟩) z _, .int .i64 i], [some ⟨.view, .ints xs⟩, some ⟨.row 44 2, .vals []⟩] => some (needs [i = 0, z = 0, xs.length = n * 2, allV (ptsA n xs) = true, n ≤ 1000] (k (.exit 0) ⟨(topV :: topV :: topV :: .slice (some ⟨2, 0, none⟩) (chn [] (ptsA n xs)).length (chn [] (ptsA n xs)).length :: topV :: topV :: topV :: topV :: topV :: topV :: topV :: topV :: topV :: topV :: topV :: topV :: topV :: topV :: topV :: topV :: topV :: topV :: topV :: topV :: topV :: topV :: topV :: topV :: topV :: topV :: topV :: topV :: topV :: topV :: topV :: topV :: topV :: topV :: topV :: topV :: topV :: topV :: topV :: topV :: topV :: topV :: topV :: topV :: []), [some ⟨.view, .ints xs⟩, some ⟨.dead, .vals []⟩, some ⟨.row 44 2, .ints (flat (chn [] (ptsA n xs)))⟩]⟩))
  | _, _, _ => none
set_option maxRecDepth 100000 in
theorem in_chO : loopsOf c_chO = [c_chI] := by kernel_rfl
theorem ltCi_good : LoopsGood Try.prog ltCi 1 c_chO := by
  intro i d hd s k t F H hlt ht
  rw [in_chO] at hd
  cases i with
  | zero =>
    obtain rfl : c_chI = d := by simpa using hd
    exact lg_chI s k t F H hlt ht
  | succ i => simp at hd
set_option maxRecDepth 100000 in
theorem in_chP : loopsOf c_chP = [c_chS] := by kernel_rfl
theorem ltCs_good : LoopsGood Try.prog ltCs 1 c_chP := by
  intro i d hd s k t F H hlt ht
  rw [in_chP] at hd
  cases i with
  | zero =>
    obtain rfl : c_chS = d := by simpa using hd
    exact lg_chS s k t F H hlt ht
  | succ i => simp at hd
theorem chn_step {ps st : List Pt} {i : Nat} (hi : i < ps.length) : chn st (ps.drop i) = chn (pushP st (ps.getD i (0, 0))) (ps.drop (i + 1)) := by rw [drop_cons hi (0, 0)]; rfl
theorem chn_end {ps st : List Pt} {i : Nat} (hi : ps.length ≤ i) : chn st (ps.drop i) = st := by rw [List.drop_of_length_le hi]; rfl
set_option maxRecDepth 100000 in
theorem round_chO (ps : List Pt) (hp : allV ps = true) (h : ps.length ≤ 1000) : Round_chO ps := by
  rintro ⟨i, st⟩ ⟨h1, h2, h3⟩
  rw [tr_chO]
  simp only [ptsA_flat, Int.toNat_natCast, Nat.zero_add, flat_get0, flat_get1, flat_length, List.drop_zero, flat_take, flat_snoc]
  refine brT_ok.2 ⟨fun hlt => ?_, fun hge => ?_⟩
  · have hi : i < ps.length := by have := of_decide_eq_true hlt; omega
    have hk : popN st ((ps.getD i (0, 0)).1, (ps.getD i (0, 0)).2) st.length ≤ st.length := popN_le st _ _
    have el : popN st ((ps.getD i (0, 0)).1, (ps.getD i (0, 0)).2) st.length + 1 = (pushP st (ps.getD i (0, 0))).length := (pushP_len1 st _).symm
    refine ⟨by omega, by omega, by first | exact True.intro | rfl, by first | exact True.intro | rfl, by omega, by first | exact True.intro | rfl, h3, allV_at hp hi, by omega, ⟨by omega, by omega⟩, by omega, ?_⟩
    rw [wsucc hi (by omega), el]
    refine ⟨(i + 1, pushP st (ps.getD i (0, 0))), [some 4], ⟨by omega, by omega, allV_push h3 (allV_at hp hi)⟩, ?_, rfl, by simp only [rs_chO, chn_step hi], ?_⟩
    · show ps.length - (i + 1) < ps.length - i; omega
    · repeat' (first | exact True.intro | exact rfl | exact fun _ => rfl | (simp; done) | refine And.intro ?_ ?_)
  · have hge := of_decide_eq_false hge
    refine ⟨rfl, [some 1], ?_⟩
    simp only [rs_chO, chn_end (ps := ps) (st := st) (i := i) (by omega)]
    repeat' (first | exact True.intro | exact rfl | exact fun _ => rfl | (simp; done) | refine And.intro ?_ ?_)
set_option maxRecDepth 100000 in
theorem lg_chO : LoopE Try.prog e_chO c_chO := by
  intro s k t F H hlt ht
  unfold e_chO at hlt
  split at hlt
  rotate_left
  · cases hlt
  rename_i hlen hpick hmem
  obtain ⟨tmps, mem⟩ := s
  simp only at hlen hpick hmem
  subst hmem
  obtain rfl := Option.some.inj hlt
  obtain ⟨⟨rfl, rfl, h1, h2, h3, _⟩, ht2⟩ := needs_ok ht
  clear ht hlt
  obtain ⟨ps, rfl, rfl⟩ := even_flat h1
  rw [ptsA_flat] at ht2 h2
  refine ⟨_, _, ht2, loop_run2 mixed ECh_ok (s_chO ps) (inv_chO ps) (me_chO ps) re_chO (rs_chO ps) k_chO (fun _ => rfl) ltCi_good (round_chO ps h2 h3) (x := (0, [])) ⟨Nat.zero_le _, Nat.le_refl _, rfl⟩ (π := [none]) rfl ?_⟩
  refine ⟨rfl, rfl, ?_, wvs_spread' [3, 7, 8, 9] hlen rfl ?_⟩
  · repeat' (first | exact True.intro | exact rfl | exact wv_top _ _ | exact fun _ => rfl | assumption | exact Eq.symm (by assumption) | exact vI0 rfl | refine And.intro ?_ ?_)
  · rw [hpick]
    repeat' (first | exact True.intro | exact rfl | exact wv_top _ _ | exact fun _ => rfl | assumption | exact Eq.symm (by assumption) | exact vI0 rfl | refine And.intro ?_ ?_)
set_option maxRecDepth 100000 in
theorem round_chP (ps : List Pt) (hp : allV ps = true) (h : ps.length ≤ 1000) : Round_chP ps := by
  rintro ⟨i, st⟩ ⟨h1, h2, h3⟩
  rw [tr_chP]
  simp only [ptsA_flat, Int.toNat_natCast, Nat.zero_add, flat_get0, flat_get1, flat_length, List.drop_zero, flat_take, flat_snoc]
  refine brT_ok.2 ⟨fun hlt => ?_, fun hge => ?_⟩
  · have hi : i < ps.length := by have := of_decide_eq_true hlt; omega
    have hk : popN st (ps.getD i (0, 0)) st.length ≤ st.length := popN_le st _ _
    have el : popN st (ps.getD i (0, 0)) st.length + 1 = (pushP st (ps.getD i (0, 0))).length := (pushP_len1 st _).symm
    refine ⟨by first | exact True.intro | rfl, hp, by omega, by omega, by first | exact True.intro | rfl, h3, by omega, by omega, by omega, ⟨by omega, by omega⟩, by omega, ?_⟩
    rw [wsucc hi (by omega), el]
    refine ⟨(i + 1, pushP st (ps.getD i (0, 0))), [some 4], ⟨by omega, by omega, allV_push h3 (allV_at hp hi)⟩, ?_, rfl, by simp only [rs_chP, chn_step hi], ?_⟩
    · show ps.length - (i + 1) < ps.length - i; omega
    · repeat' (first | exact True.intro | exact rfl | exact fun _ => rfl | (simp; done) | refine And.intro ?_ ?_)
  · have hge := of_decide_eq_false hge
    refine ⟨rfl, [some 2], ?_⟩
    simp only [rs_chP, chn_end (ps := ps) (st := st) (i := i) (by omega)]
    repeat' (first | exact True.intro | exact rfl | exact fun _ => rfl | (simp; done) | refine And.intro ?_ ?_)
set_option maxRecDepth 100000 in
theorem lg_chP : LoopE Try.prog e_chP c_chP := by
  intro s k t F H hlt ht
  unfold e_chP at hlt
  split at hlt
  rotate_left
  · cases hlt
  rename_i hlen hpick hmem
  obtain ⟨tmps, mem⟩ := s
  simp only at hlen hpick hmem
  subst hmem
  obtain rfl := Option.some.inj hlt
  obtain ⟨⟨rfl, rfl, h1, h2, h3, _⟩, ht2⟩ := needs_ok ht
  clear ht hlt
  obtain ⟨ps, rfl, rfl⟩ := even_flat h1
  rw [ptsA_flat] at ht2 h2
  refine ⟨_, _, ht2, loop_run2 mixed ECh_ok (s_chP ps) (inv_chP ps) (me_chP ps) re_chP (rs_chP ps) k_chP (fun _ => rfl) ltCs_good (round_chP ps h2 h3) (x := (0, [])) ⟨Nat.zero_le _, Nat.le_refl _, rfl⟩ (π := [some 1]) rfl ?_⟩
  refine ⟨rfl, rfl, ?_, wvs_spread' [0, 3, 4] hlen rfl ?_⟩
  · repeat' (first | exact True.intro | exact rfl | exact wv_top _ _ | exact fun _ => rfl | assumption | exact Eq.symm (by assumption) | exact vI0 rfl | refine And.intro ?_ ?_)
  · rw [hpick]
    repeat' (first | exact True.intro | exact rfl | exact wv_top _ _ | exact fun _ => rfl | assumption | exact Eq.symm (by assumption) | exact vI0 rfl | refine And.intro ?_ ?_)
theorem Lr_chO {fn : Func} (hf : Try.prog.funcs[59]? = some fn) : LoopsGood Try.prog (lt1 e_chO) 0 (codeOf fn) := by
  obtain rfl := fn_is Try.func59 hf
  exact lt1_good lg_chO
theorem Lr_chP {fn : Func} (hf : Try.prog.funcs[128]? = some fn) : LoopsGood Try.prog (lt1 e_chP) 0 (codeOf fn) := by
  obtain rfl := fn_is Try.func128 hf
  exact lt1_good lg_chP
def LCn : FuncId → LT := fun f => match f with
  | 59 => lt1 e_chO
  | 128 => lt1 e_chP
  | _ => noL
def ECn : Env := mkE TCh RSq LCn
theorem ECn_ok : EnvOk Try.prog ECn := mkEOk TCh_ok RSq_ok (by
  intro f fn hf
  unfold LCn
  split
  all_goals first | with_reducible exact Lr_chO hf | with_reducible exact Lr_chP hf | exact noL_good)
set_option maxRecDepth 100000 in
theorem tr_iCn (ps : List Pt) : bodyX Try.prog ECn 30 12 59 [.row ps.length (.ints (flat ps))] = .need ((0 : Int) = (0 : Int)) (.need ((↑ps.length : Int) = (↑ps.length : Int)) (.need ((flat ps).length = ps.length * (2 : Nat)) (.need (allV (ptsA ps.length (flat ps)) = true) (.need (ps.length ≤ (1000 : Nat)) (.fin (.slice (some ⟨1, 0, none⟩) ((chn [] (ptsA ps.length (flat ps))).length) ((chn [] (ptsA ps.length (flat ps))).length)) [some ⟨.view, .ints (flat ps)⟩, some ⟨.row 44 2, .ints (flat (chn [] (ptsA ps.length (flat ps))))⟩]))))) := by kernel_rfl
set_option maxRecDepth 100000 in
theorem tr_sCn (ps : List Pt) : bodyX Try.prog ECn 30 12 128 [.row ps.length (.ints (flat ps))] = .need ((0 : Int) = (0 : Int)) (.need ((0 : Nat) = (0 : Nat)) (.need ((flat ps).length = ps.length * (2 : Nat)) (.need (allV (ptsA ps.length (flat ps)) = true) (.need (ps.length ≤ (1000 : Nat)) (.fin (.slice (some ⟨2, 0, none⟩) ((chn [] (ptsA ps.length (flat ps))).length) ((chn [] (ptsA ps.length (flat ps))).length)) [some ⟨.view, .ints (flat ps)⟩, some deadB, some ⟨.row 44 2, .ints (flat (chn [] (ptsA ps.length (flat ps))))⟩]))))) := by kernel_rfl
theorem resR_iCn {ps : List Pt} (hv : allV ps = true) (h : ps.length ≤ 1000) : ResR Try.prog 59 [.row ps.length (.ints (flat ps))] (rowP (chn [] ps)) (blkP (chn [] ps)) := by
  refine bodyX_resR mixed ECn_ok (m := 30) (n := 12) rfl ?_
  rw [tr_iCn]
  simp only [ptsA_flat]
  exact ⟨trivial, trivial, flat_length ps, hv, h, some 1, ⟨rfl, rfl, rfl⟩, rfl, rfl, rfl⟩
theorem resR_sCn {ps : List Pt} (hv : allV ps = true) (h : ps.length ≤ 1000) : ResR Try.prog 128 [.row ps.length (.ints (flat ps))] (rowP (chn [] ps)) (blkP (chn [] ps)) := by
  refine bodyX_resR mixed ECn_ok (m := 30) (n := 12) rfl ?_
  rw [tr_sCn]
  simp only [ptsA_flat]
  exact ⟨trivial, trivial, flat_length ps, hv, h, some 2, ⟨rfl, rfl, rfl⟩, rfl, rfl, rfl⟩
end Go.Proofs.Ytolodncpegajkab
namespace Go.Proofs.Ytolodncpegajkab
set_option linter.all false
open Go.RowKit
theorem flatR (o : List Pt) : List.take (o.length * 2) (List.drop 0 (flat o)) = flat o := by rw [List.drop_zero, flat_all]
def ERv : Env := tabE B0
theorem ERv_ok : EnvOk Try.prog ERv := tabE_ok B0_ok
/-- So many are exchanged at both ends. -/
def rvI (ps X : List Pt) (i : Nat) : Prop := X.length = ps.length ∧ ∀ k, k < ps.length → X.getD k (0, 0) = if k < i ∨ ps.length - 1 - k < i then ps.getD (ps.length - 1 - k) (0, 0) else ps.getD k (0, 0)
theorem rv_end {ps X : List Pt} {i : Nat} (h : rvI ps X i) (hi : ps.length ≤ 2 * i + 1) : X = ps.reverse := by
  refine ext_getD (by simp [h.1]) fun k hk => ?_
  rw [h.1] at hk
  rw [h.2 k hk, getD_rev hk]
  split
  · rfl
  · congr 1
    omega
theorem getD_set' (X : List Pt) (i k : Nat) (z : Pt) (h : i < X.length) : (X.set i z).getD k (0, 0) = if k = i then z else X.getD k (0, 0) := by
  simp only [List.getD, List.getElem?_set]
  by_cases e : i = k
  · subst e; simp [h]
  · simp [e, Ne.symm e]
theorem rv_step {ps X : List Pt} {i : Nat} (h : rvI ps X i) (hi : 2 * i + 1 < ps.length) : rvI ps ((X.set i (X.getD (ps.length - 1 - i) (0, 0))).set (ps.length - 1 - i) (X.getD i (0, 0))) (i + 1) := by
  refine ⟨by simp [h.1], fun k hk => ?_⟩
  rw [getD_set' _ _ _ _ (by simp [h.1]; omega), getD_set' _ _ _ _ (by rw [h.1]; omega)]
  have a1 := h.2 i (by omega)
  have a2 := h.2 (ps.length - 1 - i) (by omega)
  rw [if_neg (by omega)] at a1
  rw [if_neg (by omega)] at a2
  by_cases c1 : k = ps.length - 1 - i
  · subst c1
    rw [if_pos rfl, a1, if_pos (by omega)]
    congr 1
    omega
  · rw [if_neg c1]
    by_cases c2 : k = i
    · subst c2
      rw [if_pos rfl, a2, if_pos (by omega)]
    · rw [if_neg c2, h.2 k hk]
      by_cases c3 : k < i ∨ ps.length - 1 - k < i
      · rw [if_pos c3, if_pos (by omega)]
      · rw [if_neg c3, if_neg (by omega)]
noncomputable def c_rvs : Code := ((loopsOf (codeOf Try.f93))[0]?).getD .skip
def k_rvs : Ex → List Nat := keeps [0, 2, 3] [(0, [])] []
def s_rvs (ps : List Pt) : Nat × (List Pt) → St := fun (i, X) => ⟨[.slice (some ⟨0, 0, none⟩) ps.length ps.length, topV, .int .i64 i, .int .i64 ((ps.length : Int) - 1 - i), topV, topV, topV, topV, topV, topV, topV, topV, topV, topV, topV, topV, topV, topV, topV, topV, topV, topV, topV, topV, topV, topV, topV, topV], [some ⟨.row 44 2, .ints (flat X)⟩]⟩
def re_rvs : Nat × (List Pt) → Ex := fun _ => .exit 0
def rs_rvs (ps : List Pt) : Nat × (List Pt) → St := fun (i, X) => ⟨[topV, topV, topV, topV, topV, topV, topV, topV, topV, topV, topV, topV, topV, topV, topV, topV, topV, topV, topV, topV, topV, topV, topV, topV, topV, topV, topV, topV], [some ⟨.row 44 2, .ints (flat (revP ps))⟩]⟩
set_option maxRecDepth 100000 in
theorem tr_rvs (ps : List Pt) (i : Nat) (X : List Pt) : bodyL Try.prog ERv 30 12 noL 1 c_rvs k_rvs 1 (s_rvs ps (i, X)) = brT (decide ((↑i : Int) < (↑ps.length : Int) - 1 - (↑i : Int))) (.need ((0 : Int) ≤ (↑ps.length : Int) - (1 : Int) - (↑i : Int) ∧ (↑ps.length : Int) - (1 : Int) - (↑i : Int) < (↑ps.length : Int)) (.need ((0 : Nat) + ((↑ps.length : Int) - (1 : Int) - (↑i : Int)).toNat * (2 : Nat) + (2 : Nat) ≤ (flat X).length) (.need ((0 : Int) ≤ (↑i : Int) ∧ (↑i : Int) < (↑ps.length : Int)) (.need ((0 : Nat) + (↑i : Int).toNat * (2 : Nat) + (2 : Nat) ≤ (flat X).length) (.need ((0 : Int) ≤ (↑i : Int) ∧ (↑i : Int) < (↑ps.length : Int)) (.need ((0 : Nat) + (↑i : Int).toNat * (2 : Nat) + (2 : Nat) ≤ (flat X).length) (.need ((0 : Int) ≤ (↑ps.length : Int) - (1 : Int) - (↑i : Int) ∧ (↑ps.length : Int) - (1 : Int) - (↑i : Int) < (↑ps.length : Int)) (.need ((0 : Nat) + ((↑ps.length : Int) - (1 : Int) - (↑i : Int)).toNat * (2 : Nat) + (2 : Nat) ≤ (setInts (flat X) ((0 : Nat) + (↑i : Int).toNat * (2 : Nat)) [(flat X).getD ((0 : Nat) + ((↑ps.length : Int) - (1 : Int) - (↑i : Int)).toNat * (2 : Nat)) (0 : Int), (flat X).getD ((0 : Nat) + ((↑ps.length : Int) - (1 : Int) - (↑i : Int)).toNat * (2 : Nat) + (1 : Nat)) (0 : Int)]).length) (.leaf .normal ⟨[.slice (some ⟨0, 0, none⟩) (ps.length) (ps.length), topV, .int .i64 (IntKind.i64.wrap ((↑i : Int) + 1)), .int .i64 (IntKind.i64.wrap ((↑ps.length : Int) - 1 - (↑i : Int) - 1)), topV, topV, topV, topV, topV, topV, topV, topV, topV, topV, topV, topV, topV, topV, topV, topV, topV, topV, topV, topV, topV, topV, topV, topV], [some ⟨.row 44 2, .ints (setInts (setInts (flat X) (0 + (↑i : Int).toNat * 2) [(flat X).getD (0 + ((↑ps.length : Int) - 1 - (↑i : Int)).toNat * 2) 0, (flat X).getD (0 + ((↑ps.length : Int) - 1 - (↑i : Int)).toNat * 2 + 1) 0]) (0 + ((↑ps.length : Int) - 1 - (↑i : Int)).toNat * 2) [(flat X).getD (0 + (↑i : Int).toNat * 2) 0, (flat X).getD (0 + (↑i : Int).toNat * 2 + 1) 0])⟩]⟩))))))))) (.leaf (.exit 0) ⟨[topV, topV, topV, topV, topV, topV, topV, topV, topV, topV, topV, topV, topV, topV, topV, topV, topV, topV, topV, topV, topV, topV, topV, topV, topV, topV, topV, topV], [some ⟨.row 44 2, .ints (flat X)⟩]⟩) := by kernel_rfl
set_option maxRecDepth 100000 in
theorem nl_rvs : loopsOf c_rvs = [] := by kernel_rfl
def inv_rvs (ps : List Pt) : Nat × (List Pt) → Prop := fun (i, X) => 2 * i ≤ ps.length + 1 ∧ rvI ps X i
def me_rvs (ps : List Pt) : Nat × (List Pt) → Nat := fun (i, X) => ps.length + 1 - i
/-- A round of this loop. -/
def Round_rvs (ps : List Pt) : Prop := ∀ xx : Nat × (List Pt), inv_rvs ps xx → (bodyL Try.prog ERv 30 12 noL 1 c_rvs k_rvs 1 (s_rvs ps xx)).ok (RoundEnd 1 (s_rvs ps) (inv_rvs ps) (me_rvs ps) re_rvs (rs_rvs ps) xx) (fun _ _ => False)
def e_rvs (s : St) (k : Ex → St → Tree) : Option Tree := match Nat.beq s.tmps.length 28, pickL s.tmps [0, 2, 3], s.mem with
  | true, [.slice (some ⟨0, 0, none⟩) n _, .int .i64 i0, .int .i64 j0], [some ⟨.row 44 2, .ints xs⟩] => some (needs [i0 = 0, j0 = (n : Int) - 1 - (0 : Nat), xs.length = n * 2, n ≤ 1000000000] (k (.exit 0) ⟨[topV, topV, topV, topV, topV, topV, topV, topV, topV, topV, topV, topV, topV, topV, topV, topV, topV, topV, topV, topV, topV, topV, topV, topV, topV, topV, topV, topV], [some ⟨.row 44 2, .ints (flat (revP (ptsA n xs)))⟩]⟩))
  | _, _, _ => none
noncomputable def c_rvd : Code := ((loopsOf (codeOf Try.f129))[0]?).getD .skip
def k_rvd : Ex → List Nat := keeps [0, 3, 4] [(0, [3])] [2]
def s_rvd (ps : List Pt) : Nat × (List Pt) → St := fun (m, o) => ⟨[.slice (some ⟨0, 0, none⟩) ps.length ps.length, topV, topV, .slice (some ⟨2, 0, none⟩) o.length o.length, .int .i64 ((m : Int) - 1), topV, topV, topV, topV, topV, topV, topV, topV, topV, topV, topV, topV, topV, topV, topV, topV], [some ⟨.view, .ints (flat ps)⟩, some ⟨.dead, .vals []⟩, some ⟨.row 44 2, .ints (flat o)⟩]⟩
def re_rvd : Nat × (List Pt) → Ex := fun _ => .exit 0
def rs_rvd (ps : List Pt) : Nat × (List Pt) → St := fun (m, o) => ⟨[topV, topV, topV, .slice (some ⟨2, 0, none⟩) (revP ps).length (revP ps).length, topV, topV, topV, topV, topV, topV, topV, topV, topV, topV, topV, topV, topV, topV, topV, topV, topV], [some ⟨.view, .ints (flat ps)⟩, some ⟨.dead, .vals []⟩, some ⟨.row 44 2, .ints (flat (revP ps))⟩]⟩
set_option maxRecDepth 100000 in
theorem tr_rvd (ps : List Pt) (m : Nat) (o : List Pt) : bodyL Try.prog ERv 30 12 noL 1 c_rvd k_rvd 16 (s_rvd ps (m, o)) = brT (decide (0 ≤ (↑m : Int) - 1)) (.need ((0 : Int) ≤ (↑m : Int) - (1 : Int) ∧ (↑m : Int) - (1 : Int) < (↑ps.length : Int)) (.need ((0 : Nat) + ((↑m : Int) - (1 : Int)).toNat * (2 : Nat) + (2 : Nat) ≤ (flat ps).length) (.need ((o.length + (1 : Nat)) * (16 : Nat) ≤ (140737488355328 : Nat) ∧ o.length + (1 : Nat) ≤ (1000000 : Nat)) (.need ((0 : Nat) + o.length * (2 : Nat) ≤ (flat o).length) (.leaf .normal ⟨[.slice (some ⟨0, 0, none⟩) (ps.length) (ps.length), topV, topV, .slice (some ⟨4, 0, none⟩) (o.length + 1) (o.length + 1), .int .i64 (IntKind.i64.wrap ((↑m : Int) - 1 - 1)), topV, topV, topV, topV, topV, topV, topV, topV, topV, topV, topV, topV, topV, topV, topV, topV], [some ⟨.view, .ints (flat ps)⟩, some deadB, some deadB, some ⟨.row 44 2, .vals [.int .i64 ((flat ps).getD (0 + ((↑m : Int) - 1).toNat * 2) 0), .int .i64 ((flat ps).getD (0 + ((↑m : Int) - 1).toNat * 2 + 1) 0)]⟩, some ⟨.row 44 2, .ints (List.take (o.length * 2) (List.drop 0 (flat o)) ++ [(flat ps).getD (0 + ((↑m : Int) - 1).toNat * 2) 0, (flat ps).getD (0 + ((↑m : Int) - 1).toNat * 2 + 1) 0])⟩]⟩))))) (.leaf (.exit 0) ⟨[topV, topV, topV, .slice (some ⟨2, 0, none⟩) (o.length) (o.length), topV, topV, topV, topV, topV, topV, topV, topV, topV, topV, topV, topV, topV, topV, topV, topV, topV], [some ⟨.view, .ints (flat ps)⟩, some deadB, some ⟨.row 44 2, .ints (flat o)⟩]⟩) := by kernel_rfl
set_option maxRecDepth 100000 in
theorem nl_rvd : loopsOf c_rvd = [] := by kernel_rfl
def inv_rvd (ps : List Pt) : Nat × (List Pt) → Prop := fun (m, o) => m ≤ ps.length ∧ o = (ps.drop m).reverse
def me_rvd (ps : List Pt) : Nat × (List Pt) → Nat := fun (m, o) => m
/-- A round of this loop. -/
def Round_rvd (ps : List Pt) : Prop := ∀ xx : Nat × (List Pt), inv_rvd ps xx → (bodyL Try.prog ERv 30 12 noL 1 c_rvd k_rvd 16 (s_rvd ps xx)).ok (RoundEnd 2 (s_rvd ps) (inv_rvd ps) (me_rvd ps) re_rvd (rs_rvd ps) xx) (fun _ _ => False)
def e_rvd (s : St) (k : Ex → St → Tree) : Option Tree := match Nat.beq s.tmps.length 21, pickL s.tmps [0, 3, 4], s.mem with
  | true, [.slice (some ⟨0, 0, none⟩) n _, .slice (some ⟨1, 0, none⟩) z _, .int .i64 i0], [some ⟨.view, .ints xs⟩, some ⟨.row 44 2, .vals []⟩] => some (needs [i0 = (n : Int) - 1, z = 0, xs.length = n * 2, n ≤ 100000] (k (.exit 0) ⟨[topV, topV, topV, .slice (some ⟨2, 0, none⟩) (revP (ptsA n xs)).length (revP (ptsA n xs)).length, topV, topV, topV, topV, topV, topV, topV, topV, topV, topV, topV, topV, topV, topV, topV, topV, topV], [some ⟨.view, .ints xs⟩, some ⟨.dead, .vals []⟩, some ⟨.row 44 2, .ints (flat (revP (ptsA n xs)))⟩]⟩))
  | _, _, _ => none
set_option maxRecDepth 100000 in
theorem round_rvs (ps : List Pt) (h : ps.length ≤ 1000000000) : Round_rvs ps := by
  rintro ⟨i, X⟩ ⟨h1, h2⟩
  rw [tr_rvs]
  have hl := h2.1
  refine brT_ok.2 ⟨fun hlt => ?_, fun hge => ?_⟩
  · have hlt := of_decide_eq_true hlt
    have hi : 2 * i + 1 < ps.length := by omega
    have j1 : ((ps.length : Int) - 1 - (i : Int)).toNat = ps.length - 1 - i := by omega
    have w : IntKind.i64.wrap ((ps.length : Int) - 1 - (i : Int) - 1) = (ps.length : Int) - 1 - ((i + 1 : Nat) : Int) := by rw [wr (by omega)]; omega
    have f1 := flat_set X i (by omega) (X.getD (ps.length - 1 - i) (0, 0)).1 (X.getD (ps.length - 1 - i) (0, 0)).2
    have f2 := flat_set (X.set i ((X.getD (ps.length - 1 - i) (0, 0)).1, (X.getD (ps.length - 1 - i) (0, 0)).2)) (ps.length - 1 - i) (by rw [List.length_set]; omega) (X.getD i (0, 0)).1 (X.getD i (0, 0)).2
    simp only [j1, w, Int.toNat_natCast, Nat.zero_add, flat_get0, flat_get1, f1]
    simp only [f2, flat_length, List.length_set, wsucc (n := ps.length) (i := i) (by omega) h]
    refine ⟨by omega, by omega, by omega, by omega, by omega, by omega, by omega, by omega, ?_⟩
    refine ⟨(i + 1, (X.set i (X.getD (ps.length - 1 - i) (0, 0))).set (ps.length - 1 - i) (X.getD i (0, 0))), [], ⟨by omega, rv_step h2 hi⟩, ?_, rfl, by simp only [rs_rvs], ?_⟩
    · show ps.length + 1 - (i + 1) < ps.length + 1 - i; omega
    · repeat' (first | exact True.intro | exact rfl | exact fun _ => rfl | (simp; done) | refine And.intro ?_ ?_)
  · have hge := of_decide_eq_false hge
    obtain rfl := rv_end h2 (by omega)
    refine ⟨rfl, [], ?_⟩
    simp only [rs_rvs, revP]
    repeat' (first | exact True.intro | exact rfl | exact fun _ => rfl | (simp; done) | refine And.intro ?_ ?_)
set_option maxRecDepth 100000 in
theorem lg_rvs : LoopE Try.prog e_rvs c_rvs := by
  intro s k t F H hlt ht
  unfold e_rvs at hlt
  split at hlt
  rotate_left
  · cases hlt
  rename_i hlen hpick hmem
  obtain ⟨tmps, mem⟩ := s
  simp only at hlen hpick hmem
  subst hmem
  obtain rfl := Option.some.inj hlt
  obtain ⟨⟨rfl, rfl, h1, h2, _⟩, ht2⟩ := needs_ok ht
  clear ht hlt
  obtain ⟨ps, rfl, rfl⟩ := even_flat h1
  rw [ptsA_flat] at ht2
  refine ⟨_, _, ht2, loop_run mixed ERv_ok (s_rvs ps) (inv_rvs ps) (me_rvs ps) re_rvs (rs_rvs ps) k_rvs (fun _ => rfl) (noLoops nl_rvs) (round_rvs ps h2) (x := (0, ps)) ⟨by omega, rfl, fun k hk => by rw [if_neg (by omega)]⟩ (π := []) rfl ?_⟩
  refine ⟨rfl, rfl, ?_, wvs_spread' [0, 2, 3] hlen rfl ?_⟩
  · repeat' (first | exact True.intro | exact rfl | exact wv_top _ _ | exact fun _ => rfl | assumption | exact Eq.symm (by assumption) | exact vI0 rfl | refine And.intro ?_ ?_)
  · rw [hpick]
    repeat' (first | exact True.intro | exact rfl | exact wv_top _ _ | exact fun _ => rfl | assumption | exact Eq.symm (by assumption) | exact vI0 rfl | refine And.intro ?_ ?_)
theorem rvd_step {ps : List Pt} {m : Nat} (h : m < ps.length) : (ps.drop (m + 1)).reverse ++ [ps.getD m (0, 0)] = (ps.drop m).reverse := by
  rw [drop_cons h (0, 0), List.reverse_cons]
set_option maxRecDepth 100000 in
theorem round_rvd (ps : List Pt) (h : ps.length ≤ 100000) : Round_rvd ps := by
  rintro ⟨m, o⟩ ⟨h1, rfl⟩
  rw [tr_rvd]
  have hl : (ps.drop m).reverse.length = ps.length - m := by simp
  refine brT_ok.2 ⟨fun hlt => ?_, fun hge => ?_⟩
  · have hlt := of_decide_eq_true hlt
    obtain ⟨m, rfl⟩ : ∃ k, m = k + 1 := ⟨m - 1, by omega⟩
    have j1 : (((m + 1 : Nat) : Int) - 1).toNat = m := by omega
    have w : IntKind.i64.wrap (((m + 1 : Nat) : Int) - 1 - 1) = (m : Int) - 1 := by rw [wr (by omega)]; omega
    have hs := rvd_step (ps := ps) (m := m) (by omega)
    have fs : flat (ps.drop (m + 1)).reverse ++ [(ps.getD m (0, 0)).1, (ps.getD m (0, 0)).2] = flat (ps.drop m).reverse := by
      rw [flat_snoc, ← hs]
    simp only [j1, w, Nat.zero_add, flat_get0, flat_get1, flat_length, flatR, fs]
    refine ⟨by omega, by omega, ⟨by omega, by omega⟩, by omega, (m, (ps.drop m).reverse), [some 4], ⟨by omega, rfl⟩, ?_, rfl, by simp only [rs_rvd], ?_⟩
    · show m < m + 1; omega
    · have e : (ps.drop (m + 1)).reverse.length + 1 = (ps.drop m).reverse.length := by rw [← hs]; simp
      rw [e]
      repeat' (first | exact True.intro | exact rfl | exact fun _ => rfl | (simp; done) | refine And.intro ?_ ?_)
  · have hge := of_decide_eq_false hge
    obtain rfl : m = 0 := by omega
    refine ⟨rfl, [some 2], ?_⟩
    simp only [rs_rvd, revP, List.drop_zero]
    repeat' (first | exact True.intro | exact rfl | exact fun _ => rfl | (simp; done) | refine And.intro ?_ ?_)
set_option maxRecDepth 100000 in
theorem lg_rvd : LoopE Try.prog e_rvd c_rvd := by
  intro s k t F H hlt ht
  unfold e_rvd at hlt
  split at hlt
  rotate_left
  · cases hlt
  rename_i hlen hpick hmem
  obtain ⟨tmps, mem⟩ := s
  simp only at hlen hpick hmem
  subst hmem
  obtain rfl := Option.some.inj hlt
  obtain ⟨⟨rfl, rfl, h1, h3, _⟩, ht2⟩ := needs_ok ht
  clear ht hlt
  obtain ⟨ps, rfl, rfl⟩ := even_flat h1
  rw [ptsA_flat] at ht2
  refine ⟨_, _, ht2, loop_run2 mixed ERv_ok (s_rvd ps) (inv_rvd ps) (me_rvd ps) re_rvd (rs_rvd ps) k_rvd (fun _ => rfl) (noLoops nl_rvd) (round_rvd ps h3) (x := (ps.length, [])) ⟨Nat.le_refl _, by rw [List.drop_length]; rfl⟩ (π := [some 1]) rfl ?_⟩
  refine ⟨rfl, rfl, ?_, wvs_spread' [0, 3, 4] hlen rfl ?_⟩
  · repeat' (first | exact True.intro | exact rfl | exact wv_top _ _ | exact fun _ => rfl | assumption | exact Eq.symm (by assumption) | exact vI0 rfl | refine And.intro ?_ ?_)
  · rw [hpick]
    repeat' (first | exact True.intro | exact rfl | exact wv_top _ _ | exact fun _ => rfl | assumption | exact Eq.symm (by assumption) | exact vI0 rfl | refine And.intro ?_ ?_)
theorem Lr_rvs {fn : Func} (hf : Try.prog.funcs[93]? = some fn) : LoopsGood Try.prog (lt1 e_rvs) 0 (codeOf fn) := by
  obtain rfl := fn_is Try.func93 hf
  exact lt1_good lg_rvs
theorem Lr_rvd {fn : Func} (hf : Try.prog.funcs[129]? = some fn) : LoopsGood Try.prog (lt1 e_rvd) 0 (codeOf fn) := by
  obtain rfl := fn_is Try.func129 hf
  exact lt1_good lg_rvd
def LRv : FuncId → LT := fun f => match f with
  | 93 => lt1 e_rvs
  | 129 => lt1 e_rvd
  | _ => noL
def ERw : Env := mkE B0 (fun _ _ => none) LRv
theorem ERw_ok : EnvOk Try.prog ERw := mkEOk B0_ok (fun _ _ _ _ _ h => (by cases h)) (by
  intro f fn hf
  unfold LRv
  split
  all_goals first | with_reducible exact Lr_rvs hf | with_reducible exact Lr_rvd hf | exact noL_good)
set_option maxRecDepth 100000 in
theorem tr_rvF (ps : List Pt) : bodyM Try.prog ERw (runM Try.prog ERw 30 12) 30 93 [.slice (some ⟨0, 0, none⟩) ps.length ps.length] [some ⟨.row 44 2, .ints (flat ps)⟩] .fin = .need ((0 : Int) = (0 : Int)) (.need (IntKind.i64.wrap ((↑ps.length : Int) - (1 : Int)) = (↑ps.length : Int) - (1 : Int) - (↑(0 : Nat) : Int)) (.need ((flat ps).length = ps.length * (2 : Nat)) (.need (ps.length ≤ (1000000000 : Nat)) (.fin (.tuple #[]) [some ⟨.row 44 2, .ints (flat (revP (ptsA ps.length (flat ps))))⟩])))) := by kernel_rfl
set_option maxRecDepth 100000 in
theorem tr_rdF (ps : List Pt) : bodyX Try.prog ERw 30 12 129 [.row ps.length (.ints (flat ps))] = .need (IntKind.i64.wrap ((↑ps.length : Int) - (1 : Int)) = (↑ps.length : Int) - (1 : Int)) (.need ((0 : Nat) = (0 : Nat)) (.need ((flat ps).length = ps.length * (2 : Nat)) (.need (ps.length ≤ (100000 : Nat)) (.fin (.slice (some ⟨2, 0, none⟩) ((revP (ptsA ps.length (flat ps))).length) ((revP (ptsA ps.length (flat ps))).length)) [some ⟨.view, .ints (flat ps)⟩, some deadB, some ⟨.row 44 2, .ints (flat (revP (ptsA ps.length (flat ps))))⟩])))) := by kernel_rfl
def rvW : WSpec := fun e sz l xs rest => match Nat.beq e 44 && Nat.beq sz 2, rest with
  | true, [] => some (.tuple #[], flat (revP (ptsA l xs)), [xs.length = l * 2, l ≤ 1000000000])
  | _, _ => none
theorem rvW_ok : WSpecOk Try.prog 93 rvW := by
  intro e sz l xs rest v ys C h hC
  unfold rvW at h
  split at h
  rotate_left
  · cases h
  rename_i he
  simp only [Bool.and_eq_true] at he
  obtain rfl := Nat.eq_of_beq_eq_true he.1
  obtain rfl := Nat.eq_of_beq_eq_true he.2
  obtain ⟨rfl, rfl, rfl⟩ : Value.tuple #[] = v ∧ flat (revP (ptsA l xs)) = ys ∧ [xs.length = l * 2, l ≤ 1000000000] = C := by simpa using h
  obtain ⟨h1, h2, _⟩ := hC
  obtain ⟨ps, rfl, rfl⟩ := even_flat h1
  refine ⟨ERw, 30, 12, ERw_ok, rfl, ?_⟩
  rw [tr_rvF]
  simp only [ptsA_flat]
  exact ⟨trivial, by rw [wr (by omega)]; omega, flat_length ps, h2, rfl, _, rfl, rfl, rfl⟩
theorem resR_rvd {ps : List Pt} (h : ps.length ≤ 100000) : ResR Try.prog 129 [.row ps.length (.ints (flat ps))] (rowP (revP ps)) (blkP (revP ps)) := by
  refine bodyX_resR mixed ERw_ok (m := 30) (n := 12) rfl ?_
  rw [tr_rdF]
  simp only [ptsA_flat]
  exact ⟨by rw [wr (by omega)], trivial, flat_length ps, h, some 2, ⟨rfl, rfl, rfl⟩, rfl, rfl, rfl⟩
end Go.Proofs.Ytolodncpegajkab
