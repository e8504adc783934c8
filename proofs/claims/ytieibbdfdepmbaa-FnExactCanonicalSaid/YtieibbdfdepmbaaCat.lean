/-
  slices.Concat of two slices of points, as an operation. Written by an AI agent.
-/
import Derived.Test.YtieibbdfdepmbaaGrw
import Derived.Test.YtieibbdfdepmbaaSpt
namespace Go.Proofs.Ytieibbdfdepmbaa
set_option linter.all false
open Go.RowKit

def RGw : TabR := fun f ds => match f, ds with
  | 104, [.v (.slice none 0 0), .v (.int .i64 n)] => some (.slice (some ⟨0, 0, none⟩) 0 0, ⟨.row 32 2, .ints []⟩, [0 < n ∧ n ≤ 1000])
  | _, _ => none
theorem RGw_ok : TabROk Try.prog RGw := by
  intro f ds v b C h hC
  unfold RGw at h
  split at h
  · obtain ⟨rfl, rfl, rfl⟩ : _ ∧ _ ∧ _ := by simpa using h
    exact resR_grw _ hC.1
  · cases h
def ECt : Env := mkE B0 RGw (fun _ => noL)
theorem ECt_ok : EnvOk Try.prog ECt := mkEOk B0_ok RGw_ok (fun _ _ _ => noL_good)
set_option maxRecDepth 100000 in
theorem tr_cat (l1 l2 : Nat) (y1 y2 : List Int) : bodyM Try.prog ECt (runM Try.prog ECt 30 12) 30 70 [.slice (some ⟨2, 0, none⟩) 2 2] [some ⟨.view, .ints y1⟩, some ⟨.view, .ints y2⟩, some ⟨.view, .vals [.slice (some ⟨0, 0, none⟩) l1 l1, .slice (some ⟨1, 0, none⟩) l2 l2]⟩] .fin = .need ((0 : Int) ≤ (0 : Int) ∧ (0 : Int) < (↑(2 : Nat) : Int)) (brT (decide (IntKind.i64.wrap (0 + (↑l1 : Int)) < 0)) (.bad) (.need ((0 : Int) ≤ IntKind.i64.wrap ((0 : Int) + (1 : Int)) ∧ IntKind.i64.wrap ((0 : Int) + (1 : Int)) < (↑(2 : Nat) : Int)) (brT (decide (IntKind.i64.wrap (IntKind.i64.wrap (0 + (↑l1 : Int)) + (↑l2 : Int)) < 0)) (.bad) (.need ((0 : Int) < IntKind.i64.wrap (IntKind.i64.wrap ((0 : Int) + (↑l1 : Int)) + (↑l2 : Int)) ∧ IntKind.i64.wrap (IntKind.i64.wrap ((0 : Int) + (↑l1 : Int)) + (↑l2 : Int)) ≤ (1000 : Int)) (.need ((0 : Int) ≤ (0 : Int) ∧ (0 : Int) < (↑(2 : Nat) : Int)) (.need (((0 : Nat) + (l1, Cs.ints (List.take (l1 * Try.prog.types[(32 : Nat)].size) (List.drop (0 : Nat) y1)), [(0 : Nat) + l1 * Try.prog.types[(32 : Nat)].size ≤ y1.length]).fst) * (16 : Nat) ≤ (140737488355328 : Nat) ∧ (0 : Nat) + (l1, Cs.ints (List.take (l1 * Try.prog.types[(32 : Nat)].size) (List.drop (0 : Nat) y1)), [(0 : Nat) + l1 * Try.prog.types[(32 : Nat)].size ≤ y1.length]).fst ≤ (1000000 : Nat)) (.need ((0 : Nat) + l1 * (2 : Nat) ≤ y1.length) (.need ((0 : Nat) ≤ (0 : Nat)) (.need ((0 : Int) ≤ IntKind.i64.wrap ((0 : Int) + (1 : Int)) ∧ IntKind.i64.wrap ((0 : Int) + (1 : Int)) < (↑(2 : Nat) : Int)) (.need (((0 : Nat) + (l1, Cs.ints (List.take (l1 * Try.prog.types[(32 : Nat)].size) (List.drop (0 : Nat) y1)), [(0 : Nat) + l1 * Try.prog.types[(32 : Nat)].size ≤ y1.length]).fst + (l2, Cs.ints (List.take (l2 * Try.prog.types[(32 : Nat)].size) (List.drop (0 : Nat) y2)), [(0 : Nat) + l2 * Try.prog.types[(32 : Nat)].size ≤ y2.length]).fst) * (16 : Nat) ≤ (140737488355328 : Nat) ∧ (0 : Nat) + (l1, Cs.ints (List.take (l1 * Try.prog.types[(32 : Nat)].size) (List.drop (0 : Nat) y1)), [(0 : Nat) + l1 * Try.prog.types[(32 : Nat)].size ≤ y1.length]).fst + (l2, Cs.ints (List.take (l2 * Try.prog.types[(32 : Nat)].size) (List.drop (0 : Nat) y2)), [(0 : Nat) + l2 * Try.prog.types[(32 : Nat)].size ≤ y2.length]).fst ≤ (1000000 : Nat)) (.need ((0 : Nat) + l2 * (2 : Nat) ≤ y2.length) (.need ((0 : Nat) + ((0 : Nat) + (l1, Cs.ints (List.take (l1 * Try.prog.types[(32 : Nat)].size) (List.drop (0 : Nat) y1)), [(0 : Nat) + l1 * Try.prog.types[(32 : Nat)].size ≤ y1.length]).fst) * (2 : Nat) ≤ (List.take (0 : Nat) (List.drop (0 : Nat) []) ++ List.take (l1 * (2 : Nat)) (List.drop (0 : Nat) y1)).length) (.fin (.slice (some ⟨5, 0, none⟩) (0 + (l1, Cs.ints (List.take (l1 * Try.prog.types[32].size) (List.drop 0 y1)), [0 + l1 * Try.prog.types[32].size ≤ y1.length]).fst + (l2, Cs.ints (List.take (l2 * Try.prog.types[32].size) (List.drop 0 y2)), [0 + l2 * Try.prog.types[32].size ≤ y2.length]).fst) (0 + (l1, Cs.ints (List.take (l1 * Try.prog.types[32].size) (List.drop 0 y1)), [0 + l1 * Try.prog.types[32].size ≤ y1.length]).fst + (l2, Cs.ints (List.take (l2 * Try.prog.types[32].size) (List.drop 0 y2)), [0 + l2 * Try.prog.types[32].size ≤ y2.length]).fst)) [some ⟨.view, .ints (y1)⟩, some ⟨.view, .ints (y2)⟩, some ⟨.view, .vals [.slice (some ⟨0, 0, none⟩) (l1) (l1), .slice (some ⟨1, 0, none⟩) (l2) (l2)]⟩, some deadB, some deadB, some ⟨.row 32 2, .ints (List.take ((0 + (l1, Cs.ints (List.take (l1 * Try.prog.types[32].size) (List.drop 0 y1)), [0 + l1 * Try.prog.types[32].size ≤ y1.length]).fst) * 2) (List.drop 0 (List.take 0 (List.drop 0 []) ++ List.take (l1 * 2) (List.drop 0 y1))) ++ List.take (l2 * 2) (List.drop 0 y2))⟩]))))))))))))) := by kernel_rfl
/-- A view of two slices, beside what they are of. -/
theorem two_open {w : World} {l1 l2 : Nat} {y1 y2 : List Int} {x1 x2 : Value} (h1 : DOk w (.row l1 (.ints y1)) x1) (h2 : DOk w (.row l2 (.ints y2)) x2) {g f : Nat} (hg : g < w.heap.size) (c1 : w.cell? ⟨g, f, none⟩ = some x1) (c2 : w.cell? ⟨g, f + 1, none⟩ = some x2) (B : Nat → Prop) :
    ∃ ρ : Nat → Option Pl, ρ 2 = some (g, f, none) ∧ MemOk (fun _ => none) ρ B (fun n => [some (⟨.view, .ints y1⟩ : Blk), some ⟨.view, .ints y2⟩, some ⟨.view, .vals [.slice (some ⟨0, 0, none⟩) l1 l1, .slice (some ⟨1, 0, none⟩) l2 l2]⟩].getD n none) w := by
  obtain ⟨ρ, ha, hm⟩ := args_open (w := w) (ds := [.row l1 (.ints y1), .row l2 (.ints y2)]) (args := #[x1, x2]) ⟨rfl, fun i d y hd hy => by
    match i, hd, hy with
    | 0, hd, hy =>
      obtain rfl : DArg.row l1 (.ints y1) = d := by simpa using hd
      obtain rfl : x1 = y := by simpa using hy
      exact h1
    | 1, hd, hy =>
      obtain rfl : DArg.row l2 (.ints y2) = d := by simpa using hd
      obtain rfl : x2 = y := by simpa using hy
      exact h2
    | i + 2, hd, hy => simp at hd⟩ B
  have hn : ρ 2 = none := hm.fresh 2 rfl
  have v0 : VR ρ (.slice (some ⟨0, 0, none⟩) l1 l1) x1 := ha.2 0 _ _ rfl rfl
  have v1 : VR ρ (.slice (some ⟨1, 0, none⟩) l2 l2) x2 := ha.2 1 _ _ rfl rfl
  have hext : Ext ρ (addPl ρ 2 (g, f, none)) := addPl_ext hn
  refine ⟨addPl ρ 2 (g, f, none), addPl_same _ _ _, fun n p hp => by simp at hp, fun n hn' => ?_, fun n b hb => ?_, fun n n' b b' p p' hb hown => ?_⟩
  · have h3 : 3 ≤ n := by
      rcases Nat.lt_or_ge n 3 with h | h
      · match n, h with
        | 0, _ => simp at hn'
        | 1, _ => simp at hn'
        | 2, _ => simp at hn'
      · exact h
    rw [addPl_ne (by omega)]
    refine hm.fresh n ?_
    match n, h3 with
    | n + 3, _ => rfl
  · match n, hb with
    | 0, hb =>
      obtain rfl : (⟨.view, .ints y1⟩ : Blk) = b := by simpa using hb
      exact (hm.ok 0 _ rfl).keep hext (Nat.le_refl _) fun _ _ _ _ => rfl
    | 1, hb =>
      obtain rfl : (⟨.view, .ints y2⟩ : Blk) = b := by simpa using hb
      exact (hm.ok 1 _ rfl).keep hext (Nat.le_refl _) fun _ _ _ _ => rfl
    | 2, hb =>
      obtain rfl : (⟨.view, .vals [.slice (some ⟨0, 0, none⟩) l1 l1, .slice (some ⟨1, 0, none⟩) l2 l2]⟩ : Blk) = b := by simpa using hb
      refine .inr ⟨g, f, none, addPl_same _ _ _, .inr rfl, hg, fun k v hk => ?_⟩
      match k, hk with
      | 0, hk =>
        obtain rfl : Value.slice (some ⟨0, 0, none⟩) l1 l1 = v := by simpa [Blk.cells, Cs.list] using hk
        exact ⟨x1, c1, v0.ext hext⟩
      | 1, hk =>
        obtain rfl : Value.slice (some ⟨1, 0, none⟩) l2 l2 = v := by simpa [Blk.cells, Cs.list] using hk
        exact ⟨x2, c2, v1.ext hext⟩
      | k + 2, hk => simp [Blk.cells, Cs.list] at hk
    | n + 3, hb => simp at hb
  · exfalso
    match n, hb with
    | 0, hb =>
      obtain rfl : (⟨.view, .ints y1⟩ : Blk) = b := by simpa using hb
      cases hown
    | 1, hb =>
      obtain rfl : (⟨.view, .ints y2⟩ : Blk) = b := by simpa using hb
      cases hown
    | 2, hb =>
      obtain rfl : (⟨.view, .vals [.slice (some ⟨0, 0, none⟩) l1 l1, .slice (some ⟨1, 0, none⟩) l2 l2]⟩ : Blk) = b := by simpa using hb
      cases hown
    | n + 3, hb => simp at hb
/-- A function of a row of two slices that answers with a fresh row. -/
theorem two_call {P : Program} (hm : P.follows .mixedOrders = true) {E : Env} (hE : EnvOk P E) {m n : Nat} {f : FuncId} {l1 l2 : Nat} {y1 y2 : List Int} {v : Value} {b : Blk} (hb : isRow b = true)
    (h : (bodyM P E (runM P E m n) m f [.slice (some ⟨2, 0, none⟩) 2 2] [some ⟨.view, .ints y1⟩, some ⟨.view, .ints y2⟩, some ⟨.view, .vals [.slice (some ⟨0, 0, none⟩) l1 l1, .slice (some ⟨1, 0, none⟩) l2 l2]⟩] .fin).ok (fun _ _ => False) (fun u mem => RowIs v b u mem))
    (w : World) {x1 x2 : Value} (h1 : DOk w (.row l1 (.ints y1)) x1) (h2 : DOk w (.row l2 (.ints y2)) x2) {g fo c : Nat} (hg : g < w.heap.size) (c1 : w.cell? ⟨g, fo, none⟩ = some x1) (c2 : w.cell? ⟨g, fo + 1, none⟩ = some x2) (hc : 2 ≤ c) :
    Calls P f #[.slice (some ⟨g, fo, none⟩) 2 c] w fun e w' => ∃ v' p, e = .returned v' ∧ Below w.heap.size w w' ∧ ∀ ρ name, ρ name = some p → VR ρ (atName name v) v' ∧ BlkOk ρ (fun k => k < w.heap.size) w' name b := by
  obtain ⟨u, mem', ⟨src, hrv, hsrc⟩, hent, hdet⟩ := bodyM_ok hE hm (runM_ok hm hE m n) m f _ _ _ _ _ h
  obtain ⟨kd, cs⟩ := b
  cases kd with
  | row e sz =>
    obtain ⟨ρ, hρ, hmem⟩ := two_open h1 h2 hg c1 c2 (fun k => k < w.heap.size)
    refine (hdet ⟨w, fun _ => none, fun k => k < w.heap.size, fun _ h => h, [], none⟩ ρ #[.slice (some ⟨g, fo, none⟩) 2 c] w ⟨rfl, fun i a x ha hx => ?_⟩ hmem (BelowK.refl _ _)).mono ?_
    · match i, ha, hx with
      | 0, ha, hx =>
        obtain rfl : Value.slice (some ⟨2, 0, none⟩) 2 2 = a := by simpa using ha
        obtain rfl : Value.slice (some ⟨g, fo, none⟩) 2 c = x := by simpa using hx
        exact .slice (o := 0) hρ (.inr rfl) hc (fun k hk => by simp at hk)
      | i + 1, ha, hx => simp at ha
    rintro e' w' ⟨v', ρ', rfl, _, g2, g3, g4⟩
    cases src with
    | none => exact ⟨v', (0, 1, some 0), rfl, g3.to, fun ρ2 name hp => ⟨rv_ok (ρ := ρ') (src := none) hp hrv g2, .inl ⟨_, hp, rfl, rfl⟩⟩⟩
    | some k =>
      simp only at hsrc
      split at hsrc
      rotate_left
      · exact hsrc.elim
      rename_i b' hb'
      obtain ⟨kd', cs'⟩ := b'
      cases kd' with
      | row e2 sz2 =>
        obtain ⟨rfl, rfl, hc⟩ := hsrc
        obtain ⟨d1, d2⟩ := rc_list hc
        rcases g4.ok k _ hb' with ⟨p, h1, h2, h3⟩ | ⟨g, cap, h1, h2, arr, h3, h4, h5⟩
        · exact ⟨v', p, rfl, g3.to, fun ρ2 name hp => ⟨rv_ok (ρ := ρ') (src := some k) (hp.trans h1.symm) hrv g2, .inl ⟨p, hp, h2, h3⟩⟩⟩
        · refine ⟨v', _, rfl, g3.to, fun ρ2 name hp => ⟨rv_ok (ρ := ρ') (src := some k) (hp.trans h1.symm) hrv g2, .inr ⟨g, cap, hp, h2, arr, h3, h4, ?_⟩⟩⟩
          intro i x hx
          obtain ⟨x', k1, k2⟩ := h5 i x (by show cs'.list[i]? = some x; rw [d1]; exact hx)
          refine ⟨x', k1, ?_⟩
          have hat := plain_of_atom (d2 x (List.mem_of_getElem? hx))
          rw [k2.plain hat]
          exact .lit hat
      | _ => exact hsrc.elim
  | _ => cases hb
abbrev catB (l1 l2 : Nat) (y1 y2 : List Int) : Blk := ⟨.row 32 2, .ints (y1.take (l1 * 2) ++ y2.take (l2 * 2))⟩
theorem cat_row {l1 l2 : Nat} {y1 y2 : List Int} (h1 : l1 * 2 ≤ y1.length) (h2 : l2 * 2 ≤ y2.length) (h0 : 0 < l1 + l2) (h3 : l1 + l2 ≤ 1000) : (bodyM Try.prog ECt (runM Try.prog ECt 30 12) 30 70 [.slice (some ⟨2, 0, none⟩) 2 2] [some ⟨.view, .ints y1⟩, some ⟨.view, .ints y2⟩, some ⟨.view, .vals [.slice (some ⟨0, 0, none⟩) l1 l1, .slice (some ⟨1, 0, none⟩) l2 l2]⟩] .fin).ok (fun _ _ => False) (fun u mem => RowIs (.slice (some ⟨0, 0, none⟩) (l1 + l2) (l1 + l2)) (catB l1 l2 y1 y2) u mem) := by
  rw [tr_cat]
  have e1 : IntKind.i64.wrap (0 + (l1 : Int)) = (l1 : Int) := by rw [wr (by omega)]; omega
  have e2 : IntKind.i64.wrap ((l1 : Int) + (l2 : Int)) = (l1 : Int) + l2 := wr (by omega)
  have e3 : IntKind.i64.wrap ((0 : Int) + 1) = 1 := by rw [wr (by omega)]; rfl
  have t1 : (y1.take (l1 * 2)).length = l1 * 2 := by rw [List.length_take]; omega
  simp only [e1, e2, e3, List.drop_zero, List.take_zero, List.nil_append, Nat.zero_add, List.take_take, Nat.min_self, t1]
  refine ⟨⟨by omega, by omega⟩, brT_ok.2 ⟨fun q => ?_, fun _ => ⟨⟨by omega, by omega⟩, brT_ok.2 ⟨fun q => ?_, fun _ => ⟨⟨by omega, by omega⟩, ⟨by omega, by omega⟩, ⟨by omega, by omega⟩, h1, by omega, ⟨by omega, by omega⟩, ⟨by omega, by omega⟩, h2, by omega, some 5, ⟨rfl, rfl, rfl⟩, rfl, rfl, rfl⟩⟩⟩⟩⟩
  · have := of_decide_eq_true q; omega
  · have := of_decide_eq_true q; omega
def rowI : DArg → Option (Nat × List Int)
  | .row l (.ints y) => some (l, y)
  | _ => none
theorem rowI_spec {d : DArg} {l : Nat} {y : List Int} (h : rowI d = some (l, y)) : d = .row l (.ints y) := by
  unfold rowI at h
  split at h
  · obtain ⟨rfl, rfl⟩ : _ ∧ _ := by simpa using h
    rfl
  · cases h
/-- Two slices of points, one behind the other. -/
def catG (name : Nat) (args : List Value) : Rd Eff := match args with
  | [.slice (some ⟨nb, 0, none⟩) 2 _] => .blk nb fun b => match b with
    | some ⟨.row _ 1, .vals [s1, s2]⟩ => (rdArg s1).bind fun d1 => (rdArg s2).bind fun d2 => (match rowI d1, rowI d2 with
      | some (l1, y1), some (l2, y2) => .ret ⟨.slice (some ⟨name, 0, none⟩) (l1 + l2) (l1 + l2), [(name, catB l1 l2 y1 y2)], [l1 * 2 ≤ y1.length, l2 * 2 ≤ y2.length, 0 < l1 + l2, l1 + l2 ≤ 1000]⟩
      | _, _ => .fail)
    | _ => .fail
  | _ => .fail
set_option maxRecDepth 100000 in
theorem catG_sound {J : TabJ} (hJ : GSound Try.prog J.g) : GSound Try.prog (consR 70 catG J).g := by
  intro h name args s eff hr hn
  simp only [consR] at hr
  split at hr
  rotate_left
  · exact hJ h name args s eff hr hn
  rename_i heq
  obtain rfl := Nat.eq_of_beq_eq_true heq
  refine ⟨(entersB_res (by kernel_rfl)).1, fun B ρ0 ρ w args' ha hm hB hcond => ?_⟩
  unfold catG at hr
  split at hr
  rotate_left
  · simp [Rd.run] at hr
  rename_i nb c
  simp only [Rd.run] at hr
  split at hr
  rotate_left
  · simp [Rd.run] at hr
  rename_i e s1 s2 hb
  obtain ⟨d1, hd1, hr1⟩ := bind_some hr
  obtain ⟨d2, hd2, hr2⟩ := bind_some hr1
  clear hr hr1
  split at hr2
  rotate_left
  · simp [Rd.run] at hr2
  rename_i l1 y1 l2 y2 r1 r2
  obtain rfl := rowI_spec r1
  obtain rfl := rowI_spec r2
  obtain rfl : (⟨.slice (some ⟨name, 0, none⟩) (l1 + l2) (l1 + l2), [(name, catB l1 l2 y1 y2)], [l1 * 2 ≤ y1.length, l2 * 2 ≤ y2.length, 0 < l1 + l2, l1 + l2 ≤ 1000]⟩ : Eff) = eff := by simpa [Rd.run] using hr2
  obtain ⟨k1, k2, k3, k4, _⟩ := hcond
  obtain ⟨hsz, hval⟩ := ha
  obtain ⟨x0, rfl⟩ : ∃ x0, args' = #[x0] := by
    have h2 : args'.size = 1 := by simpa using hsz.symm
    match args', h2 with
    | ⟨[x0]⟩, _ => exact ⟨x0, rfl⟩
  have v0 := hval 0 _ x0 rfl rfl
  rcases v0.slice_inv with ⟨g, f, cp, c', j1, jok, j2, j3, j4⟩ | ⟨hl0, _⟩ | ⟨hl0, _⟩
  rotate_left
  · omega
  · omega
  rcases hm.ok nb _ hb with ⟨p, q1, q2, q3⟩ | ⟨g2, cap, q1, q2, cs', q3, q4, q5⟩
  · rw [q1] at j1
    obtain rfl : p = (g, f, cp) := by simpa using j1
    exact absurd ⟨q2, 0, q3⟩ jok.not
  rw [q1] at j1
  obtain ⟨rfl, rfl, rfl⟩ : g2 = g ∧ 0 = f ∧ some cap = cp := by simpa using j1
  subst j2
  obtain ⟨x1, a1, a2⟩ := q5 0 s1 rfl
  obtain ⟨x2, b1, b2⟩ := q5 1 s2 rfl
  have hg : g2 < w.heap.size := (Array.getElem?_eq_some_iff.1 q3).1
  have cell : ∀ k x, cs'[k]? = some x → w.cell? ⟨g2, 0 + k, none⟩ = some x := fun k x hx => by
    simp only [World.cell?, Nat.zero_add, q3, Option.isSome_none, Bool.false_eq_true, if_false, hx]
  refine (two_call mixed ECt_ok rfl (cat_row k1 k2 k3 k4) w ((rdArg_ok hd1).2 a2 hm) ((rdArg_ok hd2).2 b2 hm) hg (cell 0 _ a1) (cell 1 _ b1) j3).mono ?_
  rintro e' w' ⟨v', p, rfl, hbel, hrow⟩
  obtain ⟨g1, g3⟩ := hrow (addPl ρ name p) name (addPl_same _ _ _)
  refine ⟨v', addPl ρ name p, rfl, addPl_ext (hm.fresh name hn), g1, BelowK.of hbel hB, ?_⟩
  rw [upd_one]
  exact hm.newRow hB hbel hn rfl g3
end Go.Proofs.Ytieibbdfdepmbaa
