/-
  The small machine: append, onto nil or onto a row that the call owns. Written by an AI agent.
-/
import Derived.Test.YtoijfjifaljpaabAbsF
import Derived.Laws.AppendOwn
namespace Go.Proofs.Ytoijfjifaljpaab
open Go.RowKit

def deadB : Blk := ⟨.dead, .vals []⟩
/-- Some cells of known ones. -/
def partC (cs : Cs) (o n : Nat) : Option (Cs × List Prop) :=
  match cs with
  | .vals l => (match cellsAt l o n with
    | some r => some (.vals r, [])
    | none => none)
  | .ints xs => some (.ints ((xs.drop o).take n), [o + n ≤ xs.length])
  | .bytes _ => none
def joinC : Cs → Cs → Cs
  | .vals a, .vals b => .vals (a ++ b)
  | .ints x, .ints y => .ints (x ++ y)
  | .ints x, .vals b => (match intsOf b with
    | some y => .ints (x ++ y)
    | none => .vals (x.map (Value.int .i64) ++ b))
  | .vals a, .ints y => (match intsOf a with
    | some x => .ints (x ++ y)
    | none => .vals (a ++ y.map (Value.int .i64)))
  | .bytes x, b => .vals (x.map (Value.int .u8) ++ b.list)
  | a, .bytes y => .vals (a.list ++ y.map (Value.int .u8))
theorem joinC_list (a b : Cs) : (joinC a b).list = a.list ++ b.list := by
  cases a with
  | vals l =>
    cases b with
    | vals r => rfl
    | ints y =>
      simp only [joinC]
      split
      · rename_i h
        rw [intsOf_spec h]
        simp [Cs.list]
      · rfl
    | bytes y => rfl
  | ints x =>
    cases b with
    | vals r =>
      simp only [joinC]
      split
      · rename_i h
        rw [intsOf_spec h]
        simp [Cs.list]
      · rfl
    | ints y => simp [joinC, Cs.list]
    | bytes y => rfl
  | bytes x => cases b <;> rfl
theorem partC_spec {cs c : Cs} {o n : Nat} {C : List Prop} (h : partC cs o n = some (c, C)) (hC : AllP C) : c.list.length = n ∧ ∀ (j : Nat) v, c.list[j]? = some v → cs.list[o + j]? = some v := by
  unfold partC at h
  split at h
  · split at h
    · rename_i l r hr
      obtain ⟨rfl, rfl⟩ : Cs.vals r = c ∧ [] = C := by simpa using h
      exact cellsAt_spec n o r hr
    · cases h
  · rename_i xs
    obtain ⟨rfl, rfl⟩ : Cs.ints ((xs.drop o).take n) = c ∧ [o + n ≤ xs.length] = C := by simpa using h
    have h1 : o + n ≤ xs.length := hC.1
    refine ⟨by simp [Cs.list]; omega, fun j v hj => ?_⟩
    simp only [Cs.list, List.getElem?_map] at hj ⊢
    have hjn : j < n := by
      rcases Nat.lt_or_ge j n with h | h
      · exact h
      · rw [List.getElem?_eq_none (by simp; omega)] at hj; simp at hj
    rw [List.getElem?_take_of_lt hjn, List.getElem?_drop] at hj
    exact hj
  · cases h
def oneC : Cs → Bool
  | .vals l => l.all oneV
  | .ints _ => true
  | .bytes _ => true
theorem oneC_spec {c : Cs} (h : oneC c = true) : ∀ v ∈ c.list, oneV v = true := by
  cases c with
  | vals l => exact List.all_eq_true.1 h
  | ints xs =>
    intro v hv
    obtain ⟨x, _, rfl⟩ := List.mem_map.1 hv
    rfl
  | bytes xs =>
    intro v hv
    obtain ⟨x, _, rfl⟩ := List.mem_map.1 hv
    rfl
/-- The slice that is appended: its length and its cells. -/
def rdNews (vy : Value) (sz : Nat) : Rd (Nat × Cs × List Prop) :=
  match vy with
  | .slice none 0 0 => .ret (0, .vals [], [])
  | .slice (some ⟨k, o, none⟩) m _ => .blk k fun bk => match bk with
    | some bk => (match bk.live, partC bk.cs o (m * sz) with
      | true, some (c, C) => (match oneC c with
        | true => .ret (m, c, C)
        | false => .fail)
      | _, _ => .fail)
    | none => .fail
  | _ => .fail
/-- append: the old row's name is dead behind it, the new name has all. -/
def appendOp (P : Program) (name : Nat) (t : TypeId) (x y : Operand) : Rd Eff := (rdv x).bind fun vx => (rdv y).bind fun vy =>
  match P.underlying t with
  | some (.slice e) => (match P.info? e with
    | some i => (match i.zero with
      | some z => (match Nat.beq z.cells.size i.size with
        | true => (rdNews vy i.size).bind fun r => match vx with
          | .slice none 0 0 => .ret ⟨.slice (some ⟨name, 0, none⟩) (0 + r.1) (0 + r.1), [(name, ⟨.row e i.size, joinC (.vals []) r.2.1⟩)], ((0 + r.1) * i.bytes ≤ 140737488355328 ∧ 0 + r.1 ≤ 1000000) :: r.2.2⟩
          | .slice (some ⟨n, 0, none⟩) l _ => .blk n fun bn => match bn with
            | some ⟨.row e' sz, cs⟩ => (match decide (e' = e) && Nat.beq sz i.size, partC cs 0 (l * i.size) with
              | true, some (olds, C) => .ret ⟨.slice (some ⟨name, 0, none⟩) (l + r.1) (l + r.1), [(name, ⟨.row e i.size, joinC olds r.2.1⟩), (n, deadB)], ((l + r.1) * i.bytes ≤ 140737488355328 ∧ l + r.1 ≤ 1000000) :: (r.2.2 ++ C)⟩
              | _, _ => .fail)
            | _ => .fail
          | _ => .fail
        | false => .fail)
      | none => .fail)
    | none => .fail)
  | _ => .fail

theorem one_of_atom {v : Value} (h : atomV v = true) : v.oneCell' = true := by
  cases v <;> first | rfl | (simp [atomV] at h)
theorem upd_two (s : FS) (dst : Option Tmp) (v : Value) (n n' : Nat) (b b' : Blk) (c : List Prop) : (s.upd dst ⟨v, [(n, b), (n', b')], c⟩).blk = setB (setB s.blk n' b') n b := by
  funext k
  simp only [FS.upd, lookW, setB]
  by_cases h : n = k
  · subst h; simp
  · have h2 : ¬ k = n := fun e => h e.symm
    simp only [h, h2, if_false]
    by_cases h3 : n' = k
    · subst h3; simp
    · have : ¬ k = n' := fun e => h3 e.symm
      simp [h3, this]
/-- An owned row's name dies, a new name gets a row in its place or in a new block. -/
theorem MemOk.passOn {ρ0 ρ : Nat → Option Pl} {B : Nat → Prop} {m : Nat → Option Blk} {w w' : World} (h : MemOk ρ0 ρ B m w) {n name : Nat} {b b' : Blk} {p p' : Pl} (hn : m n = some b) (hown : b.own = true) (hp : ρ n = some p) (hname : m name = none)
    (hp' : (¬ nilPl p ∧ p'.1 = p.1) ∨ p'.1 = w.heap.size) (hsz : w.heap.size ≤ w'.heap.size) (hk : ∀ k, k < w.heap.size → nilPl p ∨ k ≠ p.1 → w'.heap[k]? = w.heap[k]?) (hb : BlkOk (addPl ρ name p') B w' name b') :
    MemOk ρ0 (addPl ρ name p') B (setB (setB m n deadB) name b') w' := by
  have hext : Ext ρ (addPl ρ name p') := addPl_ext (h.fresh name hname)
  have hnn : n ≠ name := fun e => by subst e; rw [hname] at hn; cases hn
  have old : ∀ k c, k ≠ name → setB (setB m n deadB) name b' k = some c → c.live = true → k ≠ n ∧ m k = some c := by
    intro k c hkn hc hl
    by_cases hkn2 : k = n
    · subst hkn2
      have : some deadB = some c := by simpa [setB, hkn] using hc
      obtain rfl : deadB = c := by simpa using this
      cases hl
    · exact ⟨hkn2, by simpa [setB, hkn, hkn2] using hc⟩
  have far : ∀ k c q, k ≠ n → m k = some c → c.live = true → ρ k = some q → ¬ nilPl q → q.1 < w.heap.size ∧ (nilPl p ∨ q.1 ≠ p.1) := by
    intro k c q hkn hc hl hq hnq
    have h2 := ((h.ok k c hc).real hl hq hnq).1
    refine ⟨h2, ?_⟩
    by_cases hnp : nilPl p
    · exact .inl hnp
    · exact .inr fun e => h.sep n k b c p q hn hown hc hl (fun e => hkn e.symm) hp hq hnp hnq e.symm
  refine ⟨h.ext.trans hext, fun k hk0 => ?_, fun k c hc => ?_, fun k k' c c' q q' hc hcown hc' hl' hne hq hq' hnq hnq' => ?_⟩
  · by_cases hkn : k = name
    · subst hkn; simp [setB] at hk0
    · rw [addPl_ne hkn]
      by_cases hkn2 : k = n
      · subst hkn2; simp [setB, hkn] at hk0
      · exact h.fresh k (by simpa [setB, hkn, hkn2] using hk0)
  · by_cases hkn : k = name
    · subst hkn
      obtain rfl : b' = c := by simpa [setB] using hc
      exact hb
    · by_cases hl : c.live = true
      · obtain ⟨hkn2, hmk⟩ := old k c hkn hc hl
        refine (h.ok k c hmk).keep hext hsz fun q hl2 hq hnq => ?_
        obtain ⟨h1, h2⟩ := far k c q hkn2 hmk hl2 hq hnq
        exact hk _ h1 h2
      · obtain ⟨kd, cs⟩ := c
        cases kd with
        | dead => trivial
        | _ => exact absurd rfl hl
  · have hl := own_live hcown
    by_cases hkn : k = name
    · subst hkn
      have hk'n : k' ≠ k := fun e => hne e.symm
      obtain ⟨g1, g2⟩ := old k' c' hk'n hc' hl'
      rw [addPl_same] at hq
      rw [addPl_ne hk'n] at hq'
      obtain rfl : p' = q := by simpa using hq
      obtain ⟨f1, f2⟩ := far k' c' q' g1 g2 hl' hq' hnq'
      rcases hp' with ⟨x1, x2⟩ | x2
      · have := f2.resolve_left x1
        omega
      · omega
    · obtain ⟨g1, g2⟩ := old k c hkn hc hl
      rw [addPl_ne hkn] at hq
      obtain ⟨f1, f2⟩ := far k c q g1 g2 hl hq hnq
      by_cases hk'n : k' = name
      · subst hk'n
        rw [addPl_same] at hq'
        obtain rfl : p' = q' := by simpa using hq'
        rcases hp' with ⟨x1, x2⟩ | x2
        · have := f2.resolve_left x1
          omega
        · omega
      · obtain ⟨g1', g2'⟩ := old k' c' hk'n hc' hl'
        rw [addPl_ne hk'n] at hq'
        exact h.sep k k' c c' q q' g2 hcown g2' hl' hne hq hq' hnq hnq'
theorem choose_list {R : Nat → Value → Value → Prop} : ∀ (l : List Value) (k : Nat), (∀ (j : Nat) v, l[j]? = some v → ∃ v', R (k + j) v v') → ∃ l' : List Value, l'.length = l.length ∧ ∀ (j : Nat) v v', l[j]? = some v → l'[j]? = some v' → R (k + j) v v'
  | [], _, _ => ⟨[], rfl, fun j v v' h => by simp at h⟩
  | v :: r, k, h => by
    obtain ⟨v', hv⟩ := h 0 v rfl
    obtain ⟨r', h1, h2⟩ := choose_list r (k + 1) fun j u hu => by
      have := h (j + 1) u (by simpa using hu)
      rw [show k + 1 + j = k + (j + 1) by omega]
      exact this
    refine ⟨v' :: r', by simp [h1], fun j u u' hu hu' => ?_⟩
    cases j with
    | zero =>
      obtain rfl : v = u := by simpa using hu
      obtain rfl : v' = u' := by simpa using hu'
      exact hv
    | succ j =>
      rw [show k + (j + 1) = k + 1 + j by omega]
      exact h2 j u u' (by simpa using hu) (by simpa using hu')
/-- What is appended, as it lies in memory. -/
def NewsAt (w : World) (ρ : Nat → Option Pl) (m sz : Nat) (c : Cs) (vy' : Value) : Prop :=
  ∃ (ad : Option Addr) (cy : Nat) (news : List Value), vy' = .slice ad m cy ∧ (0 < m → ∃ a, ad = some a ∧ ∀ (j : Nat) u, news[j]? = some u → w.cell? (a.add j) = some u) ∧ news.length = m * sz ∧ c.list.length = m * sz ∧ (∀ u ∈ news, u.oneCell' = true) ∧ ∀ (j : Nat) v v', c.list[j]? = some v → news[j]? = some v' → VR ρ v v'
theorem rdNews_ok {s : FS} {vy : Value} {sz m : Nat} {c : Cs} {C : List Prop} (h : (rdNews vy sz).run s = some (m, c, C)) (hC : AllP C) {ρ0 ρ : Nat → Option Pl} {B : Nat → Prop} {w : World} {vy' : Value} (hv : VR ρ vy vy') (hm : MemOk ρ0 ρ B s.blk w) : NewsAt w ρ m sz c vy' := by
  unfold rdNews at h
  split at h
  · obtain ⟨rfl, rfl, rfl⟩ : 0 = m ∧ Cs.vals [] = c ∧ [] = C := by simpa [Rd.run] using h
    obtain rfl := hv.plain rfl
    exact ⟨none, 0, [], rfl, fun h => by omega, by simp, by simp [Cs.list], by simp, by simp⟩
  · rename_i k o m' c0
    simp only [Rd.run] at h
    split at h
    rotate_left
    · simp [Rd.run] at h
    rename_i bk hbk
    split at h
    rotate_left
    · simp [Rd.run] at h
    rename_i c' C' hlive hpart
    split at h
    rotate_left
    · simp [Rd.run] at h
    rename_i hone
    obtain ⟨rfl, rfl, rfl⟩ : m' = m ∧ c' = c ∧ C' = C := by simpa [Rd.run] using h
    obtain ⟨p1, p2⟩ := partC_spec hpart hC
    rcases hv.slice_inv with ⟨gy, fy, cpy, c2, k1, kq, h8, h9, _⟩ | ⟨h0, _, ad, c2, h8⟩ | ⟨h0, ad, c2, _, h8, _⟩
    rotate_left
    · subst h0
      exact ⟨_, _, [], h8, fun h => by omega, by simp, p1, by simp, by simp⟩
    · subst h0
      exact ⟨_, _, [], h8, fun h => by omega, by simp, p1, by simp, by simp⟩
    have k2 := (live_cell (hm.ok k bk hbk) hlive k1 kq).2
    obtain ⟨news, n1, n2⟩ := choose_list (R := fun j v v' => w.cell? ⟨gy, fy + (o + j), none⟩ = some v' ∧ VR ρ v v') c'.list 0 fun j v hj => by
      rw [Nat.zero_add]
      exact k2 _ _ (p2 j v hj)
    have hnv : ∀ (j : Nat) u, news[j]? = some u → w.cell? ⟨gy, fy + (o + j), none⟩ = some u ∧ ∃ v, c'.list[j]? = some v ∧ VR ρ v u := by
      intro j u hu
      have hj : j < c'.list.length := by rw [← n1]; exact (List.getElem?_eq_some_iff.1 hu).1
      have := n2 j c'.list[j] u (by simp) hu
      rw [Nat.zero_add] at this
      exact ⟨this.1, _, by simp, this.2⟩
    have hones : ∀ u ∈ news, u.oneCell' = true := by
      intro u hu
      obtain ⟨j, hj⟩ := List.getElem?_of_mem hu
      obtain ⟨_, v, hv1, hv2⟩ := hnv j u hj
      exact oneV_of hv2 (oneC_spec hone v (List.mem_of_getElem? hv1))
    have hrel : ∀ (j : Nat) v v', c'.list[j]? = some v → news[j]? = some v' → VR ρ v v' := fun j v v' h1 h2 => (n2 j v v' h1 h2).2
    refine ⟨some ⟨gy, fy + o, none⟩, c2, news, h8, fun _ => ⟨_, rfl, fun j u hu => ?_⟩, by rw [n1, p1], p1, hones, hrel⟩
    rw [addr_add, Nat.add_assoc]
    exact (hnv j u hu).1
  · simp [Rd.run] at h
theorem cells_join {ρ : Nat → Option Pl} {olds newc news rest xs : List Value} {arr : Array Value} (h : arr.toList = xs ++ news ++ rest) (hl : xs.length = olds.length) (hl2 : news.length = newc.length) (ho : ∀ (j : Nat) v, olds[j]? = some v → ∃ v', xs[j]? = some v' ∧ VR ρ v v') (hn : ∀ (j : Nat) v v', newc[j]? = some v → news[j]? = some v' → VR ρ v v') : Cells ρ (olds ++ newc) arr := by
  intro j v hj
  have harr : arr[j]? = (xs ++ news ++ rest)[j]? := by rw [← h]; simp
  by_cases hlt : j < olds.length
  · rw [List.getElem?_append_left hlt] at hj
    obtain ⟨v', h1, h2⟩ := ho j v hj
    exact ⟨v', by rw [harr, List.append_assoc, List.getElem?_append_left (by omega), h1], h2⟩
  · rw [List.getElem?_append_right (by omega)] at hj
    have hlt2 : j - olds.length < newc.length := (List.getElem?_eq_some_iff.1 hj).1
    have hv' : news[j - olds.length]? = some news[j - olds.length] := by simp
    exact ⟨news[j - olds.length], by rw [harr, List.append_assoc, List.getElem?_append_right (by omega), List.getElem?_append_left (by omega), hl]; exact hv', hn _ _ _ hj hv'⟩
theorem run_append_zero {P : Program} (w : World) {t ty e : TypeId} {i : TypeInfo} (ht : P.underlying t = some (.slice e)) (hi : P.info? e = some i) (ad ad2 : Option Addr) (l c c2 : Nat) (h : l ≤ c) :
    (Builtin.append_ #[t, t] ty #[.slice ad l c, .slice ad2 0 c2]).run P w = .ok (.slice ad l c) w := by
  cases ad <;> cases ad2 <;> simp [Builtin.append_, run_underlying ht, sizeOf, typeInfo, hi, Builtin.lenOf, Builtin.firstCells, loadCells, loadCellsFrom, storeCells, h]
/-- An empty row that lies nowhere. -/
theorem MemOk.newNil {ρ0 ρ : Nat → Option Pl} {B : Nat → Prop} {m : Nat → Option Blk} {w : World} (h : MemOk ρ0 ρ B m w) {n : Nat} (hn : m n = none) {b : Blk} {p : Pl} (hp : nilPl p) (hb : BlkOk (addPl ρ n p) B w n b) :
    MemOk ρ0 (addPl ρ n p) B (setB m n b) w where
  ext := h.ext.trans (addPl_ext (h.fresh n hn))
  fresh := fun k hk => by
    by_cases hkn : k = n
    · subst hkn; simp [setB] at hk
    · rw [addPl_ne hkn]
      exact h.fresh k (by simpa [setB, hkn] using hk)
  ok := fun k c hk => by
    by_cases hkn : k = n
    · subst hkn
      obtain rfl : b = c := by simpa [setB] using hk
      exact hb
    · have hk' : m k = some c := by simpa [setB, hkn] using hk
      exact (h.ok k c hk').keep (addPl_ext (h.fresh n hn)) (Nat.le_refl _) fun q hl hq hnq => rfl
  sep := fun k k' c c' q q' hk hown hk' hlive hne hq hq' hnq hnq' => by
    by_cases hkn : k = n
    · subst hkn
      rw [addPl_same] at hq
      obtain rfl : p = q := by simpa using hq
      exact absurd hp hnq
    · rw [addPl_ne hkn] at hq
      by_cases hk'n : k' = n
      · subst hk'n
        rw [addPl_same] at hq'
        obtain rfl : p = q' := by simpa using hq'
        exact absurd hp hnq'
      · rw [addPl_ne hk'n] at hq'
        exact h.sep k k' c c' q q' (by simpa [setB, hkn] using hk) hown (by simpa [setB, hk'n] using hk') hlive hne hq hq' hnq hnq'
theorem MemOk.kill {ρ0 ρ : Nat → Option Pl} {B : Nat → Prop} {m : Nat → Option Blk} {w : World} (h : MemOk ρ0 ρ B m w) {n : Nat} {b : Blk} (hn : m n = some b) : MemOk ρ0 ρ B (setB m n deadB) w where
  ext := h.ext
  fresh := fun k hk => by
    by_cases hkn : k = n
    · subst hkn; simp [setB] at hk
    · exact h.fresh k (by simpa [setB, hkn] using hk)
  ok := fun k c hk => by
    by_cases hkn : k = n
    · subst hkn
      obtain rfl : deadB = c := by simpa [setB] using hk
      trivial
    · exact h.ok k c (by simpa [setB, hkn] using hk)
  sep := fun k k' c c' q q' hk hown hk' hlive hne hq hq' hnq hnq' => by
    by_cases hkn : k = n
    · subst hkn
      obtain rfl : deadB = c := by simpa [setB] using hk
      cases hown
    · by_cases hk'n : k' = n
      · subst hk'n
        obtain rfl : deadB = c' := by simpa [setB] using hk'
        cases hlive
      · exact h.sep k k' c c' q q' (by simpa [setB, hkn] using hk) hown (by simpa [setB, hk'n] using hk') hlive hne hq hq' hnq hnq'
theorem appendOp_sound {P : Program} {o : Oper} {t : TypeId} {x y : Operand} (ho : o.op = .call { callee := .builtin .append, args := #[x, y], argTypes := #[t, t] }) {name : Nat} {s : FS} {eff : Eff} {w0 : Start} {a : Act} {w : World} {Q : Exit → Act → World → Prop} {K : Act → World → Prop}
    (hr : (appendOp P name t x y).run s = some eff) (hnm : s.blk name = none) (hc : Conc w0 s a w) (hcond : eff.cond) (hK : ∀ a' w', Conc w0 (s.upd o.dst eff) a' w' → K a' w') : owp P w0 o a w K Q := by
  obtain ⟨d1, d2, d3, ρ, ht, hm⟩ := hc
  obtain ⟨vx, h1, h2⟩ := bind_some hr
  obtain ⟨vy, h3, h4⟩ := bind_some h2
  clear h2
  split at h4
  rotate_left
  · simp [Rd.run] at h4
  rename_i e hu
  split at h4
  rotate_left
  · simp [Rd.run] at h4
  rename_i i hi
  split at h4
  rotate_left
  · simp [Rd.run] at h4
  rename_i z hz
  split at h4
  rotate_left
  · simp [Rd.run] at h4
  rename_i hzs
  have hzs : z.cells.size = i.size := Nat.eq_of_beq_eq_true hzs
  obtain ⟨⟨m, nc, C1⟩, hnews, h5⟩ := bind_some h4
  clear h4
  have hB : ∀ k, w0.kp k → k < w.heap.size := fun k hk => Nat.lt_of_lt_of_le (w0.kpl k hk) d3.size
  have hexec : ∀ (vx' vy' r : Value) (w' : World), a.eval x = vx' → a.eval y = vy' → (Builtin.append_ #[t, t] o.type #[vx', vy']).run P w = .ok r w' → (execOp a.eval o).run P w = .ok (.value r) w' := by
    intro vx' vy' r w' ex ey hrun
    simp only [execOp, ho, resolve, invoke, builtin, Sem.run_bind, Sem.run_pure, Result.andThen_ok, List.map_toArray, List.map_cons, List.map_nil, ex, ey, hrun]
  split at h5
  · -- onto nil
    obtain rfl : (⟨.slice (some ⟨name, 0, none⟩) (0 + m) (0 + m), [(name, ⟨.row e i.size, joinC (.vals []) nc⟩)], ((0 + m) * i.bytes ≤ 140737488355328 ∧ 0 + m ≤ 1000000) :: C1⟩ : Eff) = eff := by simpa [Rd.run] using h5
    obtain ⟨⟨hb1, hb2⟩, hC1⟩ : ((0 + m) * i.bytes ≤ 140737488355328 ∧ 0 + m ≤ 1000000) ∧ AllP C1 := hcond
    obtain ⟨ad, cy, news, ey, hnl, hlen, hlen2, hone, hrel⟩ := rdNews_ok hnews hC1 (rdv_ok h3 ht) hm
    have ex := (rdv_ok h1 ht).plain rfl
    rw [Nat.zero_add] at hb1 hb2 hK
    have hlist : (joinC (.vals []) nc).list = nc.list := by rw [joinC_list]; rfl
    by_cases hm0 : m = 0
    · subst hm0
      refine value_wp (hexec _ _ _ _ ex ey (run_append_zero w hu hi none ad 0 0 cy (Nat.le_refl _))) (hK _ _ ?_)
      have hnp : nilPl (0, 1, some 0) := ⟨rfl, 0, rfl⟩
      have hext : Ext ρ (addPl ρ name (0, 1, some 0)) := addPl_ext (hm.fresh name hnm)
      refine put_conc (w := w) d1 d2 d3 (fun t => (ht t).ext hext) (.nil_ (addPl_same _ _ _) hnp rfl (fun _ => ⟨rfl, rfl⟩)) ?_
      rw [upd_one]
      exact hm.newNil hnm hnp (.inl ⟨_, addPl_same _ _ _, rfl, rfl⟩)
    · obtain ⟨ad', rfl, hnc⟩ := hnl (by omega)
      have hrun := run_append_nil (P := P) w t o.type e i z hu hi hz ad' m cy news hlen hnc (by omega) (by omega) (by omega)
      refine value_wp (hexec _ _ _ _ ex ey hrun) (hK _ _ ?_)
      have hge := grownCap_ge w m 0 e
      have hcd : Conc w0 s a w.drew := ⟨d1, d2, d3.drew, ρ, ht, hm.keep (Below.drew (Below.refl _ _))⟩
      refine newRow_conc (w := w.drew) (cs := joinC (.vals []) nc) hcd hnm ht (hm.keep (Below.drew (Below.refl _ _))) hge ?_ ?_ _
      · simp only [Array.size_append, List.size_toArray, size_zeroCells, hzs, hlen, ← Nat.add_mul]
        congr 1
        omega
      · rw [hlist]
        intro j v hj
        have hlt : j < news.length := by rw [hlen, ← hlen2]; exact (List.getElem?_eq_some_iff.1 hj).1
        exact ⟨news[j], by rw [Array.getElem?_append_left (by simpa using hlt)]; simp, hrel j v _ hj (by simp)⟩
  · -- onto a row
    rename_i n l c1
    simp only [Rd.run] at h5
    split at h5
    rotate_left
    · simp [Rd.run] at h5
    rename_i e' sz cs hbn
    split at h5
    rotate_left
    · simp [Rd.run] at h5
    rename_i olds C2 hchk2 holds
    simp only [Bool.and_eq_true] at hchk2
    obtain ⟨he, hs1⟩ := hchk2
    obtain rfl := of_decide_eq_true he
    obtain rfl := Nat.eq_of_beq_eq_true hs1
    obtain rfl : (⟨.slice (some ⟨name, 0, none⟩) (l + m) (l + m), [(name, ⟨.row e' i.size, joinC olds nc⟩), (n, deadB)], ((l + m) * i.bytes ≤ 140737488355328 ∧ l + m ≤ 1000000) :: (C1 ++ C2)⟩ : Eff) = eff := by simpa [Rd.run] using h5
    obtain ⟨⟨hb1, hb2⟩, hC⟩ : ((l + m) * i.bytes ≤ 140737488355328 ∧ l + m ≤ 1000000) ∧ AllP (C1 ++ C2) := hcond
    obtain ⟨hC1, hC2⟩ := hC.append
    obtain ⟨ad, cy, news, ey, hnl, hlen, hlen2, hone, hrel⟩ := rdNews_ok hnews hC1 (rdv_ok h3 ht) hm
    obtain ⟨q1, q2⟩ := partC_spec holds hC2
    simp only [Nat.zero_add] at q2
    have hnn : n ≠ name := fun h => by subst h; rw [hnm] at hbn; cases hbn
    rcases hm.ok n _ hbn with ⟨pn, hpn, hpn1, hpn2⟩ | ⟨g, cap, k1, k2, cs', k3, k4, k5⟩
    · -- nil
      have hpnil : nilPl pn := ⟨hpn1, 0, hpn2⟩
      have ex : l = 0 ∧ a.eval x = .slice none 0 0 := by
        rcases (rdv_ok h1 ht).slice_inv with ⟨g2, f, cp, c', h7, hok, h8, h9, h10⟩ | ⟨_, h0, _⟩ | ⟨h0, ad2, c2, p2, h8, h7, _, h11⟩
        · rw [hpn] at h7
          obtain rfl : pn = (g2, f, cp) := by simpa using h7
          exact absurd hpnil hok.not
        · omega
        · rw [hpn] at h7
          obtain rfl : pn = p2 := by simpa using h7
          obtain ⟨rfl, rfl⟩ := h11 hpn2
          exact ⟨h0, h8⟩
      obtain ⟨rfl, ex⟩ := ex
      have hl0' : olds.list = [] := List.eq_nil_of_length_eq_zero (by rw [q1]; simp)
      have hlist : (joinC olds nc).list = nc.list := by rw [joinC_list, hl0']; rfl
      by_cases hm0 : m = 0
      · subst hm0
        refine value_wp (hexec _ _ _ _ ex ey (run_append_zero w hu hi none ad 0 0 cy (Nat.le_refl _))) (hK _ _ ?_)
        have hnp : nilPl (0, 1, some 0) := ⟨rfl, 0, rfl⟩
        have hext : Ext ρ (addPl ρ name (0, 1, some 0)) := addPl_ext (hm.fresh name hnm)
        refine put_conc (w := w) d1 d2 d3 (fun t => (ht t).ext hext) (.nil_ (addPl_same _ _ _) hnp rfl (fun _ => ⟨rfl, rfl⟩)) ?_
        rw [upd_two]
        exact (hm.kill hbn).newNil (by simp [setB, Ne.symm hnn, hnm]) hnp (.inl ⟨_, addPl_same _ _ _, rfl, rfl⟩)
      · obtain ⟨ad', rfl, hnc⟩ := hnl (by omega)
        rw [Nat.zero_add] at hb1 hb2 hK
        have hrun := run_append_nil (P := P) w t o.type e' i z hu hi hz ad' m cy news hlen hnc (by omega) (by omega) (by omega)
        refine value_wp (hexec _ _ _ _ ex ey hrun) (hK _ _ ?_)
        have hge := grownCap_ge w m 0 e'
        have hext : Ext ρ (addPl ρ name (w.heap.size, 0, some (grownCap w m 0 e'))) := addPl_ext (hm.fresh name hnm)
        refine put_conc (w := w) d1 d2 (d3.drew.alloc hB _) (fun t => (ht t).ext hext) (.slice (f := 0) (addPl_same _ _ _) (.inl rfl) hge (fun k hk _ => by simpa using hk)) ?_
        rw [upd_two]
        refine hm.passOn hbn rfl hpn hnm (.inr rfl) (by simp) (fun k hk _ => Below.heap_alloc w.drew _ k hk) (.inr ⟨w.heap.size, _, addPl_same _ _ _, new_free hB, _, heap_alloc_new w.drew _, ?_, ?_⟩)
        · simp only [Array.size_append, List.size_toArray, size_zeroCells, hzs, hlen, ← Nat.add_mul]
          congr 1
          omega
        · show Cells _ (joinC olds nc).list _
          rw [hlist]
          intro j v hj
          have hlt : j < news.length := by rw [hlen, ← hlen2]; exact (List.getElem?_eq_some_iff.1 hj).1
          exact ⟨news[j], by rw [Array.getElem?_append_left (by simpa using hlt)]; simp, (hrel j v _ hj (by simp)).ext hext⟩
    obtain ⟨c', ex, hlc, hcc⟩ : ∃ c', a.eval x = .slice (some ⟨g, 0, none⟩) l c' ∧ l ≤ c' ∧ c' = cap := by
      rcases (rdv_ok h1 ht).slice_inv with ⟨g2, f, cp, c', h7, _, h8, h9, h10⟩ | ⟨_, h0, _⟩ | ⟨_, _, _, p, _, hp1, hp2, _⟩
      · rw [k1] at h7
        obtain ⟨rfl, rfl, rfl⟩ : g = g2 ∧ 0 = f ∧ some cap = cp := by simpa using h7
        exact ⟨c', h8, h9, h10 cap rfl rfl⟩
      · omega
      · rw [k1] at hp1
        obtain rfl : (g, 0, some cap) = p := by simpa using hp1
        exact absurd hp2 (okPl.not (.inl rfl))
    subst hcc
    have hLc : l * i.size ≤ cs'.size := by rw [k4]; exact Nat.mul_le_mul_right _ hlc
    have hxl : (cs'.toList.take (l * i.size)).length = olds.list.length := by rw [List.length_take, Array.length_toList, q1]; omega
    have hxo : ∀ (j : Nat) v, olds.list[j]? = some v → ∃ v', (cs'.toList.take (l * i.size))[j]? = some v' ∧ VR ρ v v' := by
      intro j v hj
      have hjl : j < l * i.size := by rw [← q1]; exact (List.getElem?_eq_some_iff.1 hj).1
      obtain ⟨v', r1, r2⟩ := k5 j v (q2 j v hj)
      exact ⟨v', by rw [List.getElem?_take_of_lt hjl]; simpa using r1, r2⟩
    have hlist : (joinC olds nc).list = olds.list ++ nc.list := joinC_list _ _
    by_cases hm0 : m = 0
    · subst hm0
      refine value_wp (hexec _ _ _ _ ex ey (run_append_zero w hu hi (some ⟨g, 0, none⟩) ad l c' cy hlc)) (hK _ _ ?_)
      have hext : Ext ρ (addPl ρ name (g, 0, some c')) := addPl_ext (hm.fresh name hnm)
      refine put_conc (w := w) d1 d2 d3 (fun t => (ht t).ext hext) (.slice (f := 0) (addPl_same _ _ _) (.inl rfl) hlc (fun k hk _ => by simpa using hk)) ?_
      rw [upd_two]
      refine hm.passOn hbn rfl k1 hnm (.inl ⟨okPl.not (.inl rfl), rfl⟩) (Nat.le_refl _) (fun k _ _ => rfl) (.inr ⟨g, c', addPl_same _ _ _, k2, _, k3, k4, ?_⟩)
      show Cells _ (joinC olds nc).list _
      rw [hlist, show nc.list = [] from List.eq_nil_of_length_eq_zero (by rw [hlen2]; simp), List.append_nil]
      intro j v hj
      obtain ⟨v', r1, r2⟩ := k5 j v (q2 j v hj)
      exact ⟨v', r1, r2.ext hext⟩
    obtain ⟨ad', rfl, hnc⟩ := hnl (by omega)
    by_cases hroom : l + m ≤ c'
    · have hfit : l * i.size + news.length ≤ cs'.size := by rw [hlen, k4, ← Nat.add_mul]; exact Nat.mul_le_mul_right _ hroom
      have hrun := run_append_room (P := P) w t o.type e' i hu hi g l c' cs' k3 ad' m cy news hlen hnc hone hroom hfit
      refine value_wp (hexec _ _ _ _ ex ey hrun) (hK _ _ ?_)
      have hext : Ext ρ (addPl ρ name (g, 0, some c')) := addPl_ext (hm.fresh name hnm)
      refine put_conc (w := w) d1 d2 ⟨d3.os, d3.tape, d3.output, by simp only [World.setRow, Array.size_modify]; exact d3.size, fun k hk => (setRow_other w g k _ (fun e => k2 (e ▸ hk))).trans (d3.block k hk)⟩ (fun t => (ht t).ext hext) (.slice (f := 0) (addPl_same _ _ _) (.inl rfl) hroom (fun k hk _ => by simpa using hk)) ?_
      rw [upd_two]
      refine hm.passOn hbn rfl k1 hnm (.inl ⟨okPl.not (.inl rfl), rfl⟩) (by simp [World.setRow]) (fun k _ hk => setRow_other w g k _ (hk.resolve_left (okPl.not (.inl rfl)))) (.inr ⟨g, c', addPl_same _ _ _, k2, _, setRow_heap w g cs' _ e' _ k3, ?_, ?_⟩)
      · simp only [List.size_toArray, List.length_append, List.length_take, List.length_drop, Array.length_toList]
        omega
      · show Cells _ (joinC olds nc).list _
        rw [hlist]
        exact (cells_join (rest := cs'.toList.drop (l * i.size + news.length)) (by simp) hxl (by rw [hlen, hlen2]) hxo hrel).ext hext
    · have hrun := run_append_grow (P := P) w t o.type e' i z hu hi hz ⟨g, 0, none⟩ l c' (cs'.toList.take (l * i.size)) (by rw [hxl, q1]) (fun j v hj => by
          have hjl : j < l * i.size := by rw [← q1, ← hxl]; exact (List.getElem?_eq_some_iff.1 hj).1
          rw [List.getElem?_take_of_lt hjl] at hj
          rw [addr_add, Nat.zero_add]
          simp only [World.cell?, k3]
          simpa using hj) ad' m cy news hlen hnc (by omega) (by omega) (growslice_fits (by omega) hb1)
      refine value_wp (hexec _ _ _ _ ex ey hrun) (hK _ _ ?_)
      have hge := grownCap_ge w (l + m) c' e'
      have hext : Ext ρ (addPl ρ name (w.heap.size, 0, some (grownCap w (l + m) c' e'))) := addPl_ext (hm.fresh name hnm)
      refine put_conc (w := w) d1 d2 (d3.drew.alloc hB _) (fun t => (ht t).ext hext) (.slice (f := 0) (addPl_same _ _ _) (.inl rfl) hge (fun k hk _ => by simpa using hk)) ?_
      rw [upd_two]
      refine hm.passOn hbn rfl k1 hnm (.inr rfl) (by simp) (fun k hk _ => Below.heap_alloc w.drew _ k hk) (.inr ⟨w.heap.size, _, addPl_same _ _ _, new_free hB, _, heap_alloc_new w.drew _, ?_, ?_⟩)
      · simp only [Array.size_append, List.size_toArray, size_zeroCells, hzs, hlen, hxl, q1, ← Nat.add_mul]
        congr 1
        omega
      · show Cells _ (joinC olds nc).list _
        rw [hlist]
        exact (cells_join (rest := (Builtin.zeroCells z.cells (grownCap w (l + m) c' e' - (l + m))).toList) (by simp) hxl (by rw [hlen, hlen2]) hxo hrel).ext hext
  · simp [Rd.run] at h5
end Go.Proofs.Ytoijfjifaljpaab
