/-
  Texts that the proof needs, merged. Written by an AI agent.
-/
import Derived.Orders
import Derived.Below
import Derived.OrdersIn
import Derived.Deep.LoopGhost
import Derived.WalkKit
import Derived.Laws.CopyRow
import Derived.Laws.AppendOwn
import Derived.Laws.Slices
import Derived.Laws.MakeOwn
import Derived.Test.YtbhdhejefpdjfaaRows
import Derived.ProofKit
import Derived.OpenShut
import Derived.Carry
import Derived.IntWalk
import Derived.Test.YtbhdhejefpdjfaaProg
import Derived.WalkSpells
import Derived.WalkLawsBesides
import Derived.Lib.Hide
import Derived.Deep.QuietTactic
import Derived.BigQuiet
import Derived.KernelRfl
import Derived.Deep.RegionHeld3
import Derived.LoopTactic
import Derived.Laws.StructEq
import Derived.Laws.Tables
import Derived.RangeFuncNested
import Derived.RangeFuncLeaves
import Derived.Deep.Slices
import Derived.Deep.Fields
import Derived.ChangeSame
import Derived.Deep.DeepCutAuto
import Derived.Shelf.SlSortCmp.WholeK
import Derived.Sort.Grow
import Derived.Shelf.SlSortCmp.NoneTotal
import Derived.Test.YtbhdhejefpdjfaaZConvexDiagonals0
namespace Go.Proofs.Ytbhdhejefpdjfaa
set_option linter.all false
open Go.ChangeShapes Go.WideShapes Go.ChangeAt Go.RowKit
open Go.RowKit
theorem own : ownKnob Try.prog.godebug = none := by kernel_rfl
theorem laid_out : laidOutB Try.prog = true := by kernel_rfl
theorem u3 : Try.prog.underlying 3 = some (.int .i64) := by kernel_rfl
theorem u4 : Try.prog.underlying 4 = some .bool := by kernel_rfl
theorem three {xs : List Int} (h : xs.length = 3) : ∃ a b c, xs = [a, b, c] := by
  match xs, h with
  | [a, b, c], _ => exact ⟨a, b, c, rfl⟩
section
variable {H : Type} {enc : TypeId × Value → H} {P : Program} {W W' : World}
/-- Below the heap's old size nothing has turned: every argument reads as it did. -/
theorem trodAll_stays (hl : laidOutB P = true) (hb : Below W.heap.size W W') : ∀ {ts : List TypeId} {vs : List Value} {ds : List (DataW H)} {ps : List MemPlace},
    (∀ t ∈ ts, P.readableRec t = true ∧ t < P.types.size) → DataW.TrodAll enc P W 0 (fun _ => true) true ts vs ds ps → (∀ x ∈ ps, x.block < W.heap.size) →
    DataW.TrodAll enc P W' 0 (fun b => decide (b < W.heap.size)) true ts vs ds ps
  | [], _, _, _, _, h, _ => by
    obtain ⟨rfl, rfl, rfl⟩ := trodAll_nil h
    exact trodAll_mk0
  | t :: ts, _, _, _, ht, h, hp => by
    obtain ⟨v, vs1, d, ds1, a, b, rfl, rfl, rfl, h1, h2⟩ := trodAll_cons h
    refine ⟨a, b, ?_, trodAll_stays hl hb (fun t h => ht t (List.mem_cons_of_mem _ h)) h2 fun x hx => hp x (List.mem_append_right _ hx), rfl⟩
    exact Below.trod hl (ht t (List.mem_cons_self ..)).1 (ht t (List.mem_cons_self ..)).2 h1 hb fun x hx => hp x (List.mem_append_left _ hx)
theorem law_post {f : Func} {s : ChangeSpec} {args : Array Value} {ds gs : List (DataW H)} {before : List MemPlace} (hl : laidOutB P = true) (h4 : P.underlying 4 = some .bool) (hr : f.resultTypes = #[4]) (hs : s.vars = [])
    (hts : ∀ t ∈ f.params.toList, P.readableRec t = true ∧ t < P.types.size)
    (hfn : (s.fn H (ds ++ gs)).results = [.lit (.bool true)] ∧ (s.fn H (ds ++ gs)).args = ds ∧ (s.fn H (ds ++ gs)).vars = [])
    (hW : DataW.Whole enc P f.params.toList s.vars false W args.toList ds gs before) (hb : Below W.heap.size W W') :
    s.post enc P f false true false false W args (.bool true) W' := by
  have hlt : ∀ p ∈ before, p.block < W.heap.size := fun p hp => by simpa using hW.lt p hp
  have hW0 := hW
  obtain ⟨p, q, hA, hV, rfl, _, _⟩ := hW0
  rw [hs] at hV
  obtain ⟨rfl, rfl⟩ := trodVars_none hV
  refine ⟨ds, [], _, [], p, [], hW, ?_, ?_, ?_, hb.frame _, fun h => by cases h⟩
  · rw [hfn.1, hr]
    exact trodAll_mk1 (shut_bool h4 _)
  · rw [hfn.2.1]
    exact trodAll_stays hl hb hts hA fun x hx => hlt x (by simpa using hx)
  · rw [hfn.2.2, hs]
    rfl
end
/-- The greatest common divisor as a number. -/
def gI (a b : Int) : Int := (Int.gcd a b : Int)
theorem gI_step (a b : Int) : gI b (a.tmod b) = gI a b := by
  unfold gI
  have h : Int.gcd b (a.tmod b) = Int.gcd a b := by
    rw [Int.gcd, Int.gcd, Int.natAbs_tmod, Nat.gcd_comm a.natAbs b.natAbs, Nat.gcd_rec b.natAbs a.natAbs, Nat.gcd_comm]
  rw [h]
theorem prod_bd {x y : Int} (a b : Int) (hx : -a ≤ x ∧ x ≤ a) (hy : -b ≤ y ∧ y ≤ b) : -(a * b) ≤ x * y ∧ x * y ≤ a * b := by
  have h : (x * y).natAbs ≤ (a * b).natAbs := by
    rw [Int.natAbs_mul, Int.natAbs_mul]
    exact Nat.mul_le_mul (by omega) (by omega)
  have h2 : 0 ≤ a * b := Int.mul_nonneg (by omega) (by omega)
  omega
theorem ret_bool {a b : Bool} (h : a = b) : Ending.returned (.bool a) = .returned (.bool b) := by rw [h]
/-- What was there is as it was, behind a callee of which that alone is known. -/
theorem bcell {W w1 : World} (hb : Below W.heap.size W w1) : (∀ b o, b < W.heap.size → w1.cell? ⟨b, o, none⟩ = W.cell? ⟨b, o, none⟩) ∧ (∀ b o, b < W.heap.size → w1.frozen? ⟨b, o, none⟩ = W.frozen? ⟨b, o, none⟩) :=
  ⟨fun b o h => hb.cell (p := ⟨b, o, none⟩) h, fun b o h => hb.frozen (p := ⟨b, o, none⟩) h⟩
theorem bt {B : Nat} {a b c : World} (h : Below B a b) (k : Below b.heap.size b c) (hB : B ≤ b.heap.size) : Below B a c := h.trans (k.mono hB)
theorem na {a w : World} (h : Below a.heap.size a w) (o : Obj) : Below a.heap.size a (w.alloc o) := h.alloc h.size o
theorem nt {a b c : World} (h : Below a.heap.size a b) (k : Below b.heap.size b c) : Below a.heap.size a c := h.trans (k.mono h.size)
theorem nd {a w : World} (h : Below a.heap.size a w) (n : Nat) : Below a.heap.size a (w.drewN n) := ⟨h.os, h.tape, h.output, h.size, h.block⟩
theorem nr (a : World) : Below a.heap.size a a := Below.refl _ _
/-- A cell that is there is as it was, behind a callee that leaves alone what was there. -/
theorem keep1 {W W' : World} {a : Addr} {v : Value} (hx : Below W.heap.size W W') (h : W.cell? a = some v) : W'.cell? a = some v :=
  (hx.cell (World.block_lt_of_cell? W a h)).trans h
theorem keepA {W : World} {a : Addr} {v : Value} (o : Obj) (h : W.cell? a = some v) : (W.alloc o).cell? a = some v :=
  (World.cell?_alloc_lt W o a (World.block_lt_of_cell? W a h)).trans h
theorem bc2 {W w1 : World} (n : Nat) (hb : Below W.heap.size W w1) (hn : n + 2 ≤ W.heap.size) : (∀ b o, b < W.heap.size → w1.cell? ⟨b, o, none⟩ = W.cell? ⟨b, o, none⟩) ∧ (∀ b o, b < W.heap.size → w1.frozen? ⟨b, o, none⟩ = W.frozen? ⟨b, o, none⟩) ∧ n < w1.heap.size ∧ n + 1 < w1.heap.size :=
  ⟨(bcell hb).1, (bcell hb).2, by have := hb.size; omega, by have := hb.size; omega⟩
/-- Both coordinates are in range. -/
def ptB (x y : Int) : Bool := decide (-1000 ≤ x ∧ x ≤ 1000 ∧ -1000 ≤ y ∧ y ≤ 1000)
theorem ptB_true {x y : Int} (h : ptB x y = true) : -1000 ≤ x ∧ x ≤ 1000 ∧ -1000 ≤ y ∧ y ≤ 1000 := of_decide_eq_true h
theorem ptB_of {x y : Int} : ptB x y = (decide (-1000 ≤ x) && decide (x ≤ 1000) && (decide (-1000 ≤ y) && decide (y ≤ 1000))) := by
  unfold ptB
  rw [Bool.eq_iff_iff]
  simp
  omega
theorem inRange_any (n lo hi : Int) (w : World) :
    Calls Try.prog 36 #[.int .i64 n, .int .i64 lo, .int .i64 hi] w fun e w' => e = .returned (.bool (decide (lo ≤ n) && decide (n ≤ hi))) ∧ w = w' := by
  go_enter Try.func36, Try.ntmps36
  go_wp2
  all_goals go_ret
  all_goals simp
  all_goals omega
theorem within_any (n hi : Int) (w : World) (h0 : -4611686018427387904 ≤ hi) (h1 : hi ≤ 4611686018427387904) :
    Calls Try.prog 33 #[.int .i64 n, .int .i64 hi] w fun e w' => e = .returned (.bool (decide (-hi ≤ n) && decide (n ≤ hi))) ∧ w = w' := by
  go_enter Try.func33, Try.ntmps33
  go_wp2
  all_goals go_ret
  all_goals simp
  all_goals omega
theorem implValid_any (x y : Int) (w : World) :
    Calls Try.prog 17 #[.agg #[.int .i64 x, .int .i64 y]] w fun e w' => e = .returned (.bool (ptB x y)) ∧ Below w.heap.size w w' := by
  have ha : Below w.heap.size w (w.alloc (.cells #[.int .i64 x, .int .i64 y] 25)) := (Below.refl _ _).alloc (Nat.le_refl _) _
  rw [ptB_of]
  go_enter Try.func17, Try.ntmps17
  go_wp2_with (go_at_call 33; refine (within_any _ _ _ (by omega) (by omega)).mono ?_; rintro e w' ⟨rfl, rfl⟩)
  all_goals go_ret
  all_goals refine ⟨ret_bool ?_, ha⟩
  all_goals simp
  all_goals omega
/-- The slice's places hold the points X k, Y k. -/
def Pts (w : World) (B : Nat) (A : Option Addr) (n : Nat) (X Y : Nat → Int) : Prop :=
  ∀ k, k < n → ∃ b off, A = some ⟨b, off, none⟩ ∧ b < B ∧ w.cell? ⟨b, off + k * 2, none⟩ = some (.int .i64 (X k)) ∧ w.cell? ⟨b, off + k * 2 + 1, none⟩ = some (.int .i64 (Y k))
theorem Pts.below {w w' : World} {B : Nat} {A : Option Addr} {n : Nat} {X Y : Nat → Int} (h : Pts w B A n X Y) (hb : Below B w w') : Pts w' B A n X Y := by
  intro k hk
  obtain ⟨b, off, hA, hB, h0, h1⟩ := h k hk
  exact ⟨b, off, hA, hB, (hb.cell (p := ⟨b, _, none⟩) hB).trans h0, (hb.cell (p := ⟨b, _, none⟩) hB).trans h1⟩
theorem Pts.more {w : World} {B B' : Nat} {A : Option Addr} {n : Nat} {X Y : Nat → Int} (h : Pts w B A n X Y) (hB : B ≤ B') : Pts w B' A n X Y := by
  intro k hk
  obtain ⟨b, off, hA, hB, h0, h1⟩ := h k hk
  exact ⟨b, off, hA, by omega, h0, h1⟩
def allB (X Y : Nat → Int) (n : Nat) : Bool := (List.range n).all fun i => ptB (X i) (Y i)
theorem allB_zero (X Y : Nat → Int) : allB X Y 0 = true := rfl
theorem allB_succ (X Y : Nat → Int) (n : Nat) : allB X Y (n + 1) = (allB X Y n && ptB (X n) (Y n)) := by
  unfold allB
  rw [List.range_succ, List.all_append]
  simp
theorem allB_false {X Y : Nat → Int} {n k : Nat} (hk : k < n) (h : ptB (X k) (Y k) = false) : allB X Y n = false := by
  unfold allB
  rw [List.all_eq_false]
  exact ⟨k, by simpa using hk, by simp [h]⟩
set_option maxHeartbeats 800000 in
theorem allValid_any (A : Option Addr) (n c : Nat) (X Y : Nat → Int) (w : World) (hn : n ≤ 9223372036854775807) (hp : Pts w w.heap.size A n X Y) :
    Calls Try.prog 32 #[.slice A n c] w fun e w' => e = .returned (.bool (allB X Y n)) ∧ Below w.heap.size w w' := by
  go_enter Try.func32, Try.ntmps32
  go_wp2
  go_loopw [7] (fun i wr => ∃ k : Nat, k ≤ n ∧ i = .int .i64 k ∧ allB X Y k = true ∧ Below w.heap.size w wr) (fun i _ => n - (intOf i).toNat)
  case atStart => exact ⟨0, Nat.zero_le _, rfl, rfl, Below.refl _ _⟩
  case round =>
    obtain ⟨k, hk, rfl, hall, hbr⟩ := hrel
    have HALL := Lib.hid hall
    clear hall
    by_cases hlt : k < n
    · obtain ⟨b, off, rfl, hB, h0, h1⟩ := hp.below hbr k hlt
      have hz := hbr.size
      have hB' : b < wr.heap.size := by omega
      clear hp
      go_wp2_with (go_at_call 17; refine (implValid_any _ _ _).mono ?_; rintro e w1 ⟨rfl, hb1⟩)
      · have hv : ptB (X k) (Y k) = false := by simpa using ‹(!ptB (X k) (Y k)) = true›
        go_ret
        exact ⟨ret_bool (allB_false hlt hv).symm, bt (hbr.alloc hz _) hb1 (by simp; omega)⟩
      · have hv : ptB (X k) (Y k) = true := by simpa using ‹(!ptB (X k) (Y k)) = false›
        refine ⟨⟨k + 1, by omega, by go_num, ?_, bt (hbr.alloc hz _) hb1 (by simp; omega)⟩, by simp [intOf]; omega⟩
        rw [allB_succ, HALL.out, hv]
        rfl
    · clear hp
      have hk' : n = k := by omega
      subst hk'
      go_wp2
      go_ret
      exact ⟨ret_bool HALL.out.symm, hbr⟩
/-- Twice the signed area. -/
def crossI (ax ay bx b_y cx cy : Int) : Int := (bx - ax) * (cy - ay) - (b_y - ay) * (cx - ax)
theorem mul_bd {x y : Int} (a b : Int) (hx : -a ≤ x ∧ x ≤ a) (hy : -b ≤ y ∧ y ≤ b) : -(a * b) ≤ x * y ∧ x * y ≤ a * b := by
  have h : (x * y).natAbs ≤ (a * b).natAbs := by
    rw [Int.natAbs_mul, Int.natAbs_mul]
    exact Nat.mul_le_mul (by omega) (by omega)
  have h2 : 0 ≤ a * b := Int.mul_nonneg (by omega) (by omega)
  omega
/-- The products of a cross product of valid points. -/
theorem cross_bd {ax ay bx b_y cx cy : Int} (ha : ptB ax ay = true) (hb : ptB bx b_y = true) (hc : ptB cx cy = true) :
    ((-2000 ≤ bx - ax ∧ bx - ax ≤ 2000) ∧ (-2000 ≤ b_y - ay ∧ b_y - ay ≤ 2000) ∧ (-2000 ≤ cx - ax ∧ cx - ax ≤ 2000) ∧ (-2000 ≤ cy - ay ∧ cy - ay ≤ 2000)) ∧
    (-4000000 ≤ (bx - ax) * (cy - ay) ∧ (bx - ax) * (cy - ay) ≤ 4000000) ∧ (-4000000 ≤ (b_y - ay) * (cx - ax) ∧ (b_y - ay) * (cx - ax) ≤ 4000000) := by
  have a1 := ptB_true ha
  have b1 := ptB_true hb
  have c1 := ptB_true hc
  refine ⟨by omega, ?_, ?_⟩
  · have := mul_bd (x := bx - ax) (y := cy - ay) 2000 2000 (by omega) (by omega)
    omega
  · have := mul_bd (x := b_y - ay) (y := cx - ax) 2000 2000 (by omega) (by omega)
    omega
theorem specCross_any (ax ay bx b_y cx cy : Int) (w : World) (ha : ptB ax ay = true) (hb : ptB bx b_y = true) (hc : ptB cx cy = true) :
    Calls Try.prog 45 #[.agg #[.int .i64 ax, .int .i64 ay], .agg #[.int .i64 bx, .int .i64 b_y], .agg #[.int .i64 cx, .int .i64 cy]] w fun e w' => e = .returned (.int .i64 (crossI ax ay bx b_y cx cy)) ∧ Below w.heap.size w w' := by
  have bd := cross_bd ha hb hc
  have a1 := ptB_true ha
  have b1 := ptB_true hb
  have c1 := ptB_true hc
  clear ha hb hc
  go_enter Try.func45, Try.ntmps45
  go_wp2
  go_ret
  exact ⟨rfl, (((Below.refl _ _).alloc (by simp) _).alloc (by simp) _).alloc (by simp; omega) _⟩
theorem minus_any (ax ay bx b_y : Int) (w : World) (h1 : -4000000 ≤ ax - bx ∧ ax - bx ≤ 4000000) (h2 : -4000000 ≤ ay - b_y ∧ ay - b_y ≤ 4000000) :
    Calls Try.prog 34 #[.agg #[.int .i64 ax, .int .i64 ay], .agg #[.int .i64 bx, .int .i64 b_y]] w fun e w' => e = .returned (.agg #[.int .i64 (ax - bx), .int .i64 (ay - b_y)]) ∧ Below w.heap.size w w' := by
  go_enter Try.func34, Try.ntmps34
  go_wp2
  exact bodyPost_ret (v := .agg #[.int .i64 (ax - bx), .int .i64 (ay - b_y)]) (by simp [results, Try.results34, go_sem]) rfl ⟨rfl, (((Below.refl _ _).alloc (by simp) _).alloc (by simp) _).alloc (by simp; omega) _⟩
theorem pcross_any (ax ay bx b_y : Int) (w : World) (h1 : -4000000000000000000 ≤ ax * b_y ∧ ax * b_y ≤ 4000000000000000000) (h2 : -4000000000000000000 ≤ ay * bx ∧ ay * bx ≤ 4000000000000000000) :
    Calls Try.prog 43 #[.agg #[.int .i64 ax, .int .i64 ay], .agg #[.int .i64 bx, .int .i64 b_y]] w fun e w' => e = .returned (.int .i64 (ax * b_y - ay * bx)) ∧ Below w.heap.size w w' := by
  go_enter Try.func43, Try.ntmps43
  go_wp2
  go_ret
  exact ⟨rfl, ((Below.refl _ _).alloc (by simp) _).alloc (by simp) _⟩
theorem pdot_any (ax ay bx b_y : Int) (w : World) (h1 : -4000000000000000000 ≤ ax * bx ∧ ax * bx ≤ 4000000000000000000) (h2 : -4000000000000000000 ≤ ay * b_y ∧ ay * b_y ≤ 4000000000000000000) :
    Calls Try.prog 35 #[.agg #[.int .i64 ax, .int .i64 ay], .agg #[.int .i64 bx, .int .i64 b_y]] w fun e w' => e = .returned (.int .i64 (ax * bx + ay * b_y)) ∧ Below w.heap.size w w' := by
  go_enter Try.func35, Try.ntmps35
  go_wp2
  go_ret
  exact ⟨rfl, ((Below.refl _ _).alloc (by simp) _).alloc (by simp) _⟩
def pick3 (a b c : Int) : Nat → Int
  | 0 => a
  | 1 => b
  | _ => c
def pick2 (a b : Int) : Nat → Int
  | 0 => a
  | _ => b
theorem allB3 (ax ay bx b_y cx cy : Int) : allB (pick3 ax bx cx) (pick3 ay b_y cy) 3 = (ptB ax ay && ptB bx b_y && ptB cx cy) := by
  rw [allB_succ, allB_succ, allB_succ, allB_zero]
  simp [pick3]
theorem allB2 (ax ay bx b_y : Int) : allB (pick2 ax bx) (pick2 ay b_y) 2 = (ptB ax ay && ptB bx b_y) := by
  rw [allB_succ, allB_succ, allB_zero]
  simp [pick2]
/-! ### Squared distances -/
/-- The slice's places hold the numbers Z k. -/
def Ints (w : World) (B : Nat) (A : Option Addr) (n : Nat) (Z : Nat → Int) : Prop :=
  ∀ k, k < n → ∃ b off, A = some ⟨b, off, none⟩ ∧ b < B ∧ w.cell? ⟨b, off + k, none⟩ = some (.int .i64 (Z k))
theorem Ints.below {w w' : World} {B : Nat} {A : Option Addr} {n : Nat} {Z : Nat → Int} (h : Ints w B A n Z) (hb : Below B w w') : Ints w' B A n Z := by
  intro k hk
  obtain ⟨b, off, hA, hB, h0⟩ := h k hk
  exact ⟨b, off, hA, hB, (hb.cell (p := ⟨b, _, none⟩) hB).trans h0⟩
/-- What the rounds of Euclid's loop leave alone. -/
def GI (a b G : Int) : Prop := gI a b = G
theorem GI.next {a b G : Int} (h : GI a b G) : GI b (a.tmod b) G := (gI_step a b).trans h
theorem GI.step {a b G : Int} (h : GI a b G) (h0 : 0 ≤ a) : GI b (a % b) G := by
  rw [← Int.tmod_eq_emod_of_nonneg h0]
  exact h.next
theorem q0 {P : Program} {f : FuncId} {args : Array Value} {w : World} {v : Value} (h : Calls P f args w fun e w' => e = .returned v ∧ w = w') : Calls P f args w fun e w' => e = .returned v ∧ w' = w :=
  h.mono fun _ _ ⟨a, b⟩ => ⟨a, b.symm⟩
/-- A cell that was just written. -/
theorem set_same {w : World} {a : Addr} {u : Value} (v : Value) (c : w.cell? a = some u) : (w.setCell a v).cell? a = some v := World.cell?_setCell_same w a v c
theorem set_next {w : World} {g : Nat} {u : Value} (v : Value) (c : w.cell? ⟨g, 1, none⟩ = some u) : (w.setCell ⟨g, 0, none⟩ v).cell? ⟨g, 1, none⟩ = some u :=
  (World.cell?_setCell_other w ⟨g, 0, none⟩ ⟨g, 1, none⟩ v (by simp)).trans c
theorem keepS {W : World} {b i : Nat} {v : Value} {o o' : Obj} (hb : b < W.heap.size) (h : (W.alloc o).cell? ⟨b, i, none⟩ = some v) : (W.alloc o').cell? ⟨b, i, none⟩ = some v := by
  rw [World.cell?_alloc_lt W _ ⟨b, i, none⟩ hb] at h ⊢
  exact h
theorem keepF {W : World} {b i g j : Nat} {u v : Value} (hb : b < g) (h : W.cell? ⟨b, i, none⟩ = some v) : (W.setCell ⟨g, j, none⟩ u).cell? ⟨b, i, none⟩ = some v :=
  (World.cell?_setCell_other _ ⟨g, j, none⟩ ⟨b, i, none⟩ u (fun e => by injection e; omega)).trans h
theorem pair_0 {w : World} {g : Nat} {u : Value} (v0 v1 : Value) (c : w.cell? ⟨g, 0, none⟩ = some u) : ((w.setCell ⟨g, 0, none⟩ v0).setCell ⟨g, 1, none⟩ v1).cell? ⟨g, 0, none⟩ = some v0 :=
  (World.cell?_setCell_other _ ⟨g, 1, none⟩ ⟨g, 0, none⟩ v1 (by simp)).trans (set_same v0 c)
theorem pair_1 {w : World} {g : Nat} {u : Value} (v0 v1 : Value) (c : w.cell? ⟨g, 1, none⟩ = some u) : ((w.setCell ⟨g, 0, none⟩ v0).setCell ⟨g, 1, none⟩ v1).cell? ⟨g, 1, none⟩ = some v1 :=
  set_same v1 (set_next v0 c)
theorem pair_below {a w : World} {g : Nat} (v0 v1 : Value) (h : a.heap.size ≤ g) (hb : Below a.heap.size a w) : Below a.heap.size a ((w.setCell ⟨g, 0, none⟩ v0).setCell ⟨g, 1, none⟩ v1) :=
  (hb.setCell (p := ⟨g, 0, none⟩) h v0).setCell (p := ⟨g, 1, none⟩) h v1
end Go.Proofs.Ytbhdhejefpdjfaa
