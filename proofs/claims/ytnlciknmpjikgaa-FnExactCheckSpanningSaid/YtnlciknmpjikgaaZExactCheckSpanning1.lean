/-
  Texts that the proof needs, merged. Written by an AI agent.
-/
import Derived.Orders
import Derived.Below
import Derived.OrdersIn
import Derived.Deep.LoopGhost
import Derived.WalkKit
import Derived.Laws.CopyRow
import Derived.Laws.AppendOwn
import Derived.Laws.Slices
import Derived.Laws.MakeOwn
import Derived.Test.YtnlciknmpjikgaaRows
import Derived.ProofKit
import Derived.OpenShut
import Derived.Carry
import Derived.IntWalk
import Derived.Test.YtnlciknmpjikgaaProg
import Derived.WalkSpells
import Derived.WalkLawsBesides
import Derived.Lib.Hide
import Derived.Deep.QuietTactic
import Derived.BigQuiet
import Derived.KernelRfl
import Derived.Deep.RegionHeld3
import Derived.LoopTactic
import Derived.Laws.StructEq
import Derived.Laws.Tables
import Derived.RangeFuncNested
import Derived.RangeFuncLeaves
import Derived.Deep.Slices
import Derived.Deep.Fields
import Derived.ChangeSame
import Derived.Test.YtnlciknmpjikgaaZExactCheckSpanning0
namespace Go.Proofs.Ytnlciknmpjikgaa
set_option linter.all false
open Go.ChangeShapes Go.WideShapes Go.ChangeAt Go.RowKit
open Go.RowKit
theorem own : ownKnob Try.prog.godebug = none := by kernel_rfl
theorem laid_out : laidOutB Try.prog = true := by kernel_rfl
theorem u3 : Try.prog.underlying 3 = some (.int .i64) := by kernel_rfl
theorem u4 : Try.prog.underlying 4 = some .bool := by kernel_rfl
section
variable {H : Type} {enc : TypeId × Value → H} {P : Program} {W W' : World}
/-- Below the heap's old size nothing has turned: every argument reads as it did. -/
theorem trodAll_stays (hl : laidOutB P = true) (hb : Below W.heap.size W W') : ∀ {ts : List TypeId} {vs : List Value} {ds : List (DataW H)} {ps : List MemPlace},
    (∀ t ∈ ts, P.readableRec t = true ∧ t < P.types.size) → DataW.TrodAll enc P W 0 (fun _ => true) true ts vs ds ps → (∀ x ∈ ps, x.block < W.heap.size) →
    DataW.TrodAll enc P W' 0 (fun b => decide (b < W.heap.size)) true ts vs ds ps
  | [], _, _, _, _, h, _ => by
    obtain ⟨rfl, rfl, rfl⟩ := trodAll_nil h
    exact trodAll_mk0
  | t :: ts, _, _, _, ht, h, hp => by
    obtain ⟨v, vs1, d, ds1, a, b, rfl, rfl, rfl, h1, h2⟩ := trodAll_cons h
    refine ⟨a, b, ?_, trodAll_stays hl hb (fun t h => ht t (List.mem_cons_of_mem _ h)) h2 fun x hx => hp x (List.mem_append_right _ hx), rfl⟩
    exact Below.trod hl (ht t (List.mem_cons_self ..)).1 (ht t (List.mem_cons_self ..)).2 h1 hb fun x hx => hp x (List.mem_append_left _ hx)
theorem law_post {f : Func} {s : ChangeSpec} {args : Array Value} {ds gs : List (DataW H)} {before : List MemPlace} (hl : laidOutB P = true) (h4 : P.underlying 4 = some .bool) (hr : f.resultTypes = #[4]) (hs : s.vars = [])
    (hts : ∀ t ∈ f.params.toList, P.readableRec t = true ∧ t < P.types.size)
    (hfn : (s.fn H (ds ++ gs)).results = [.lit (.bool true)] ∧ (s.fn H (ds ++ gs)).args = ds ∧ (s.fn H (ds ++ gs)).vars = [])
    (hW : DataW.Whole enc P f.params.toList s.vars false W args.toList ds gs before) (hb : Below W.heap.size W W') :
    s.post enc P f false true false false W args (.bool true) W' := by
  have hlt : ∀ p ∈ before, p.block < W.heap.size := fun p hp => by simpa using hW.lt p hp
  have hW0 := hW
  obtain ⟨p, q, hA, hV, rfl, _, _⟩ := hW0
  rw [hs] at hV
  obtain ⟨rfl, rfl⟩ := trodVars_none hV
  refine ⟨ds, [], _, [], p, [], hW, ?_, ?_, ?_, hb.frame _, fun h => by cases h⟩
  · rw [hfn.1, hr]
    exact trodAll_mk1 (shut_bool h4 _)
  · rw [hfn.2.1]
    exact trodAll_stays hl hb hts hA fun x hx => hlt x (by simpa using hx)
  · rw [hfn.2.2, hs]
    rfl
end
/-- The greatest common divisor as a number. -/
def gI (a b : Int) : Int := (Int.gcd a b : Int)
theorem gI_step (a b : Int) : gI b (a.tmod b) = gI a b := by
  unfold gI
  have h : Int.gcd b (a.tmod b) = Int.gcd a b := by
    rw [Int.gcd, Int.gcd, Int.natAbs_tmod, Nat.gcd_comm a.natAbs b.natAbs, Nat.gcd_rec b.natAbs a.natAbs, Nat.gcd_comm]
  rw [h]
theorem ret_bool {a b : Bool} (h : a = b) : Ending.returned (.bool a) = .returned (.bool b) := by rw [h]
theorem ret_int {k : IntKind} {a b : Int} (h : a = b) : Ending.returned (.int k a) = .returned (.int k b) := by rw [h]
theorem bt {B : Nat} {a b c : World} (h : Below B a b) (k : Below b.heap.size b c) (hB : B ≤ b.heap.size) : Below B a c := h.trans (k.mono hB)
theorem nr (a : World) : Below a.heap.size a a := Below.refl _ _
/-- Both coordinates are in range. -/
def ptB (x y : Int) : Bool := decide (-1000 ≤ x ∧ x ≤ 1000 ∧ -1000 ≤ y ∧ y ≤ 1000)
theorem ptB_of {x y : Int} : ptB x y = (decide (-1000 ≤ x) && decide (x ≤ 1000) && (decide (-1000 ≤ y) && decide (y ≤ 1000))) := by
  unfold ptB
  rw [Bool.eq_iff_iff]
  simp
  omega
theorem within_any (n hi : Int) (w : World) (h0 : -4611686018427387904 ≤ hi) (h1 : hi ≤ 4611686018427387904) :
    Calls Try.prog 89 #[.int .i64 n, .int .i64 hi] w fun e w' => e = .returned (.bool (decide (-hi ≤ n) && decide (n ≤ hi))) ∧ w = w' := by
  go_enter Try.func89, Try.ntmps89
  go_wp2
  all_goals go_ret
  all_goals simp
  all_goals omega
theorem implValid_any (x y : Int) (w : World) :
    Calls Try.prog 50 #[.agg #[.int .i64 x, .int .i64 y]] w fun e w' => e = .returned (.bool (ptB x y)) ∧ Below w.heap.size w w' := by
  have ha : Below w.heap.size w (w.alloc (.cells #[.int .i64 x, .int .i64 y] 31)) := (Below.refl _ _).alloc (Nat.le_refl _) _
  rw [ptB_of]
  go_enter Try.func50, Try.ntmps50
  go_wp2_with (go_at_call 89; refine (within_any _ _ _ (by omega) (by omega)).mono ?_; rintro e w' ⟨rfl, rfl⟩)
  all_goals go_ret
  all_goals refine ⟨ret_bool ?_, ha⟩
  all_goals simp
  all_goals omega
/-- The slice's places hold the points X k, Y k. -/
def Pts (w : World) (B : Nat) (A : Option Addr) (n : Nat) (X Y : Nat → Int) : Prop :=
  ∀ k, k < n → ∃ b off, A = some ⟨b, off, none⟩ ∧ b < B ∧ w.cell? ⟨b, off + k * 2, none⟩ = some (.int .i64 (X k)) ∧ w.cell? ⟨b, off + k * 2 + 1, none⟩ = some (.int .i64 (Y k))
theorem Pts.below {w w' : World} {B : Nat} {A : Option Addr} {n : Nat} {X Y : Nat → Int} (h : Pts w B A n X Y) (hb : Below B w w') : Pts w' B A n X Y := by
  intro k hk
  obtain ⟨b, off, hA, hB, h0, h1⟩ := h k hk
  exact ⟨b, off, hA, hB, (hb.cell (p := ⟨b, _, none⟩) hB).trans h0, (hb.cell (p := ⟨b, _, none⟩) hB).trans h1⟩
theorem Pts.more {w : World} {B B' : Nat} {A : Option Addr} {n : Nat} {X Y : Nat → Int} (h : Pts w B A n X Y) (hB : B ≤ B') : Pts w B' A n X Y := by
  intro k hk
  obtain ⟨b, off, hA, hB, h0, h1⟩ := h k hk
  exact ⟨b, off, hA, by omega, h0, h1⟩
def allB (X Y : Nat → Int) (n : Nat) : Bool := (List.range n).all fun i => ptB (X i) (Y i)
theorem allB_zero (X Y : Nat → Int) : allB X Y 0 = true := rfl
theorem allB_succ (X Y : Nat → Int) (n : Nat) : allB X Y (n + 1) = (allB X Y n && ptB (X n) (Y n)) := by
  unfold allB
  rw [List.range_succ, List.all_append]
  simp
theorem allB_false {X Y : Nat → Int} {n k : Nat} (hk : k < n) (h : ptB (X k) (Y k) = false) : allB X Y n = false := by
  unfold allB
  rw [List.all_eq_false]
  exact ⟨k, by simpa using hk, by simp [h]⟩
set_option maxHeartbeats 800000 in
theorem allValid_any (A : Option Addr) (n c : Nat) (X Y : Nat → Int) (w : World) (hn : n ≤ 9223372036854775807) (hp : Pts w w.heap.size A n X Y) :
    Calls Try.prog 80 #[.slice A n c] w fun e w' => e = .returned (.bool (allB X Y n)) ∧ Below w.heap.size w w' := by
  go_enter Try.func80, Try.ntmps80
  go_wp2
  go_loopw [7] (fun i wr => ∃ k : Nat, k ≤ n ∧ i = .int .i64 k ∧ allB X Y k = true ∧ Below w.heap.size w wr) (fun i _ => n - (intOf i).toNat)
  case atStart => exact ⟨0, Nat.zero_le _, rfl, rfl, Below.refl _ _⟩
  case round =>
    obtain ⟨k, hk, rfl, hall, hbr⟩ := hrel
    have HALL := Lib.hid hall
    clear hall
    by_cases hlt : k < n
    · obtain ⟨b, off, rfl, hB, h0, h1⟩ := hp.below hbr k hlt
      have hz := hbr.size
      have hB' : b < wr.heap.size := by omega
      clear hp
      go_wp2_with (go_at_call 50; refine (implValid_any _ _ _).mono ?_; rintro e w1 ⟨rfl, hb1⟩)
      · have hv : ptB (X k) (Y k) = false := by simpa using ‹(!ptB (X k) (Y k)) = true›
        go_ret
        exact ⟨ret_bool (allB_false hlt hv).symm, bt (hbr.alloc hz _) hb1 (by simp; omega)⟩
      · have hv : ptB (X k) (Y k) = true := by simpa using ‹(!ptB (X k) (Y k)) = false›
        refine ⟨⟨k + 1, by omega, by go_num, ?_, bt (hbr.alloc hz _) hb1 (by simp; omega)⟩, by simp [intOf]; omega⟩
        rw [allB_succ, HALL.out, hv]
        rfl
    · clear hp
      have hk' : n = k := by omega
      subst hk'
      go_wp2
      go_ret
      exact ⟨ret_bool HALL.out.symm, hbr⟩
theorem mul_bd {x y : Int} (a b : Int) (hx : -a ≤ x ∧ x ≤ a) (hy : -b ≤ y ∧ y ≤ b) : -(a * b) ≤ x * y ∧ x * y ≤ a * b := by
  have h : (x * y).natAbs ≤ (a * b).natAbs := by
    rw [Int.natAbs_mul, Int.natAbs_mul]
    exact Nat.mul_le_mul (by omega) (by omega)
  have h2 : 0 ≤ a * b := Int.mul_nonneg (by omega) (by omega)
  omega
def pick3 (a b c : Int) : Nat → Int
  | 0 => a
  | 1 => b
  | _ => c
def pick2 (a b : Int) : Nat → Int
  | 0 => a
  | _ => b
theorem allB3 (ax ay bx b_y cx cy : Int) : allB (pick3 ax bx cx) (pick3 ay b_y cy) 3 = (ptB ax ay && ptB bx b_y && ptB cx cy) := by
  rw [allB_succ, allB_succ, allB_succ, allB_zero]
  simp [pick3]
theorem allB2 (ax ay bx b_y : Int) : allB (pick2 ax bx) (pick2 ay b_y) 2 = (ptB ax ay && ptB bx b_y) := by
  rw [allB_succ, allB_succ, allB_zero]
  simp [pick2]
/-! ### Squared distances -/
/-- The slice's places hold the numbers Z k. -/
def Ints (w : World) (B : Nat) (A : Option Addr) (n : Nat) (Z : Nat → Int) : Prop :=
  ∀ k, k < n → ∃ b off, A = some ⟨b, off, none⟩ ∧ b < B ∧ w.cell? ⟨b, off + k, none⟩ = some (.int .i64 (Z k))
theorem Ints.below {w w' : World} {B : Nat} {A : Option Addr} {n : Nat} {Z : Nat → Int} (h : Ints w B A n Z) (hb : Below B w w') : Ints w' B A n Z := by
  intro k hk
  obtain ⟨b, off, hA, hB, h0⟩ := h k hk
  exact ⟨b, off, hA, hB, (hb.cell (p := ⟨b, _, none⟩) hB).trans h0⟩
/-- What the rounds of Euclid's loop leave alone. -/
def GI (a b G : Int) : Prop := gI a b = G
theorem GI.next {a b G : Int} (h : GI a b G) : GI b (a.tmod b) G := (gI_step a b).trans h
theorem GI.step {a b G : Int} (h : GI a b G) (h0 : 0 ≤ a) : GI b (a % b) G := by
  rw [← Int.tmod_eq_emod_of_nonneg h0]
  exact h.next
theorem abs_any (n : Int) (w : World) (h : -9223372036854775807 ≤ n) :
    Calls Try.prog 95 #[.int .i64 n] w fun e w' => e = .returned (.int .i64 (n.natAbs : Int)) ∧ w = w' := by
  by_cases h1 : n < 0
  · go_enter Try.func95, Try.ntmps95
    go_wp2
    go_ret
    exact ⟨ret_int (by omega), rfl⟩
  · go_enter Try.func95, Try.ntmps95
    go_wp2
    go_ret
    exact ⟨ret_int (by omega), rfl⟩
theorem q0 {P : Program} {f : FuncId} {args : Array Value} {w : World} {v : Value} (h : Calls P f args w fun e w' => e = .returned v ∧ w = w') : Calls P f args w fun e w' => e = .returned v ∧ w' = w :=
  h.mono fun _ _ ⟨a, b⟩ => ⟨a, b.symm⟩
end Go.Proofs.Ytnlciknmpjikgaa
