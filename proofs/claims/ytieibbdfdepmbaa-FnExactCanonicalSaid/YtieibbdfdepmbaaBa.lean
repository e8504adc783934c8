/-
  What every law of this seat shares on the row's side: arguments made of integers are opened out of the form's own promise on values; arguments read behind the call as they read before; the row's post. Written by an AI agent.
-/
import Derived.Test.YtieibbdfdepmbaaRows
import Derived.WalkKit
import Derived.ProofKit
import Derived.OpenShut
import Derived.Carry
import Derived.IntWalk
import Derived.Test.YtieibbdfdepmbaaProg
import Derived.WalkSpells
import Derived.WalkLawsBesides
import Derived.Lib.Hide
import Derived.Deep.QuietTactic
import Derived.BigQuiet
import Derived.KernelRfl
import Derived.Deep.RegionHeld3
import Derived.LoopTactic
namespace Go.Proofs.Ytieibbdfdepmbaa
set_option linter.all false
open Go.ChangeShapes Go.WideShapes Go.ChangeAt Go.RowKit
open Go.RowKit

theorem own : ownKnob Try.prog.godebug = none := by kernel_rfl
theorem laid_out : laidOutB Try.prog = true := by kernel_rfl
theorem u3 : Try.prog.underlying 3 = some (.int .i64) := by kernel_rfl
theorem u4 : Try.prog.underlying 4 = some .bool := by kernel_rfl

/-- An integer that an int holds. -/
def I64 (x : Int) : Prop := -9223372036854775808 ≤ x ∧ x ≤ 9223372036854775807

set_option maxRecDepth 100000 in
theorem cell_int {w : World} {r : Reach} {b : Nat} {v : Value} (h : Cell.okWide Try.prog w r b 3 v) : ∃ n, v = .int .i64 n ∧ I64 n := by
  cases v <;> simp [Cell.okWide, Cell.ok] at h
  rename_i k n
  obtain ⟨rfl, hn⟩ := h
  refine ⟨n, rfl, ?_⟩
  simp [IntKind.has, IntKind.min, IntKind.max, IntKind.signed, IntKind.bits] at hn
  unfold I64
  omega
set_option maxRecDepth 100000 in
theorem val_int {w : World} {r : Reach} {b : Nat} {v : Value} (h : Value.okWide Try.prog w r b 3 v) : ∃ n, v = .int .i64 n ∧ I64 n := by
  simp only [Value.okWide, u3] at h
  exact cell_int h

set_option maxRecDepth 100000 in
/-- A struct all of whose cells are ints. -/
theorem val_agg {t : TypeId} {fs : Array Field} (k : Nat) (hk : 0 < k) (ht : Try.prog.underlying t = some (.struct fs)) (hc : Try.prog.cellsOf t = k) (hct : Try.prog.cellTypes Try.prog.depth t = some (List.replicate k 3))
    {w : World} {r : Reach} {b : Nat} {v : Value} (h : Value.okWide Try.prog w r b t v) :
    ∃ xs : List Int, xs.length = k ∧ v = .agg (xs.map (Value.int .i64)).toArray ∧ ∀ x ∈ xs, I64 x := by
  simp only [Value.okWide, ht] at h
  obtain ⟨cs, rfl, hsz, ts, hts, _, hcell⟩ := h
  rw [hct] at hts
  injection hts with hts
  subst hts
  rw [hc] at hsz
  have each : ∀ v ∈ cs.toList, ∃ n, v = .int .i64 n ∧ I64 n := by
    intro v hv
    obtain ⟨i, hi, rfl⟩ := List.getElem_of_mem hv
    have hi' : i < cs.size := by simpa using hi
    obtain ⟨u, hu, hok⟩ := hcell i cs[i] (by simp [hi'])
    have hu3 : u = 3 := by
      rw [List.length_replicate] at hu
      have hm : i % k < k := Nat.mod_lt _ hk
      simp [hm] at hu
      exact hu.symm
    subst hu3
    obtain ⟨n, hn⟩ := cell_int (w := w) (r := r) (b := b) (v := cs[i]) hok
    exact ⟨n, hn⟩
  have all : ∀ l : List Value, (∀ v ∈ l, ∃ n, v = .int .i64 n ∧ I64 n) → ∃ xs : List Int, l = xs.map (Value.int .i64) ∧ ∀ x ∈ xs, I64 x := by
    intro l
    induction l with
    | nil => exact fun _ => ⟨[], rfl, by simp⟩
    | cons v l ih =>
      intro hl
      obtain ⟨n, rfl, hn⟩ := hl _ (List.mem_cons_self ..)
      obtain ⟨xs, rfl, hxs⟩ := ih fun v hv => hl v (List.mem_cons_of_mem _ hv)
      exact ⟨n :: xs, rfl, by
        intro x hx
        rcases List.mem_cons.1 hx with rfl | hx
        · exact hn
        · exact hxs x hx⟩
  obtain ⟨xs, hxs, hr⟩ := all _ each
  refine ⟨xs, ?_, ?_, hr⟩
  · have := congrArg List.length hxs
    simp at this
    omega
  · rw [← hxs]

theorem two {xs : List Int} (h : xs.length = 2) : ∃ a b, xs = [a, b] := by
  match xs, h with
  | [a, b], _ => exact ⟨a, b, rfl⟩
theorem three {xs : List Int} (h : xs.length = 3) : ∃ a b c, xs = [a, b, c] := by
  match xs, h with
  | [a, b, c], _ => exact ⟨a, b, c, rfl⟩
theorem four {xs : List Int} (h : xs.length = 4) : ∃ a b c d, xs = [a, b, c, d] := by
  match xs, h with
  | [a, b, c, d], _ => exact ⟨a, b, c, d, rfl⟩

section
variable {H : Type} {enc : TypeId × Value → H} {P : Program} {W W' : World}
/-- Below the heap's old size nothing has turned: every argument reads as it did. -/
theorem trodAll_stays (hl : laidOutB P = true) (hb : Below W.heap.size W W') : ∀ {ts : List TypeId} {vs : List Value} {ds : List (DataW H)} {ps : List MemPlace},
    (∀ t ∈ ts, P.readableRec t = true ∧ t < P.types.size) → DataW.TrodAll enc P W 0 (fun _ => true) true ts vs ds ps → (∀ x ∈ ps, x.block < W.heap.size) →
    DataW.TrodAll enc P W' 0 (fun b => decide (b < W.heap.size)) true ts vs ds ps
  | [], _, _, _, _, h, _ => by
    obtain ⟨rfl, rfl, rfl⟩ := trodAll_nil h
    exact trodAll_mk0
  | t :: ts, _, _, _, ht, h, hp => by
    obtain ⟨v, vs1, d, ds1, a, b, rfl, rfl, rfl, h1, h2⟩ := trodAll_cons h
    refine ⟨a, b, ?_, trodAll_stays hl hb (fun t h => ht t (List.mem_cons_of_mem _ h)) h2 fun x hx => hp x (List.mem_append_right _ hx), rfl⟩
    exact Below.trod hl (ht t (List.mem_cons_self ..)).1 (ht t (List.mem_cons_self ..)).2 h1 hb fun x hx => hp x (List.mem_append_left _ hx)

theorem law_post {f : Func} {s : ChangeSpec} {args : Array Value} {ds gs : List (DataW H)} {before : List MemPlace} (hl : laidOutB P = true) (h4 : P.underlying 4 = some .bool) (hr : f.resultTypes = #[4]) (hs : s.vars = [])
    (hts : ∀ t ∈ f.params.toList, P.readableRec t = true ∧ t < P.types.size)
    (hfn : (s.fn H (ds ++ gs)).results = [.lit (.bool true)] ∧ (s.fn H (ds ++ gs)).args = ds ∧ (s.fn H (ds ++ gs)).vars = [])
    (hW : DataW.Whole enc P f.params.toList s.vars false W args.toList ds gs before) (hb : Below W.heap.size W W') :
    s.post enc P f false true false false W args (.bool true) W' := by
  have hlt : ∀ p ∈ before, p.block < W.heap.size := fun p hp => by simpa using hW.lt p hp
  have hW0 := hW
  obtain ⟨p, q, hA, hV, rfl, _, _⟩ := hW0
  rw [hs] at hV
  obtain ⟨rfl, rfl⟩ := trodVars_none hV
  refine ⟨ds, [], _, [], p, [], hW, ?_, ?_, ?_, hb.frame _, fun h => by cases h⟩
  · rw [hfn.1, hr]
    exact trodAll_mk1 (shut_bool h4 _)
  · rw [hfn.2.1]
    exact trodAll_stays hl hb hts hA fun x hx => hlt x (by simpa using hx)
  · rw [hfn.2.2, hs]
    rfl
end
/-- The greatest common divisor as a number. -/
def gI (a b : Int) : Int := (Int.gcd a b : Int)
theorem gI_nonneg (a b : Int) : 0 ≤ gI a b := by unfold gI; omega
theorem gI_zero (a : Int) : gI a 0 = (a.natAbs : Int) := by unfold gI; simp
theorem gI_zero_left (a : Int) : gI 0 a = (a.natAbs : Int) := by unfold gI; simp
theorem gI_step (a b : Int) : gI b (a.tmod b) = gI a b := by
  unfold gI
  have h : Int.gcd b (a.tmod b) = Int.gcd a b := by
    rw [Int.gcd, Int.gcd, Int.natAbs_tmod, Nat.gcd_comm a.natAbs b.natAbs, Nat.gcd_rec b.natAbs a.natAbs, Nat.gcd_comm]
  rw [h]
theorem gI_abs (a b : Int) : gI (a.natAbs : Int) b = gI a b := by unfold gI; simp [Int.gcd]
theorem gI_neg_right (a b : Int) : gI a (-b) = gI a b := by unfold gI; simp [Int.gcd]
theorem gI_neg_left (a b : Int) : gI (-a) b = gI a b := by unfold gI; simp [Int.gcd]
theorem gI_of_abs {a a' : Int} (h : a.natAbs = a'.natAbs) (b : Int) : gI a b = gI a' b := by unfold gI Int.gcd; rw [h]
theorem gI_le (a b : Int) (h : b ≠ 0) : gI a b ≤ b.natAbs := by
  unfold gI
  have := Nat.le_of_dvd (Int.natAbs_pos.2 h) (Nat.gcd_dvd_right a.natAbs b.natAbs)
  unfold Int.gcd; omega
theorem gI_pos (a b : Int) (h : b ≠ 0) : 0 < gI a b := by
  unfold gI
  have := Int.gcd_pos_of_ne_zero_right a h
  omega
theorem gI_bd {a b M : Int} (ha : -M ≤ a ∧ a ≤ M) (hb : -M ≤ b ∧ b ≤ M) : 0 ≤ gI a b ∧ gI a b ≤ M := by
  refine ⟨gI_nonneg a b, ?_⟩
  by_cases h : b = 0
  · subst h; rw [gI_zero]; omega
  · have := gI_le a b h; omega
theorem tmod_bd (a b : Int) (hb : b ≠ 0) : (a.tmod b).natAbs < b.natAbs := by
  rw [Int.natAbs_tmod]
  exact Nat.mod_lt _ (Int.natAbs_pos.2 hb)
theorem gI_dvd_left (a b : Int) : gI a b ∣ a := by unfold gI; exact Int.gcd_dvd_left ..
theorem gI_dvd_right (a b : Int) : gI a b ∣ b := by unfold gI; exact Int.gcd_dvd_right ..

/-- The greatest common divisor of a row of numbers. -/
def gL (Z : Nat → Int) : Nat → Int
  | 0 => 0
  | n + 1 => gI (gL Z n) (Z n)

theorem tdiv_bd {a b M : Int} (ha : -M ≤ a ∧ a ≤ M) : -M ≤ a.tdiv b ∧ a.tdiv b ≤ M := by
  have h : (a.tdiv b).natAbs ≤ a.natAbs := by
    rw [Int.natAbs_tdiv]
    exact Nat.div_le_self _ _
  omega

/-- num/den in lowest terms, the denominator positive. -/
def qN (num den : Int) : Int := if den < 0 then (-num).tdiv (gI num den) else num.tdiv (gI num den)
def qD (num den : Int) : Int := if den < 0 then (-den).tdiv (gI num den) else den.tdiv (gI num den)
theorem qN_neg {num den : Int} (h : den < 0) : qN num den = (-num).tdiv (gI num den) := by unfold qN; rw [if_pos h]
theorem qN_pos {num den : Int} (h : ¬ den < 0) : qN num den = num.tdiv (gI num den) := by unfold qN; rw [if_neg h]
theorem qD_neg {num den : Int} (h : den < 0) : qD num den = (-den).tdiv (gI num den) := by unfold qD; rw [if_pos h]
theorem qD_pos {num den : Int} (h : ¬ den < 0) : qD num den = den.tdiv (gI num den) := by unfold qD; rw [if_neg h]
theorem qN_neg' {num den : Int} (h : den < 0) : num.tdiv (-(gI num den)) = qN num den := by rw [qN_neg h, Int.tdiv_neg, Int.neg_tdiv]
theorem qD_neg' {num den : Int} (h : den < 0) : den.tdiv (-(gI num den)) = qD num den := by rw [qD_neg h, Int.tdiv_neg, Int.neg_tdiv]
theorem qD_ge {num den : Int} (h : den ≠ 0) : 1 ≤ qD num den := by
  have hp := gI_pos num den h
  have hl := gI_le num den h
  have key : ∀ d : Int, d.natAbs = den.natAbs → 0 < d → 1 ≤ d.tdiv (gI num den) := by
    intro d hd h0
    rw [Int.tdiv_eq_ediv_of_nonneg (by omega)]
    exact (Int.le_ediv_iff_mul_le hp).2 (by omega)
  by_cases hn : den < 0
  · rw [qD_neg hn]; exact key _ (by omega) (by omega)
  · rw [qD_pos hn]; exact key _ rfl (by omega)
theorem qN_bd {num den M : Int} (h : -M ≤ num ∧ num ≤ M) : -M ≤ qN num den ∧ qN num den ≤ M := by
  by_cases hn : den < 0
  · rw [qN_neg hn]; exact tdiv_bd (by omega)
  · rw [qN_pos hn]; exact tdiv_bd h
theorem qD_bd {num den M : Int} (h : -M ≤ den ∧ den ≤ M) : -M ≤ qD num den ∧ qD num den ≤ M := by
  by_cases hn : den < 0
  · rw [qD_neg hn]; exact tdiv_bd (by omega)
  · rw [qD_pos hn]; exact tdiv_bd h

/-- A fraction is valid. -/
def ratB (n d : Int) : Bool := decide (-100000000000 ≤ n ∧ n ≤ 100000000000 ∧ 1 ≤ d ∧ d ≤ 20000000 ∧ gI n d = 1)
theorem ratB_true {n d : Int} (h : ratB n d = true) : -100000000000 ≤ n ∧ n ≤ 100000000000 ∧ 1 ≤ d ∧ d ≤ 20000000 ∧ gI n d = 1 := of_decide_eq_true h
theorem ratB_mk {n d : Int} (h1 : -100000000000 ≤ n) (h2 : n ≤ 100000000000) (h3 : 1 ≤ d) (h4 : d ≤ 20000000) : ratB n d = decide (gI n d = 1) := by
  unfold ratB
  rw [Bool.eq_iff_iff]
  simp
  omega
theorem ratB_no {n d : Int} (h : ¬ (-100000000000 ≤ n ∧ n ≤ 100000000000 ∧ 1 ≤ d ∧ d ≤ 20000000)) : ratB n d = false := by
  unfold ratB
  rw [decide_eq_false_iff_not]
  rintro ⟨h1, h2, h3, h4, _⟩
  exact h ⟨h1, h2, h3, h4⟩

/-- What 'checked' hands back. -/
def cN (n d : Int) : Int := if ratB n d then n else 0
def cD (n d : Int) : Int := if ratB n d then d else 0
theorem cN_yes {n d : Int} (h : ratB n d = true) : cN n d = n := by unfold cN; rw [h]; rfl
theorem cN_no {n d : Int} (h : ratB n d = false) : cN n d = 0 := by unfold cN; rw [h]; rfl
theorem cD_yes {n d : Int} (h : ratB n d = true) : cD n d = d := by unfold cD; rw [h]; rfl
theorem cD_no {n d : Int} (h : ratB n d = false) : cD n d = 0 := by unfold cD; rw [h]; rfl

/-- What MakeRat hands back. -/
def mkOk (num den : Int) : Bool := decide (den ≠ 0 ∧ -2000000000000000000 ≤ num ∧ num ≤ 2000000000000000000 ∧ -2000000000000000000 ≤ den ∧ den ≤ 2000000000000000000)
def mkN (num den : Int) : Int := if mkOk num den then cN (qN num den) (qD num den) else 0
def mkD (num den : Int) : Int := if mkOk num den then cD (qN num den) (qD num den) else 0
def mkB (num den : Int) : Bool := mkOk num den && ratB (qN num den) (qD num den)
theorem mk_no {num den : Int} (h : ¬ (den ≠ 0 ∧ -2000000000000000000 ≤ num ∧ num ≤ 2000000000000000000 ∧ -2000000000000000000 ≤ den ∧ den ≤ 2000000000000000000)) : mkN num den = 0 ∧ mkD num den = 0 ∧ mkB num den = false := by
  have : mkOk num den = false := decide_eq_false h
  unfold mkN mkD mkB
  rw [this]
  exact ⟨rfl, rfl, rfl⟩
theorem mk_yes {num den : Int} (h : den ≠ 0 ∧ -2000000000000000000 ≤ num ∧ num ≤ 2000000000000000000 ∧ -2000000000000000000 ≤ den ∧ den ≤ 2000000000000000000) :
    mkN num den = cN (qN num den) (qD num den) ∧ mkD num den = cD (qN num den) (qD num den) ∧ mkB num den = ratB (qN num den) (qD num den) := by
  have : mkOk num den = true := decide_eq_true h
  unfold mkN mkD mkB
  rw [this]
  exact ⟨rfl, rfl, rfl⟩

theorem prod_bd {x y : Int} (a b : Int) (hx : -a ≤ x ∧ x ≤ a) (hy : -b ≤ y ∧ y ≤ b) : -(a * b) ≤ x * y ∧ x * y ≤ a * b := by
  have h : (x * y).natAbs ≤ (a * b).natAbs := by
    rw [Int.natAbs_mul, Int.natAbs_mul]
    exact Nat.mul_le_mul (by omega) (by omega)
  have h2 : 0 ≤ a * b := Int.mul_nonneg (by omega) (by omega)
  omega
/-- The products of two valid fractions. -/
theorem rat_bd {an ad bn bd : Int} (ha : ratB an ad = true) (hb : ratB bn bd = true) :
    (-2000000000000000000 ≤ an * bd ∧ an * bd ≤ 2000000000000000000) ∧ (-2000000000000000000 ≤ bn * ad ∧ bn * ad ≤ 2000000000000000000) ∧ (1 ≤ ad * bd ∧ ad * bd ≤ 400000000000000) := by
  have a1 := ratB_true ha
  have b1 := ratB_true hb
  refine ⟨?_, ?_, ?_⟩
  · have := prod_bd (x := an) (y := bd) 100000000000 20000000 (by omega) (by omega)
    omega
  · have := prod_bd (x := bn) (y := ad) 100000000000 20000000 (by omega) (by omega)
    omega
  · have := prod_bd (x := ad) (y := bd) 20000000 20000000 (by omega) (by omega)
    have h : 0 < ad * bd := Int.mul_pos (by omega) (by omega)
    omega
def addB (an ad bn bd : Int) : Bool := ratB an ad && ratB bn bd && ratB (qN (an * bd + bn * ad) (ad * bd)) (qD (an * bd + bn * ad) (ad * bd))
def addN (an ad bn bd : Int) : Int := if ratB an ad && ratB bn bd then cN (qN (an * bd + bn * ad) (ad * bd)) (qD (an * bd + bn * ad) (ad * bd)) else 0
def addD (an ad bn bd : Int) : Int := if ratB an ad && ratB bn bd then cD (qN (an * bd + bn * ad) (ad * bd)) (qD (an * bd + bn * ad) (ad * bd)) else 0
theorem add_no {an ad bn bd : Int} (h : (ratB an ad && ratB bn bd) = false) : addN an ad bn bd = 0 ∧ addD an ad bn bd = 0 ∧ addB an ad bn bd = false := by
  unfold addN addD addB
  rw [h]
  exact ⟨rfl, rfl, rfl⟩
theorem add_yes {an ad bn bd : Int} (h : (ratB an ad && ratB bn bd) = true) : addN an ad bn bd = cN (qN (an * bd + bn * ad) (ad * bd)) (qD (an * bd + bn * ad) (ad * bd)) ∧
    addD an ad bn bd = cD (qN (an * bd + bn * ad) (ad * bd)) (qD (an * bd + bn * ad) (ad * bd)) ∧ addB an ad bn bd = ratB (qN (an * bd + bn * ad) (ad * bd)) (qD (an * bd + bn * ad) (ad * bd)) := by
  unfold addN addD addB
  rw [h]
  exact ⟨rfl, rfl, rfl⟩

/-- The floor of a valid fraction. -/
def flR (n d : Int) : Int := if ratB n d then n / d else 0
theorem flR_no {n d : Int} (h : ratB n d = false) : flR n d = 0 := by unfold flR; rw [h]; rfl
theorem flR_yes {n d : Int} (h : ratB n d = true) : flR n d = n / d := by unfold flR; rw [h]; rfl
theorem tdiv_floor {n d : Int} (hd : 1 ≤ d) (h : n.tmod d < 0) : n.tdiv d - 1 = n / d := by
  have h1 := Int.mul_tdiv_add_tmod n d
  have h2 := Int.lt_tmod_of_pos n (show 0 < d by omega)
  have h3 := Int.mul_ediv_add_emod n d
  have h4 := Int.emod_nonneg n (show d ≠ 0 by omega)
  have h5 := Int.emod_lt_of_pos n (show 0 < d by omega)
  rcases Int.lt_trichotomy (n.tdiv d - 1) (n / d) with c | c | c
  · exfalso
    have := Int.mul_le_mul_of_nonneg_left (show n.tdiv d ≤ n / d by omega) (show 0 ≤ d by omega)
    omega
  · exact c
  · exfalso
    have := Int.mul_le_mul_of_nonneg_left (show n / d + 2 ≤ n.tdiv d by omega) (show 0 ≤ d by omega)
    rw [Int.mul_add] at this
    omega
theorem tdiv_exact {n d : Int} (hd : 1 ≤ d) (h : 0 ≤ n.tmod d) : n.tdiv d = n / d := by
  have h1 := Int.mul_tdiv_add_tmod n d
  have h2 := Int.tmod_lt_of_pos n (show 0 < d by omega)
  have h3 := Int.mul_ediv_add_emod n d
  have h4 := Int.emod_nonneg n (show d ≠ 0 by omega)
  have h5 := Int.emod_lt_of_pos n (show 0 < d by omega)
  rcases Int.lt_trichotomy (n.tdiv d) (n / d) with c | c | c
  · exfalso
    have := Int.mul_le_mul_of_nonneg_left (show n.tdiv d + 1 ≤ n / d by omega) (show 0 ≤ d by omega)
    rw [Int.mul_add] at this
    omega
  · exact c
  · exfalso
    have := Int.mul_le_mul_of_nonneg_left (show n / d + 1 ≤ n.tdiv d by omega) (show 0 ≤ d by omega)
    rw [Int.mul_add] at this
    omega
/-- Whether the model's test takes one off. -/
theorem floor_test {n d : Int} (h : d * n.tdiv d ≤ n) : 0 ≤ n.tmod d := by
  have h1 := Int.mul_tdiv_add_tmod n d
  omega
theorem floor_test' {n d : Int} (h : n < d * n.tdiv d) : n.tmod d < 0 := by
  have h1 := Int.mul_tdiv_add_tmod n d
  omega
theorem both_no {a b : Bool} (h : a = false) : (a && b) = false := by rw [h]; rfl
theorem both_no' {a b : Bool} (h : b = false) : (a && b) = false := by rw [h]; cases a <;> rfl
theorem both_yes {a b : Bool} (h : a = true) (k : b = true) : (a && b) = true := by rw [h, k]; rfl
/-- A value in place of another one that is equal. -/
theorem ret_of {v v' : Value} (h : v = v') : Ending.returned v = .returned v' := by rw [h]
theorem ret_bool {a b : Bool} (h : a = b) : Ending.returned (.bool a) = .returned (.bool b) := by rw [h]
theorem ret_int {k : IntKind} {a b : Int} (h : a = b) : Ending.returned (.int k a) = .returned (.int k b) := by rw [h]

/-- What was there is as it was, behind a callee of which that alone is known. -/
theorem bcell {W w1 : World} (hb : Below W.heap.size W w1) : (∀ b o, b < W.heap.size → w1.cell? ⟨b, o, none⟩ = W.cell? ⟨b, o, none⟩) ∧ (∀ b o, b < W.heap.size → w1.frozen? ⟨b, o, none⟩ = W.frozen? ⟨b, o, none⟩) :=
  ⟨fun b o h => hb.cell (p := ⟨b, o, none⟩) h, fun b o h => hb.frozen (p := ⟨b, o, none⟩) h⟩
theorem bt {B : Nat} {a b c : World} (h : Below B a b) (k : Below b.heap.size b c) (hB : B ≤ b.heap.size) : Below B a c := h.trans (k.mono hB)

theorem na {a w : World} (h : Below a.heap.size a w) (o : Obj) : Below a.heap.size a (w.alloc o) := h.alloc h.size o
theorem nt {a b c : World} (h : Below a.heap.size a b) (k : Below b.heap.size b c) : Below a.heap.size a c := h.trans (k.mono h.size)
theorem nd {a w : World} (h : Below a.heap.size a w) (n : Nat) : Below a.heap.size a (w.drewN n) := ⟨h.os, h.tape, h.output, h.size, h.block⟩
theorem nr (a : World) : Below a.heap.size a a := Below.refl _ _

/-- A cell that is there is as it was, behind a callee that leaves alone what was there. -/
theorem keep1 {W W' : World} {a : Addr} {v : Value} (hx : Below W.heap.size W W') (h : W.cell? a = some v) : W'.cell? a = some v :=
  (hx.cell (World.block_lt_of_cell? W a h)).trans h

theorem keepA {W : World} {a : Addr} {v : Value} (o : Obj) (h : W.cell? a = some v) : (W.alloc o).cell? a = some v :=
  (World.cell?_alloc_lt W o a (World.block_lt_of_cell? W a h)).trans h

/-- The same, and that the first blocks from n on are still there. -/
theorem bc1 {W w1 : World} (n : Nat) (hb : Below W.heap.size W w1) (hn : n + 1 ≤ W.heap.size) : (∀ b o, b < W.heap.size → w1.cell? ⟨b, o, none⟩ = W.cell? ⟨b, o, none⟩) ∧ (∀ b o, b < W.heap.size → w1.frozen? ⟨b, o, none⟩ = W.frozen? ⟨b, o, none⟩) ∧ n < w1.heap.size :=
  ⟨(bcell hb).1, (bcell hb).2, by have := hb.size; omega⟩
theorem bc2 {W w1 : World} (n : Nat) (hb : Below W.heap.size W w1) (hn : n + 2 ≤ W.heap.size) : (∀ b o, b < W.heap.size → w1.cell? ⟨b, o, none⟩ = W.cell? ⟨b, o, none⟩) ∧ (∀ b o, b < W.heap.size → w1.frozen? ⟨b, o, none⟩ = W.frozen? ⟨b, o, none⟩) ∧ n < w1.heap.size ∧ n + 1 < w1.heap.size :=
  ⟨(bcell hb).1, (bcell hb).2, by have := hb.size; omega, by have := hb.size; omega⟩
theorem bc3 {W w1 : World} (n : Nat) (hb : Below W.heap.size W w1) (hn : n + 3 ≤ W.heap.size) : (∀ b o, b < W.heap.size → w1.cell? ⟨b, o, none⟩ = W.cell? ⟨b, o, none⟩) ∧ (∀ b o, b < W.heap.size → w1.frozen? ⟨b, o, none⟩ = W.frozen? ⟨b, o, none⟩) ∧ n < w1.heap.size ∧ n + 1 < w1.heap.size ∧ n + 1 + 1 < w1.heap.size :=
  ⟨(bcell hb).1, (bcell hb).2, by have := hb.size; omega, by have := hb.size; omega, by have := hb.size; omega⟩

/-- Both coordinates are in range. -/
def ptB (x y : Int) : Bool := decide (-1000 ≤ x ∧ x ≤ 1000 ∧ -1000 ≤ y ∧ y ≤ 1000)
theorem ptB_true {x y : Int} (h : ptB x y = true) : -1000 ≤ x ∧ x ≤ 1000 ∧ -1000 ≤ y ∧ y ≤ 1000 := of_decide_eq_true h
theorem ptB_of {x y : Int} : ptB x y = (decide (-1000 ≤ x) && decide (x ≤ 1000) && (decide (-1000 ≤ y) && decide (y ≤ 1000))) := by
  unfold ptB
  rw [Bool.eq_iff_iff]
  simp
  omega

theorem inRange_any (n lo hi : Int) (w : World) :
    Calls Try.prog 93 #[.int .i64 n, .int .i64 lo, .int .i64 hi] w fun e w' => e = .returned (.bool (decide (lo ≤ n) && decide (n ≤ hi))) ∧ w = w' := by
  go_enter Try.func93, Try.ntmps93
  go_wp2
  all_goals go_ret
  all_goals simp
  all_goals omega
theorem within_any (n hi : Int) (w : World) (h0 : -4611686018427387904 ≤ hi) (h1 : hi ≤ 4611686018427387904) :
    Calls Try.prog 95 #[.int .i64 n, .int .i64 hi] w fun e w' => e = .returned (.bool (decide (-hi ≤ n) && decide (n ≤ hi))) ∧ w = w' := by
  go_enter Try.func95, Try.ntmps95
  go_wp2
  all_goals go_ret
  all_goals simp
  all_goals omega
theorem specValid_any (x y : Int) (w : World) :
    Calls Try.prog 58 #[.agg #[.int .i64 x, .int .i64 y]] w fun e w' => e = .returned (.bool (ptB x y)) ∧ Below w.heap.size w w' := by
  have ha : Below w.heap.size w (w.alloc (.cells #[.int .i64 x, .int .i64 y] 32)) := (Below.refl _ _).alloc (Nat.le_refl _) _
  rw [ptB_of]
  go_enter Try.func58, Try.ntmps58
  go_wp2_with (go_at_call 93; refine (inRange_any _ _ _ _).mono ?_; rintro e w' ⟨rfl, rfl⟩)
  all_goals go_ret
  all_goals refine ⟨ret_bool ?_, ha⟩
  all_goals simp
  all_goals omega
theorem implValid_any (x y : Int) (w : World) :
    Calls Try.prog 60 #[.agg #[.int .i64 x, .int .i64 y]] w fun e w' => e = .returned (.bool (ptB x y)) ∧ Below w.heap.size w w' := by
  have ha : Below w.heap.size w (w.alloc (.cells #[.int .i64 x, .int .i64 y] 32)) := (Below.refl _ _).alloc (Nat.le_refl _) _
  rw [ptB_of]
  go_enter Try.func60, Try.ntmps60
  go_wp2_with (go_at_call 95; refine (within_any _ _ _ (by omega) (by omega)).mono ?_; rintro e w' ⟨rfl, rfl⟩)
  all_goals go_ret
  all_goals refine ⟨ret_bool ?_, ha⟩
  all_goals simp
  all_goals omega
theorem toPoint_any (x y : Int) (w : World) :
    Calls Try.prog 21 #[.agg #[.int .i64 x, .int .i64 y]] w fun e w' => e = .returned (.agg #[.int .i64 x, .int .i64 y]) ∧ Below w.heap.size w w' := by
  go_enter Try.func21, Try.ntmps21
  go_wp2
  exact bodyPost_ret (v := .agg #[.int .i64 x, .int .i64 y]) (by simp [results, Try.results21, go_sem]) rfl ⟨rfl, (((Below.refl _ _).alloc (by simp) _).alloc (by simp) _).alloc (by simp; omega) _⟩
/-- The slice's places hold the points X k, Y k. -/
def Pts (w : World) (B : Nat) (A : Option Addr) (n : Nat) (X Y : Nat → Int) : Prop :=
  ∀ k, k < n → ∃ b off, A = some ⟨b, off, none⟩ ∧ b < B ∧ w.cell? ⟨b, off + k * 2, none⟩ = some (.int .i64 (X k)) ∧ w.cell? ⟨b, off + k * 2 + 1, none⟩ = some (.int .i64 (Y k))
theorem Pts.below {w w' : World} {B : Nat} {A : Option Addr} {n : Nat} {X Y : Nat → Int} (h : Pts w B A n X Y) (hb : Below B w w') : Pts w' B A n X Y := by
  intro k hk
  obtain ⟨b, off, hA, hB, h0, h1⟩ := h k hk
  exact ⟨b, off, hA, hB, (hb.cell (p := ⟨b, _, none⟩) hB).trans h0, (hb.cell (p := ⟨b, _, none⟩) hB).trans h1⟩
theorem Pts.more {w : World} {B B' : Nat} {A : Option Addr} {n : Nat} {X Y : Nat → Int} (h : Pts w B A n X Y) (hB : B ≤ B') : Pts w B' A n X Y := by
  intro k hk
  obtain ⟨b, off, hA, hB, h0, h1⟩ := h k hk
  exact ⟨b, off, hA, by omega, h0, h1⟩

def allB (X Y : Nat → Int) (n : Nat) : Bool := (List.range n).all fun i => ptB (X i) (Y i)
theorem allB_zero (X Y : Nat → Int) : allB X Y 0 = true := rfl
theorem allB_succ (X Y : Nat → Int) (n : Nat) : allB X Y (n + 1) = (allB X Y n && ptB (X n) (Y n)) := by
  unfold allB
  rw [List.range_succ, List.all_append]
  simp
theorem allB_false {X Y : Nat → Int} {n k : Nat} (hk : k < n) (h : ptB (X k) (Y k) = false) : allB X Y n = false := by
  unfold allB
  rw [List.all_eq_false]
  exact ⟨k, by simpa using hk, by simp [h]⟩

set_option maxHeartbeats 800000 in
theorem allValid_any (A : Option Addr) (n c : Nat) (X Y : Nat → Int) (w : World) (hn : n ≤ 9223372036854775807) (hp : Pts w w.heap.size A n X Y) :
    Calls Try.prog 86 #[.slice A n c] w fun e w' => e = .returned (.bool (allB X Y n)) ∧ Below w.heap.size w w' := by
  go_enter Try.func86, Try.ntmps86
  go_wp2
  go_loopw [7] (fun i wr => ∃ k : Nat, k ≤ n ∧ i = .int .i64 k ∧ allB X Y k = true ∧ Below w.heap.size w wr) (fun i _ => n - (intOf i).toNat)
  case atStart => exact ⟨0, Nat.zero_le _, rfl, rfl, Below.refl _ _⟩
  case round =>
    obtain ⟨k, hk, rfl, hall, hbr⟩ := hrel
    have HALL := Lib.hid hall
    clear hall
    by_cases hlt : k < n
    · obtain ⟨b, off, rfl, hB, h0, h1⟩ := hp.below hbr k hlt
      have hz := hbr.size
      have hB' : b < wr.heap.size := by omega
      clear hp
      go_wp2_with (go_at_call 60; refine (implValid_any _ _ _).mono ?_; rintro e w1 ⟨rfl, hb1⟩)
      · have hv : ptB (X k) (Y k) = false := by simpa using ‹(!ptB (X k) (Y k)) = true›
        go_ret
        exact ⟨ret_bool (allB_false hlt hv).symm, bt (hbr.alloc hz _) hb1 (by simp; omega)⟩
      · have hv : ptB (X k) (Y k) = true := by simpa using ‹(!ptB (X k) (Y k)) = false›
        refine ⟨⟨k + 1, by omega, by go_num, ?_, bt (hbr.alloc hz _) hb1 (by simp; omega)⟩, by simp [intOf]; omega⟩
        rw [allB_succ, HALL.out, hv]
        rfl
    · clear hp
      have hk' : n = k := by omega
      subst hk'
      go_wp2
      go_ret
      exact ⟨ret_bool HALL.out.symm, hbr⟩

/-- Twice the signed area. -/
def crossI (ax ay bx b_y cx cy : Int) : Int := (bx - ax) * (cy - ay) - (b_y - ay) * (cx - ax)

theorem mul_bd {x y : Int} (a b : Int) (hx : -a ≤ x ∧ x ≤ a) (hy : -b ≤ y ∧ y ≤ b) : -(a * b) ≤ x * y ∧ x * y ≤ a * b := by
  have h : (x * y).natAbs ≤ (a * b).natAbs := by
    rw [Int.natAbs_mul, Int.natAbs_mul]
    exact Nat.mul_le_mul (by omega) (by omega)
  have h2 : 0 ≤ a * b := Int.mul_nonneg (by omega) (by omega)
  omega
/-- The products of a cross product of valid points. -/
theorem cross_bd {ax ay bx b_y cx cy : Int} (ha : ptB ax ay = true) (hb : ptB bx b_y = true) (hc : ptB cx cy = true) :
    ((-2000 ≤ bx - ax ∧ bx - ax ≤ 2000) ∧ (-2000 ≤ b_y - ay ∧ b_y - ay ≤ 2000) ∧ (-2000 ≤ cx - ax ∧ cx - ax ≤ 2000) ∧ (-2000 ≤ cy - ay ∧ cy - ay ≤ 2000)) ∧
    (-4000000 ≤ (bx - ax) * (cy - ay) ∧ (bx - ax) * (cy - ay) ≤ 4000000) ∧ (-4000000 ≤ (b_y - ay) * (cx - ax) ∧ (b_y - ay) * (cx - ax) ≤ 4000000) := by
  have a1 := ptB_true ha
  have b1 := ptB_true hb
  have c1 := ptB_true hc
  refine ⟨by omega, ?_, ?_⟩
  · have := mul_bd (x := bx - ax) (y := cy - ay) 2000 2000 (by omega) (by omega)
    omega
  · have := mul_bd (x := b_y - ay) (y := cx - ax) 2000 2000 (by omega) (by omega)
    omega

theorem specCross_any (ax ay bx b_y cx cy : Int) (w : World) (ha : ptB ax ay = true) (hb : ptB bx b_y = true) (hc : ptB cx cy = true) :
    Calls Try.prog 88 #[.agg #[.int .i64 ax, .int .i64 ay], .agg #[.int .i64 bx, .int .i64 b_y], .agg #[.int .i64 cx, .int .i64 cy]] w fun e w' => e = .returned (.int .i64 (crossI ax ay bx b_y cx cy)) ∧ Below w.heap.size w w' := by
  have bd := cross_bd ha hb hc
  have a1 := ptB_true ha
  have b1 := ptB_true hb
  have c1 := ptB_true hc
  clear ha hb hc
  go_enter Try.func88, Try.ntmps88
  go_wp2
  go_ret
  exact ⟨rfl, (((Below.refl _ _).alloc (by simp) _).alloc (by simp) _).alloc (by simp; omega) _⟩
theorem minus_any (ax ay bx b_y : Int) (w : World) (h1 : -4000000 ≤ ax - bx ∧ ax - bx ≤ 4000000) (h2 : -4000000 ≤ ay - b_y ∧ ay - b_y ≤ 4000000) :
    Calls Try.prog 91 #[.agg #[.int .i64 ax, .int .i64 ay], .agg #[.int .i64 bx, .int .i64 b_y]] w fun e w' => e = .returned (.agg #[.int .i64 (ax - bx), .int .i64 (ay - b_y)]) ∧ Below w.heap.size w w' := by
  go_enter Try.func91, Try.ntmps91
  go_wp2
  exact bodyPost_ret (v := .agg #[.int .i64 (ax - bx), .int .i64 (ay - b_y)]) (by simp [results, Try.results91, go_sem]) rfl ⟨rfl, (((Below.refl _ _).alloc (by simp) _).alloc (by simp) _).alloc (by simp; omega) _⟩
theorem pcross_any (ax ay bx b_y : Int) (w : World) (h1 : -4000000000000000000 ≤ ax * b_y ∧ ax * b_y ≤ 4000000000000000000) (h2 : -4000000000000000000 ≤ ay * bx ∧ ay * bx ≤ 4000000000000000000) :
    Calls Try.prog 92 #[.agg #[.int .i64 ax, .int .i64 ay], .agg #[.int .i64 bx, .int .i64 b_y]] w fun e w' => e = .returned (.int .i64 (ax * b_y - ay * bx)) ∧ Below w.heap.size w w' := by
  go_enter Try.func92, Try.ntmps92
  go_wp2
  go_ret
  exact ⟨rfl, ((Below.refl _ _).alloc (by simp) _).alloc (by simp) _⟩
theorem pdot_any (ax ay bx b_y : Int) (w : World) (h1 : -4000000000000000000 ≤ ax * bx ∧ ax * bx ≤ 4000000000000000000) (h2 : -4000000000000000000 ≤ ay * b_y ∧ ay * b_y ≤ 4000000000000000000) :
    Calls Try.prog 82 #[.agg #[.int .i64 ax, .int .i64 ay], .agg #[.int .i64 bx, .int .i64 b_y]] w fun e w' => e = .returned (.int .i64 (ax * bx + ay * b_y)) ∧ Below w.heap.size w w' := by
  go_enter Try.func82, Try.ntmps82
  go_wp2
  go_ret
  exact ⟨rfl, ((Below.refl _ _).alloc (by simp) _).alloc (by simp) _⟩
theorem turn_any (ax ay bx b_y cx cy : Int) (w : World) (ha : ptB ax ay = true) (hb : ptB bx b_y = true) (hc : ptB cx cy = true) :
    Calls Try.prog 56 #[.agg #[.int .i64 ax, .int .i64 ay], .agg #[.int .i64 bx, .int .i64 b_y], .agg #[.int .i64 cx, .int .i64 cy]] w fun e w' => e = .returned (.int .i64 (crossI ax ay bx b_y cx cy)) ∧ Below w.heap.size w w' := by
  have bd := cross_bd ha hb hc
  clear ha hb hc
  go_enter Try.func56, Try.ntmps56
  go_wp2_with fail
  go_region_held3 (fun w' => w'.cell? ⟨w.heap.size, 0, none⟩ = some (.int .i64 ax) ∧ w'.cell? ⟨w.heap.size, 1, none⟩ = some (.int .i64 ay) ∧ w'.cell? ⟨w.heap.size + 1, 0, none⟩ = some (.int .i64 bx) ∧
      w'.cell? ⟨w.heap.size + 1, 1, none⟩ = some (.int .i64 b_y) ∧ w'.cell? ⟨w.heap.size + 1 + 1, 0, none⟩ = some (.int .i64 cx) ∧ w'.cell? ⟨w.heap.size + 1 + 1, 1, none⟩ = some (.int .i64 cy)) ((simp [*, go_sem]; done))
    (first
      | (go_at_call_of 91 (Value.agg #[.int .i64 bx, .int .i64 b_y]); refine (minus_any _ _ _ _ _ (by omega) (by omega)).mono ?_; rintro e w1 ⟨rfl, hb1⟩; obtain ⟨hc1, hf1, hz1⟩ := bc3 w.heap.size hb1 (by simp))
      | (go_at_call_of 91 (Value.agg #[.int .i64 cx, .int .i64 cy]); refine (minus_any _ _ _ _ _ (by omega) (by omega)).mono ?_; rintro e w2 ⟨rfl, hb2⟩; obtain ⟨hc2, hf2, hz2⟩ := bc3 w.heap.size hb2 (by omega))
      | (go_at_call 92; refine (pcross_any _ _ _ _ _ (by omega) (by omega)).mono ?_; rintro e w3 ⟨rfl, hb3⟩; obtain ⟨hc3, hf3, hz3⟩ := bc3 w.heap.size hb3 (by omega)))
  go_wp2
  go_ret
  exact ⟨rfl, bt (bt (bt ((((Below.refl _ _).alloc (by simp) _).alloc (by simp) _).alloc (by simp; omega) _).drew hb1 (by simp; omega)) hb2 (by omega)) hb3 (by omega)⟩

def pick3 (a b c : Int) : Nat → Int
  | 0 => a
  | 1 => b
  | _ => c
def pick2 (a b : Int) : Nat → Int
  | 0 => a
  | _ => b
theorem allB3 (ax ay bx b_y cx cy : Int) : allB (pick3 ax bx cx) (pick3 ay b_y cy) 3 = (ptB ax ay && ptB bx b_y && ptB cx cy) := by
  rw [allB_succ, allB_succ, allB_succ, allB_zero]
  simp [pick3]
theorem allB2 (ax ay bx b_y : Int) : allB (pick2 ax bx) (pick2 ay b_y) 2 = (ptB ax ay && ptB bx b_y) := by
  rw [allB_succ, allB_succ, allB_zero]
  simp [pick2]
theorem pts3 {w : World} {g : Nat} {ax ay bx b_y cx cy : Int} (hg : g < w.heap.size) (h0 : w.cell? ⟨g, 0, none⟩ = some (.int .i64 ax)) (h1 : w.cell? ⟨g, 1, none⟩ = some (.int .i64 ay)) (h2 : w.cell? ⟨g, 2, none⟩ = some (.int .i64 bx))
    (h3 : w.cell? ⟨g, 3, none⟩ = some (.int .i64 b_y)) (h4 : w.cell? ⟨g, 4, none⟩ = some (.int .i64 cx)) (h5 : w.cell? ⟨g, 5, none⟩ = some (.int .i64 cy)) : Pts w w.heap.size (some ⟨g, 0, none⟩) 3 (pick3 ax bx cx) (pick3 ay b_y cy) := by
  intro k hk
  match k, hk with
  | 0, _ => exact ⟨g, 0, rfl, hg, h0, h1⟩
  | 1, _ => exact ⟨g, 0, rfl, hg, h2, h3⟩
  | 2, _ => exact ⟨g, 0, rfl, hg, h4, h5⟩
theorem pts2 {w : World} {g : Nat} {ax ay bx b_y : Int} (hg : g < w.heap.size) (h0 : w.cell? ⟨g, 0, none⟩ = some (.int .i64 ax)) (h1 : w.cell? ⟨g, 1, none⟩ = some (.int .i64 ay)) (h2 : w.cell? ⟨g, 2, none⟩ = some (.int .i64 bx))
    (h3 : w.cell? ⟨g, 3, none⟩ = some (.int .i64 b_y)) : Pts w w.heap.size (some ⟨g, 0, none⟩) 2 (pick2 ax bx) (pick2 ay b_y) := by
  intro k hk
  match k, hk with
  | 0, _ => exact ⟨g, 0, rfl, hg, h0, h1⟩
  | 1, _ => exact ⟨g, 0, rfl, hg, h2, h3⟩
/-- allValid called with three points, or two, laid into a new block. -/
theorem allValid3_any (g c : Nat) (ax ay bx b_y cx cy : Int) (w : World) (hg : g < w.heap.size) (h0 : w.cell? ⟨g, 0, none⟩ = some (.int .i64 ax)) (h1 : w.cell? ⟨g, 1, none⟩ = some (.int .i64 ay)) (h2 : w.cell? ⟨g, 2, none⟩ = some (.int .i64 bx))
    (h3 : w.cell? ⟨g, 3, none⟩ = some (.int .i64 b_y)) (h4 : w.cell? ⟨g, 4, none⟩ = some (.int .i64 cx)) (h5 : w.cell? ⟨g, 5, none⟩ = some (.int .i64 cy)) :
    Calls Try.prog 86 #[.slice (some ⟨g, 0, none⟩) 3 c] w fun e w' => e = .returned (.bool (ptB ax ay && ptB bx b_y && ptB cx cy)) ∧ Below w.heap.size w w' := by
  rw [← allB3]
  exact allValid_any _ 3 c _ _ w (by omega) (pts3 hg h0 h1 h2 h3 h4 h5)
theorem allValid2_any (g c : Nat) (ax ay bx b_y : Int) (w : World) (hg : g < w.heap.size) (h0 : w.cell? ⟨g, 0, none⟩ = some (.int .i64 ax)) (h1 : w.cell? ⟨g, 1, none⟩ = some (.int .i64 ay)) (h2 : w.cell? ⟨g, 2, none⟩ = some (.int .i64 bx))
    (h3 : w.cell? ⟨g, 3, none⟩ = some (.int .i64 b_y)) :
    Calls Try.prog 86 #[.slice (some ⟨g, 0, none⟩) 2 c] w fun e w' => e = .returned (.bool (ptB ax ay && ptB bx b_y)) ∧ Below w.heap.size w w' := by
  rw [← allB2]
  exact allValid_any _ 2 c _ _ w (by omega) (pts2 hg h0 h1 h2 h3)

/-- What Cross answers. -/
def crossR (ax ay bx b_y cx cy : Int) : Int := if ptB ax ay && ptB bx b_y && ptB cx cy then crossI ax ay bx b_y cx cy else 0
theorem crossR_no {ax ay bx b_y cx cy : Int} (h : (ptB ax ay && ptB bx b_y && ptB cx cy) = false) : crossR ax ay bx b_y cx cy = 0 := by unfold crossR; rw [h]; rfl
theorem crossR_yes {ax ay bx b_y cx cy : Int} (h : (ptB ax ay && ptB bx b_y && ptB cx cy) = true) : crossR ax ay bx b_y cx cy = crossI ax ay bx b_y cx cy := by unfold crossR; rw [h]; rfl
theorem and3 {a b c : Bool} (h : (a && b && c) = true) : a = true ∧ b = true ∧ c = true := by
  cases a <;> cases b <;> cases c <;> simp at h ⊢
theorem and2 {a b : Bool} (h : (a && b) = true) : a = true ∧ b = true := by
  cases a <;> cases b <;> simp at h ⊢

theorem implCross_any (ax ay bx b_y cx cy : Int) (w : World) :
    Calls Try.prog 51 #[.agg #[.int .i64 ax, .int .i64 ay], .agg #[.int .i64 bx, .int .i64 b_y], .agg #[.int .i64 cx, .int .i64 cy]] w fun e w' => e = .returned (.int .i64 (crossR ax ay bx b_y cx cy)) ∧ Below w.heap.size w w' := by
  go_enter Try.func51, Try.ntmps51
  go_wp2_with fail
  refine (allValid3_any _ _ ax ay bx b_y cx cy _ ?_ ?_ ?_ ?_ ?_ ?_ ?_).mono ?_
  all_goals (try (simp [go_sem]; done))
  rintro e w1 ⟨rfl, hb1⟩; obtain ⟨hc1, hf1, hz1⟩ := bc3 w.heap.size hb1 (by simp)
  have hn : Below w.heap.size w w1 := nt (na (na (na (na (nr _) _) _) _) _) hb1
  rcases hv : (ptB ax ay && ptB bx b_y && ptB cx cy) with _ | _
  · have HV := Lib.hid hv
    clear hv
    go_wp2
    go_ret
    exact ⟨ret_int (crossR_no HV.out).symm, hn⟩
  · obtain ⟨va, vb, vc⟩ := and3 hv
    have HR := Lib.hid (crossR_yes hv)
    have VA := Lib.hid va
    have VB := Lib.hid vb
    have VC := Lib.hid vc
    clear hv va vb vc
    go_wp2_with (go_at_call 56; refine (turn_any _ _ _ _ _ _ _ VA.out VB.out VC.out).mono ?_; rintro e w2 ⟨rfl, hb2⟩)
    go_ret
    exact ⟨ret_int HR.out.symm, nt hn hb2⟩
theorem SpecCross_any (ax ay bx b_y cx cy : Int) (w : World) :
    Calls Try.prog 52 #[.agg #[.int .i64 ax, .int .i64 ay], .agg #[.int .i64 bx, .int .i64 b_y], .agg #[.int .i64 cx, .int .i64 cy]] w fun e w' => e = .returned (.int .i64 (crossR ax ay bx b_y cx cy)) ∧ Below w.heap.size w w' := by
  go_enter Try.func52, Try.ntmps52
  rcases va : ptB ax ay with _ | _
  · have VA := Lib.hid va
    clear va
    rw [crossR_no (by simp [VA.out])]
    go_wp2_with (go_at_call 58; refine (specValid_any ax ay _).mono ?_; rw [VA.out]; rintro e w1 ⟨rfl, hb1⟩)
    go_ret
    exact ⟨rfl, nt (na (na (na (nr _) _) _) _) hb1⟩
  rcases vb : ptB bx b_y with _ | _
  · have VA := Lib.hid va
    have VB := Lib.hid vb
    clear va vb
    rw [crossR_no (by simp [VB.out])]
    go_wp2_with fail
    refine (specValid_any ax ay _).mono ?_; rw [VA.out]; rintro e w1 ⟨rfl, hb1⟩; obtain ⟨hc1, hf1, hz1⟩ := bc3 w.heap.size hb1 (by simp)
    go_wp2_with fail
    refine (specValid_any bx b_y _).mono ?_; rw [VB.out]; rintro e w2 ⟨rfl, hb2⟩; obtain ⟨hc2, hf2, hz2⟩ := bc3 w.heap.size hb2 (by omega)
    go_wp2_with fail
    go_ret
    exact ⟨rfl, nt (nt (na (na (na (nr _) _) _) _) hb1) hb2⟩
  rcases vc : ptB cx cy with _ | _
  · have VA := Lib.hid va
    have VB := Lib.hid vb
    have VC := Lib.hid vc
    clear va vb vc
    rw [crossR_no (by simp [VC.out])]
    go_wp2_with fail
    refine (specValid_any ax ay _).mono ?_; rw [VA.out]; rintro e w1 ⟨rfl, hb1⟩; obtain ⟨hc1, hf1, hz1⟩ := bc3 w.heap.size hb1 (by simp)
    go_wp2_with fail
    refine (specValid_any bx b_y _).mono ?_; rw [VB.out]; rintro e w2 ⟨rfl, hb2⟩; obtain ⟨hc2, hf2, hz2⟩ := bc3 w.heap.size hb2 (by omega)
    go_wp2_with fail
    refine (specValid_any cx cy _).mono ?_; rw [VC.out]; rintro e w3 ⟨rfl, hb3⟩; obtain ⟨hc3, hf3, hz3⟩ := bc3 w.heap.size hb3 (by omega)
    go_wp2_with fail
    go_ret
    exact ⟨rfl, nt (nt (nt (na (na (na (nr _) _) _) _) hb1) hb2) hb3⟩
  rw [crossR_yes (by rw [va, vb, vc]; rfl)]
  have VA := Lib.hid va
  have VB := Lib.hid vb
  have VC := Lib.hid vc
  clear va vb vc
  go_wp2_with fail
  refine (specValid_any ax ay _).mono ?_; rw [VA.out]; rintro e w1 ⟨rfl, hb1⟩; obtain ⟨hc1, hf1, hz1⟩ := bc3 w.heap.size hb1 (by simp)
  go_wp2_with fail
  refine (specValid_any bx b_y _).mono ?_; rw [VB.out]; rintro e w2 ⟨rfl, hb2⟩; obtain ⟨hc2, hf2, hz2⟩ := bc3 w.heap.size hb2 (by omega)
  go_wp2_with fail
  refine (specValid_any cx cy _).mono ?_; rw [VC.out]; rintro e w3 ⟨rfl, hb3⟩; obtain ⟨hc3, hf3, hz3⟩ := bc3 w.heap.size hb3 (by omega)
  go_wp2_with fail
  refine (specCross_any _ _ _ _ _ _ _ VA.out VB.out VC.out).mono ?_; rintro e w4 ⟨rfl, hb4⟩
  go_wp2_with fail
  go_ret
  exact ⟨rfl, nt (nt (nt (nt (na (na (na (nr _) _) _) _) hb1) hb2) hb3) hb4⟩
/-- The sign of a number. -/
def sgn (n : Int) : Int := if n < 0 then -1 else if 0 < n then 1 else 0
theorem sgn_neg {n : Int} (h : n < 0) : sgn n = -1 := by unfold sgn; rw [if_pos h]
theorem sgn_pos {n : Int} (h : 0 < n) : sgn n = 1 := by unfold sgn; rw [if_neg (by omega), if_pos h]
theorem sgn_zero {n : Int} (h : n = 0) : sgn n = 0 := by unfold sgn; rw [if_neg (by omega), if_neg (by omega)]

theorem isNaN_any (n : Int) (w : World) :
    Calls Try.prog 116 #[.int .i64 n] w fun e w' => e = .returned (.bool false) ∧ w = w' := by
  have hn : (n != n) = false := by simp
  go_enter Try.func116, Try.ntmps116
  go_wp2
  go_ret
  simp
theorem compare_any (a b : Int) (w : World) :
    Calls Try.prog 96 #[.int .i64 a, .int .i64 b] w fun e w' => e = .returned (.int .i64 (sgn (a - b))) ∧ w = w' := by

  by_cases h1 : a < b
  · have HS := Lib.hid (sgn_neg (n := a - b) (by omega))
    go_enter Try.func96, Try.ntmps96
    go_wp2_with (go_at_call 116; refine (isNaN_any _ _).mono ?_; rintro e w' ⟨rfl, rfl⟩)
    go_ret
    exact ⟨ret_int HS.out.symm, rfl⟩
  · by_cases h2 : b < a
    · have HS := Lib.hid (sgn_pos (n := a - b) (by omega))
      go_enter Try.func96, Try.ntmps96
      go_wp2_with (go_at_call 116; refine (isNaN_any _ _).mono ?_; rintro e w' ⟨rfl, rfl⟩)
      go_ret
      exact ⟨ret_int HS.out.symm, rfl⟩
    · have HS := Lib.hid (sgn_zero (n := a - b) (by omega))
      go_enter Try.func96, Try.ntmps96
      go_wp2_with (go_at_call 116; refine (isNaN_any _ _).mono ?_; rintro e w' ⟨rfl, rfl⟩)
      go_ret
      exact ⟨ret_int HS.out.symm, rfl⟩
theorem specSign_any (n : Int) (w : World) :
    Calls Try.prog 94 #[.int .i64 n] w fun e w' => e = .returned (.int .i64 (sgn n)) ∧ w = w' := by
  by_cases h1 : n < 0
  · have HS := Lib.hid (sgn_neg h1)
    go_enter Try.func94, Try.ntmps94
    go_wp2
    go_ret
    exact ⟨ret_int HS.out.symm, rfl⟩
  · by_cases h2 : 0 < n
    · have HS := Lib.hid (sgn_pos h2)
      go_enter Try.func94, Try.ntmps94
      go_wp2
      go_ret
      exact ⟨ret_int HS.out.symm, rfl⟩
    · have HS := Lib.hid (sgn_zero (n := n) (by omega))
      go_enter Try.func94, Try.ntmps94
      go_wp2
      go_ret
      exact ⟨ret_int HS.out.symm, rfl⟩
theorem implSign_any (n : Int) (w : World) :
    Calls Try.prog 61 #[.int .i64 n] w fun e w' => e = .returned (.int .i64 (sgn n)) ∧ w = w' := by
  go_enter Try.func61, Try.ntmps61
  go_wp2_with (go_at_call 96; refine (compare_any _ _ _).mono ?_; rintro e w' ⟨rfl, rfl⟩)
  go_ret
  simp

/-- What Orient answers. -/
def orientR (ax ay bx b_y cx cy : Int) : Int := if ptB ax ay && ptB bx b_y && ptB cx cy then sgn (crossI ax ay bx b_y cx cy) else 2
theorem orientR_no {ax ay bx b_y cx cy : Int} (h : (ptB ax ay && ptB bx b_y && ptB cx cy) = false) : orientR ax ay bx b_y cx cy = 2 := by unfold orientR; rw [h]; rfl
theorem orientR_yes {ax ay bx b_y cx cy : Int} (h : (ptB ax ay && ptB bx b_y && ptB cx cy) = true) : orientR ax ay bx b_y cx cy = sgn (crossI ax ay bx b_y cx cy) := by unfold orientR; rw [h]; rfl

theorem implOrient_any (ax ay bx b_y cx cy : Int) (w : World) :
    Calls Try.prog 49 #[.agg #[.int .i64 ax, .int .i64 ay], .agg #[.int .i64 bx, .int .i64 b_y], .agg #[.int .i64 cx, .int .i64 cy]] w fun e w' => e = .returned (.int .i64 (orientR ax ay bx b_y cx cy)) ∧ Below w.heap.size w w' := by
  go_enter Try.func49, Try.ntmps49
  go_wp2_with fail
  refine (allValid3_any _ _ ax ay bx b_y cx cy _ ?_ ?_ ?_ ?_ ?_ ?_ ?_).mono ?_
  all_goals (try (simp [go_sem]; done))
  rintro e w1 ⟨rfl, hb1⟩; obtain ⟨hc1, hf1, hz1⟩ := bc3 w.heap.size hb1 (by simp)
  have hn : Below w.heap.size w w1 := nt (na (na (na (na (nr _) _) _) _) _) hb1
  rcases hv : (ptB ax ay && ptB bx b_y && ptB cx cy) with _ | _
  · have HV := Lib.hid hv
    clear hv
    go_wp2
    go_ret
    exact ⟨ret_int (orientR_no HV.out).symm, hn⟩
  · obtain ⟨va, vb, vc⟩ := and3 hv
    have HR := Lib.hid (orientR_yes hv)
    have VA := Lib.hid va
    have VB := Lib.hid vb
    have VC := Lib.hid vc
    clear hv va vb vc
    go_wp2_with (first
      | (go_at_call 56; refine (turn_any _ _ _ _ _ _ _ VA.out VB.out VC.out).mono ?_; rintro e w2 ⟨rfl, hb2⟩)
      | (go_at_call 61; refine (implSign_any _ _).mono ?_; rintro e w2 ⟨rfl, rfl⟩))
    go_ret
    exact ⟨ret_int HR.out.symm, nt hn hb2⟩
/-! ### Squared distances -/
def sqI (ax ay bx b_y : Int) : Int := (ax - bx) * (ax - bx) + (ay - b_y) * (ay - b_y)
def sqR (ax ay bx b_y : Int) : Int := if ptB ax ay && ptB bx b_y then sqI ax ay bx b_y else -1
theorem sqR_no {ax ay bx b_y : Int} (h : (ptB ax ay && ptB bx b_y) = false) : sqR ax ay bx b_y = -1 := by unfold sqR; rw [h]; rfl
theorem sqR_yes {ax ay bx b_y : Int} (h : (ptB ax ay && ptB bx b_y) = true) : sqR ax ay bx b_y = sqI ax ay bx b_y := by unfold sqR; rw [h]; rfl
theorem sq_bd {ax ay bx b_y : Int} (ha : ptB ax ay = true) (hb : ptB bx b_y = true) :
    ((-2000 ≤ ax - bx ∧ ax - bx ≤ 2000) ∧ (-2000 ≤ ay - b_y ∧ ay - b_y ≤ 2000)) ∧ (-4000000 ≤ (ax - bx) * (ax - bx) ∧ (ax - bx) * (ax - bx) ≤ 4000000) ∧ (-4000000 ≤ (ay - b_y) * (ay - b_y) ∧ (ay - b_y) * (ay - b_y) ≤ 4000000) := by
  have a1 := ptB_true ha
  have b1 := ptB_true hb
  refine ⟨by omega, ?_, ?_⟩
  · have := mul_bd (x := ax - bx) (y := ax - bx) 2000 2000 (by omega) (by omega)
    omega
  · have := mul_bd (x := ay - b_y) (y := ay - b_y) 2000 2000 (by omega) (by omega)
    omega
/-- The slice's places hold the numbers Z k. -/
def Ints (w : World) (B : Nat) (A : Option Addr) (n : Nat) (Z : Nat → Int) : Prop :=
  ∀ k, k < n → ∃ b off, A = some ⟨b, off, none⟩ ∧ b < B ∧ w.cell? ⟨b, off + k, none⟩ = some (.int .i64 (Z k))
theorem Ints.below {w w' : World} {B : Nat} {A : Option Addr} {n : Nat} {Z : Nat → Int} (h : Ints w B A n Z) (hb : Below B w w') : Ints w' B A n Z := by
  intro k hk
  obtain ⟨b, off, hA, hB, h0⟩ := h k hk
  exact ⟨b, off, hA, hB, (hb.cell (p := ⟨b, _, none⟩) hB).trans h0⟩

/-- What the rounds of Euclid's loop leave alone. -/
def GI (a b G : Int) : Prop := gI a b = G
def GA (a G : Int) : Prop := (a.natAbs : Int) = G
theorem GI.next {a b G : Int} (h : GI a b G) : GI b (a.tmod b) G := (gI_step a b).trans h
theorem GI.last {a G : Int} (h : GI a 0 G) : GA a G := (gI_zero a).symm.trans h

theorem ints2 {w : World} {g : Nat} {a b : Int} (hg : g < w.heap.size) (h0 : w.cell? ⟨g, 0, none⟩ = some (.int .i64 a)) (h1 : w.cell? ⟨g, 1, none⟩ = some (.int .i64 b)) : Ints w w.heap.size (some ⟨g, 0, none⟩) 2 (pick2 a b) := by
  intro k hk
  match k, hk with
  | 0, _ => exact ⟨g, 0, rfl, hg, h0⟩
  | 1, _ => exact ⟨g, 0, rfl, hg, h1⟩
theorem gL2 (a b : Int) : gL (pick2 a b) 2 = gI a b := by
  show gI (gI 0 a) b = gI a b
  rw [gI_zero_left, gI_abs]
theorem GI.step {a b G : Int} (h : GI a b G) (h0 : 0 ≤ a) : GI b (a % b) G := by
  rw [← Int.tmod_eq_emod_of_nonneg h0]
  exact h.next
theorem q0 {P : Program} {f : FuncId} {args : Array Value} {w : World} {v : Value} (h : Calls P f args w fun e w' => e = .returned v ∧ w = w') : Calls P f args w fun e w' => e = .returned v ∧ w' = w :=
  h.mono fun _ _ ⟨a, b⟩ => ⟨a, b.symm⟩
/-- A cell that was just written. -/
theorem set_same {w : World} {a : Addr} {u : Value} (v : Value) (c : w.cell? a = some u) : (w.setCell a v).cell? a = some v := World.cell?_setCell_same w a v c
theorem set_next {w : World} {g : Nat} {u : Value} (v : Value) (c : w.cell? ⟨g, 1, none⟩ = some u) : (w.setCell ⟨g, 0, none⟩ v).cell? ⟨g, 1, none⟩ = some u :=
  (World.cell?_setCell_other w ⟨g, 0, none⟩ ⟨g, 1, none⟩ v (by simp)).trans c
theorem inRange_is (b : Bool) (n lo hi : Int) (w : World) (h : (decide (lo ≤ n) && decide (n ≤ hi)) = b) :
    Calls Try.prog 93 #[.int .i64 n, .int .i64 lo, .int .i64 hi] w fun e w' => e = .returned (.bool b) ∧ w = w' := by
  subst h
  exact inRange_any n lo hi w
theorem within_is (b : Bool) (n hi : Int) (w : World) (h0 : -4611686018427387904 ≤ hi) (h1 : hi ≤ 4611686018427387904) (h : (decide (-hi ≤ n) && decide (n ≤ hi)) = b) :
    Calls Try.prog 95 #[.int .i64 n, .int .i64 hi] w fun e w' => e = .returned (.bool b) ∧ w = w' := by
  subst h
  exact within_any n hi w h0 h1
theorem in_yes {n lo hi : Int} (h : lo ≤ n ∧ n ≤ hi) : (decide (lo ≤ n) && decide (n ≤ hi)) = true := by simp [h.1, h.2]
theorem in_no {n lo hi : Int} (h : ¬ (lo ≤ n ∧ n ≤ hi)) : (decide (lo ≤ n) && decide (n ≤ hi)) = false := by
  simp
  omega

theorem keepS {W : World} {b i : Nat} {v : Value} {o o' : Obj} (hb : b < W.heap.size) (h : (W.alloc o).cell? ⟨b, i, none⟩ = some v) : (W.alloc o').cell? ⟨b, i, none⟩ = some v := by
  rw [World.cell?_alloc_lt W _ ⟨b, i, none⟩ hb] at h ⊢
  exact h
theorem keepF {W : World} {b i g j : Nat} {u v : Value} (hb : b < g) (h : W.cell? ⟨b, i, none⟩ = some v) : (W.setCell ⟨g, j, none⟩ u).cell? ⟨b, i, none⟩ = some v :=
  (World.cell?_setCell_other _ ⟨g, j, none⟩ ⟨b, i, none⟩ u (fun e => by injection e; omega)).trans h
theorem pair_0 {w : World} {g : Nat} {u : Value} (v0 v1 : Value) (c : w.cell? ⟨g, 0, none⟩ = some u) : ((w.setCell ⟨g, 0, none⟩ v0).setCell ⟨g, 1, none⟩ v1).cell? ⟨g, 0, none⟩ = some v0 :=
  (World.cell?_setCell_other _ ⟨g, 1, none⟩ ⟨g, 0, none⟩ v1 (by simp)).trans (set_same v0 c)
theorem pair_1 {w : World} {g : Nat} {u : Value} (v0 v1 : Value) (c : w.cell? ⟨g, 1, none⟩ = some u) : ((w.setCell ⟨g, 0, none⟩ v0).setCell ⟨g, 1, none⟩ v1).cell? ⟨g, 1, none⟩ = some v1 :=
  set_same v1 (set_next v0 c)
theorem pair_far {w : World} {g b o : Nat} {u : Value} (v0 v1 : Value) (h : b < g ∨ g < b) (c : w.cell? ⟨b, o, none⟩ = some u) : ((w.setCell ⟨g, 0, none⟩ v0).setCell ⟨g, 1, none⟩ v1).cell? ⟨b, o, none⟩ = some u :=
  (World.cell?_setCell_other _ ⟨g, 1, none⟩ ⟨b, o, none⟩ v1 (fun e => by injection e; omega)).trans ((World.cell?_setCell_other _ ⟨g, 0, none⟩ ⟨b, o, none⟩ v0 (fun e => by injection e; omega)).trans c)
theorem pair_below {a w : World} {g : Nat} (v0 v1 : Value) (h : a.heap.size ≤ g) (hb : Below a.heap.size a w) : Below a.heap.size a ((w.setCell ⟨g, 0, none⟩ v0).setCell ⟨g, 1, none⟩ v1) :=
  (hb.setCell (p := ⟨g, 0, none⟩) h v0).setCell (p := ⟨g, 1, none⟩) h v1
end Go.Proofs.Ytieibbdfdepmbaa
