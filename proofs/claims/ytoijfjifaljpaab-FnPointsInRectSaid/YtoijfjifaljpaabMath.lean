/-
  Plain arithmetic for the walks: the greatest common divisor, fractions in lowest terms. Nothing of Go in sight. Written by an AI agent.
-/
import Derived.IntWalk
namespace Go.Proofs.Ytoijfjifaljpaab

/-- The greatest common divisor as a number. -/
def gI (a b : Int) : Int := (Int.gcd a b : Int)
theorem gI_nonneg (a b : Int) : 0 ≤ gI a b := by unfold gI; omega
theorem gI_zero (a : Int) : gI a 0 = (a.natAbs : Int) := by unfold gI; simp
theorem gI_zero_left (a : Int) : gI 0 a = (a.natAbs : Int) := by unfold gI; simp
theorem gI_step (a b : Int) : gI b (a.tmod b) = gI a b := by
  unfold gI
  have h : Int.gcd b (a.tmod b) = Int.gcd a b := by
    rw [Int.gcd, Int.gcd, Int.natAbs_tmod, Nat.gcd_comm a.natAbs b.natAbs, Nat.gcd_rec b.natAbs a.natAbs, Nat.gcd_comm]
  rw [h]
theorem gI_abs (a b : Int) : gI (a.natAbs : Int) b = gI a b := by unfold gI; simp [Int.gcd]
theorem gI_neg_right (a b : Int) : gI a (-b) = gI a b := by unfold gI; simp [Int.gcd]
theorem gI_neg_left (a b : Int) : gI (-a) b = gI a b := by unfold gI; simp [Int.gcd]
theorem gI_of_abs {a a' : Int} (h : a.natAbs = a'.natAbs) (b : Int) : gI a b = gI a' b := by unfold gI Int.gcd; rw [h]
theorem gI_le (a b : Int) (h : b ≠ 0) : gI a b ≤ b.natAbs := by
  unfold gI
  have := Nat.le_of_dvd (Int.natAbs_pos.2 h) (Nat.gcd_dvd_right a.natAbs b.natAbs)
  unfold Int.gcd; omega
theorem gI_pos (a b : Int) (h : b ≠ 0) : 0 < gI a b := by
  unfold gI
  have := Int.gcd_pos_of_ne_zero_right a h
  omega
theorem gI_bd {a b M : Int} (ha : -M ≤ a ∧ a ≤ M) (hb : -M ≤ b ∧ b ≤ M) : 0 ≤ gI a b ∧ gI a b ≤ M := by
  refine ⟨gI_nonneg a b, ?_⟩
  by_cases h : b = 0
  · subst h; rw [gI_zero]; omega
  · have := gI_le a b h; omega
theorem tmod_bd (a b : Int) (hb : b ≠ 0) : (a.tmod b).natAbs < b.natAbs := by
  rw [Int.natAbs_tmod]
  exact Nat.mod_lt _ (Int.natAbs_pos.2 hb)
theorem gI_dvd_left (a b : Int) : gI a b ∣ a := by unfold gI; exact Int.gcd_dvd_left ..
theorem gI_dvd_right (a b : Int) : gI a b ∣ b := by unfold gI; exact Int.gcd_dvd_right ..

/-- The greatest common divisor of a row of numbers. -/
def gL (Z : Nat → Int) : Nat → Int
  | 0 => 0
  | n + 1 => gI (gL Z n) (Z n)

theorem tdiv_bd {a b M : Int} (ha : -M ≤ a ∧ a ≤ M) : -M ≤ a.tdiv b ∧ a.tdiv b ≤ M := by
  have h : (a.tdiv b).natAbs ≤ a.natAbs := by
    rw [Int.natAbs_tdiv]
    exact Nat.div_le_self _ _
  omega

/-- num/den in lowest terms, the denominator positive. -/
def qN (num den : Int) : Int := if den < 0 then (-num).tdiv (gI num den) else num.tdiv (gI num den)
def qD (num den : Int) : Int := if den < 0 then (-den).tdiv (gI num den) else den.tdiv (gI num den)
theorem qN_neg {num den : Int} (h : den < 0) : qN num den = (-num).tdiv (gI num den) := by unfold qN; rw [if_pos h]
theorem qN_pos {num den : Int} (h : ¬ den < 0) : qN num den = num.tdiv (gI num den) := by unfold qN; rw [if_neg h]
theorem qD_neg {num den : Int} (h : den < 0) : qD num den = (-den).tdiv (gI num den) := by unfold qD; rw [if_pos h]
theorem qD_pos {num den : Int} (h : ¬ den < 0) : qD num den = den.tdiv (gI num den) := by unfold qD; rw [if_neg h]
theorem qN_neg' {num den : Int} (h : den < 0) : num.tdiv (-(gI num den)) = qN num den := by rw [qN_neg h, Int.tdiv_neg, Int.neg_tdiv]
theorem qD_neg' {num den : Int} (h : den < 0) : den.tdiv (-(gI num den)) = qD num den := by rw [qD_neg h, Int.tdiv_neg, Int.neg_tdiv]
theorem qD_ge {num den : Int} (h : den ≠ 0) : 1 ≤ qD num den := by
  have hp := gI_pos num den h
  have hl := gI_le num den h
  have key : ∀ d : Int, d.natAbs = den.natAbs → 0 < d → 1 ≤ d.tdiv (gI num den) := by
    intro d hd h0
    rw [Int.tdiv_eq_ediv_of_nonneg (by omega)]
    exact (Int.le_ediv_iff_mul_le hp).2 (by omega)
  by_cases hn : den < 0
  · rw [qD_neg hn]; exact key _ (by omega) (by omega)
  · rw [qD_pos hn]; exact key _ rfl (by omega)
theorem qN_bd {num den M : Int} (h : -M ≤ num ∧ num ≤ M) : -M ≤ qN num den ∧ qN num den ≤ M := by
  by_cases hn : den < 0
  · rw [qN_neg hn]; exact tdiv_bd (by omega)
  · rw [qN_pos hn]; exact tdiv_bd h
theorem qD_bd {num den M : Int} (h : -M ≤ den ∧ den ≤ M) : -M ≤ qD num den ∧ qD num den ≤ M := by
  by_cases hn : den < 0
  · rw [qD_neg hn]; exact tdiv_bd (by omega)
  · rw [qD_pos hn]; exact tdiv_bd h

/-- A fraction is valid. -/
def ratB (n d : Int) : Bool := decide (-100000000000 ≤ n ∧ n ≤ 100000000000 ∧ 1 ≤ d ∧ d ≤ 20000000 ∧ gI n d = 1)
theorem ratB_true {n d : Int} (h : ratB n d = true) : -100000000000 ≤ n ∧ n ≤ 100000000000 ∧ 1 ≤ d ∧ d ≤ 20000000 ∧ gI n d = 1 := of_decide_eq_true h
theorem ratB_mk {n d : Int} (h1 : -100000000000 ≤ n) (h2 : n ≤ 100000000000) (h3 : 1 ≤ d) (h4 : d ≤ 20000000) : ratB n d = decide (gI n d = 1) := by
  unfold ratB
  rw [Bool.eq_iff_iff]
  simp
  omega
theorem ratB_no {n d : Int} (h : ¬ (-100000000000 ≤ n ∧ n ≤ 100000000000 ∧ 1 ≤ d ∧ d ≤ 20000000)) : ratB n d = false := by
  unfold ratB
  rw [decide_eq_false_iff_not]
  rintro ⟨h1, h2, h3, h4, _⟩
  exact h ⟨h1, h2, h3, h4⟩

/-- What 'checked' hands back. -/
def cN (n d : Int) : Int := if ratB n d then n else 0
def cD (n d : Int) : Int := if ratB n d then d else 0
theorem cN_yes {n d : Int} (h : ratB n d = true) : cN n d = n := by unfold cN; rw [h]; rfl
theorem cN_no {n d : Int} (h : ratB n d = false) : cN n d = 0 := by unfold cN; rw [h]; rfl
theorem cD_yes {n d : Int} (h : ratB n d = true) : cD n d = d := by unfold cD; rw [h]; rfl
theorem cD_no {n d : Int} (h : ratB n d = false) : cD n d = 0 := by unfold cD; rw [h]; rfl

/-- What MakeRat hands back. -/
def mkOk (num den : Int) : Bool := decide (den ≠ 0 ∧ -2000000000000000000 ≤ num ∧ num ≤ 2000000000000000000 ∧ -2000000000000000000 ≤ den ∧ den ≤ 2000000000000000000)
def mkN (num den : Int) : Int := if mkOk num den then cN (qN num den) (qD num den) else 0
def mkD (num den : Int) : Int := if mkOk num den then cD (qN num den) (qD num den) else 0
def mkB (num den : Int) : Bool := mkOk num den && ratB (qN num den) (qD num den)
theorem mk_no {num den : Int} (h : ¬ (den ≠ 0 ∧ -2000000000000000000 ≤ num ∧ num ≤ 2000000000000000000 ∧ -2000000000000000000 ≤ den ∧ den ≤ 2000000000000000000)) : mkN num den = 0 ∧ mkD num den = 0 ∧ mkB num den = false := by
  have : mkOk num den = false := decide_eq_false h
  unfold mkN mkD mkB
  rw [this]
  exact ⟨rfl, rfl, rfl⟩
theorem mk_yes {num den : Int} (h : den ≠ 0 ∧ -2000000000000000000 ≤ num ∧ num ≤ 2000000000000000000 ∧ -2000000000000000000 ≤ den ∧ den ≤ 2000000000000000000) :
    mkN num den = cN (qN num den) (qD num den) ∧ mkD num den = cD (qN num den) (qD num den) ∧ mkB num den = ratB (qN num den) (qD num den) := by
  have : mkOk num den = true := decide_eq_true h
  unfold mkN mkD mkB
  rw [this]
  exact ⟨rfl, rfl, rfl⟩

theorem prod_bd {x y : Int} (a b : Int) (hx : -a ≤ x ∧ x ≤ a) (hy : -b ≤ y ∧ y ≤ b) : -(a * b) ≤ x * y ∧ x * y ≤ a * b := by
  have h : (x * y).natAbs ≤ (a * b).natAbs := by
    rw [Int.natAbs_mul, Int.natAbs_mul]
    exact Nat.mul_le_mul (by omega) (by omega)
  have h2 : 0 ≤ a * b := Int.mul_nonneg (by omega) (by omega)
  omega
/-- The products of two valid fractions. -/
theorem rat_bd {an ad bn bd : Int} (ha : ratB an ad = true) (hb : ratB bn bd = true) :
    (-2000000000000000000 ≤ an * bd ∧ an * bd ≤ 2000000000000000000) ∧ (-2000000000000000000 ≤ bn * ad ∧ bn * ad ≤ 2000000000000000000) ∧ (1 ≤ ad * bd ∧ ad * bd ≤ 400000000000000) := by
  have a1 := ratB_true ha
  have b1 := ratB_true hb
  refine ⟨?_, ?_, ?_⟩
  · have := prod_bd (x := an) (y := bd) 100000000000 20000000 (by omega) (by omega)
    omega
  · have := prod_bd (x := bn) (y := ad) 100000000000 20000000 (by omega) (by omega)
    omega
  · have := prod_bd (x := ad) (y := bd) 20000000 20000000 (by omega) (by omega)
    have h : 0 < ad * bd := Int.mul_pos (by omega) (by omega)
    omega
def addB (an ad bn bd : Int) : Bool := ratB an ad && ratB bn bd && ratB (qN (an * bd + bn * ad) (ad * bd)) (qD (an * bd + bn * ad) (ad * bd))
def addN (an ad bn bd : Int) : Int := if ratB an ad && ratB bn bd then cN (qN (an * bd + bn * ad) (ad * bd)) (qD (an * bd + bn * ad) (ad * bd)) else 0
def addD (an ad bn bd : Int) : Int := if ratB an ad && ratB bn bd then cD (qN (an * bd + bn * ad) (ad * bd)) (qD (an * bd + bn * ad) (ad * bd)) else 0
theorem add_no {an ad bn bd : Int} (h : (ratB an ad && ratB bn bd) = false) : addN an ad bn bd = 0 ∧ addD an ad bn bd = 0 ∧ addB an ad bn bd = false := by
  unfold addN addD addB
  rw [h]
  exact ⟨rfl, rfl, rfl⟩
theorem add_yes {an ad bn bd : Int} (h : (ratB an ad && ratB bn bd) = true) : addN an ad bn bd = cN (qN (an * bd + bn * ad) (ad * bd)) (qD (an * bd + bn * ad) (ad * bd)) ∧
    addD an ad bn bd = cD (qN (an * bd + bn * ad) (ad * bd)) (qD (an * bd + bn * ad) (ad * bd)) ∧ addB an ad bn bd = ratB (qN (an * bd + bn * ad) (ad * bd)) (qD (an * bd + bn * ad) (ad * bd)) := by
  unfold addN addD addB
  rw [h]
  exact ⟨rfl, rfl, rfl⟩

/-- The floor of a valid fraction. -/
def flR (n d : Int) : Int := if ratB n d then n / d else 0
theorem flR_no {n d : Int} (h : ratB n d = false) : flR n d = 0 := by unfold flR; rw [h]; rfl
theorem flR_yes {n d : Int} (h : ratB n d = true) : flR n d = n / d := by unfold flR; rw [h]; rfl
theorem tdiv_floor {n d : Int} (hd : 1 ≤ d) (h : n.tmod d < 0) : n.tdiv d - 1 = n / d := by
  have h1 := Int.mul_tdiv_add_tmod n d
  have h2 := Int.lt_tmod_of_pos n (show 0 < d by omega)
  have h3 := Int.mul_ediv_add_emod n d
  have h4 := Int.emod_nonneg n (show d ≠ 0 by omega)
  have h5 := Int.emod_lt_of_pos n (show 0 < d by omega)
  rcases Int.lt_trichotomy (n.tdiv d - 1) (n / d) with c | c | c
  · exfalso
    have := Int.mul_le_mul_of_nonneg_left (show n.tdiv d ≤ n / d by omega) (show 0 ≤ d by omega)
    omega
  · exact c
  · exfalso
    have := Int.mul_le_mul_of_nonneg_left (show n / d + 2 ≤ n.tdiv d by omega) (show 0 ≤ d by omega)
    rw [Int.mul_add] at this
    omega
theorem tdiv_exact {n d : Int} (hd : 1 ≤ d) (h : 0 ≤ n.tmod d) : n.tdiv d = n / d := by
  have h1 := Int.mul_tdiv_add_tmod n d
  have h2 := Int.tmod_lt_of_pos n (show 0 < d by omega)
  have h3 := Int.mul_ediv_add_emod n d
  have h4 := Int.emod_nonneg n (show d ≠ 0 by omega)
  have h5 := Int.emod_lt_of_pos n (show 0 < d by omega)
  rcases Int.lt_trichotomy (n.tdiv d) (n / d) with c | c | c
  · exfalso
    have := Int.mul_le_mul_of_nonneg_left (show n.tdiv d + 1 ≤ n / d by omega) (show 0 ≤ d by omega)
    rw [Int.mul_add] at this
    omega
  · exact c
  · exfalso
    have := Int.mul_le_mul_of_nonneg_left (show n / d + 1 ≤ n.tdiv d by omega) (show 0 ≤ d by omega)
    rw [Int.mul_add] at this
    omega
/-- Whether the model's test takes one off. -/
theorem floor_test {n d : Int} (h : d * n.tdiv d ≤ n) : 0 ≤ n.tmod d := by
  have h1 := Int.mul_tdiv_add_tmod n d
  omega
theorem floor_test' {n d : Int} (h : n < d * n.tdiv d) : n.tmod d < 0 := by
  have h1 := Int.mul_tdiv_add_tmod n d
  omega
theorem both_no {a b : Bool} (h : a = false) : (a && b) = false := by rw [h]; rfl
theorem both_no' {a b : Bool} (h : b = false) : (a && b) = false := by rw [h]; cases a <;> rfl
theorem both_yes {a b : Bool} (h : a = true) (k : b = true) : (a && b) = true := by rw [h, k]; rfl
end Go.Proofs.Ytoijfjifaljpaab
