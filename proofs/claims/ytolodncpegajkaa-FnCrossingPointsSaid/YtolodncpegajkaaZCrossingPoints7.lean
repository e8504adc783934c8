/-
  Texts that the proof needs, merged. Written by an AI agent.
-/
import Derived.Orders
import Derived.Below
import Derived.OrdersIn
import Derived.Deep.LoopGhost
import Derived.WalkKit
import Derived.Laws.CopyRow
import Derived.Laws.AppendOwn
import Derived.Laws.Slices
import Derived.Laws.MakeOwn
import Derived.Test.YtolodncpegajkaaRows
import Derived.ProofKit
import Derived.OpenShut
import Derived.Carry
import Derived.IntWalk
import Derived.Test.YtolodncpegajkaaProg
import Derived.WalkSpells
import Derived.WalkLawsBesides
import Derived.Lib.Hide
import Derived.Deep.QuietTactic
import Derived.BigQuiet
import Derived.KernelRfl
import Derived.Deep.RegionHeld3
import Derived.LoopTactic
import Derived.Laws.StructEq
import Derived.Laws.Tables
import Derived.RangeFuncNested
import Derived.RangeFuncLeaves
import Derived.Deep.Slices
import Derived.Deep.Fields
import Derived.ChangeSame
import Derived.Deep.DeepCutAuto
import Derived.Sort.Grow
import Derived.Shelf.SlSortCmp.NoneTotal
import Derived.Shelf.SlSortCmp.WholeK
import Derived.Test.YtolodncpegajkaaZCrossingPoints6
namespace Go.Proofs.Ytolodncpegajkaa
set_option linter.all false
open Go.RowKit Go.Sort Go.Lib
theorem dvd_of_cop {a b c : Int} (h : gI a b = 1) (k : b ∣ a * c) : b ∣ c := by
  have h2 : Int.gcd b a = 1 := by
    unfold gI at h
    rw [Int.gcd_comm]
    omega
  have := Int.dvd_gcd_mul_iff_dvd_mul.2 k
  rwa [h2, Int.natCast_one, Int.one_mul] at this
/-- Fractions in lowest terms that are equal have equal parts. -/
theorem rat_same {a b c d : Int} (h1 : ratB a b = true) (h2 : ratB c d = true) (h : a * d = c * b) : a = c ∧ b = d := by
  obtain ⟨_, _, b1, _, g1⟩ := ratB_true h1
  obtain ⟨_, _, d1, _, g2⟩ := ratB_true h2
  have k1 : b ∣ d := dvd_of_cop g1 ⟨c, by rw [h, Int.mul_comm]⟩
  have k2 : d ∣ b := dvd_of_cop g2 ⟨a, by rw [← h, Int.mul_comm]⟩
  have e : b = d := Int.dvd_antisymm (by omega) (by omega) k1 k2
  subst e
  exact ⟨Int.eq_of_mul_eq_mul_right (by omega) h, rfl⟩
/-- One fraction is less than another one. -/
def fLt (a b c d : Int) : Prop := a * d < c * b
theorem fLt_trans {a b c d e f : Int} (hb : 0 < b) (hd : 0 < d) (hf : 0 < f) (h1 : fLt a b c d) (h2 : fLt c d e f) : fLt a b e f := by
  unfold fLt at *
  have k1 := Int.mul_lt_mul_of_pos_right h1 hf
  have k2 := Int.mul_lt_mul_of_pos_right h2 hb
  have e1 : c * b * f = c * f * b := by rw [Int.mul_assoc, Int.mul_comm b f, ← Int.mul_assoc]
  have e2 : a * d * f = a * f * d := by rw [Int.mul_assoc, Int.mul_comm d f, ← Int.mul_assoc]
  have e3 : e * d * b = e * b * d := by rw [Int.mul_assoc, Int.mul_comm d b, ← Int.mul_assoc]
  rw [e1, e2] at k1
  rw [e3] at k2
  exact Int.lt_of_mul_lt_mul_right (Int.lt_trans k1 k2) (by omega)
theorem fLt_tri {a b c d : Int} (h1 : ratB a b = true) (h2 : ratB c d = true) : fLt a b c d ∨ (a = c ∧ b = d) ∨ fLt c d a b := by
  unfold fLt
  rcases Int.lt_trichotomy (a * d) (c * b) with h | h | h
  · exact .inl h
  · exact .inr (.inl (rat_same h1 h2 h))
  · exact .inr (.inr h)
def okQ (q : Q4) : Bool := ratB q.1 q.2.1 && ratB q.2.2.1 q.2.2.2
def cmQ (x y : Q4) : Int := cmpRQ x.1 x.2.1 x.2.2.1 x.2.2.2 y.1 y.2.1 y.2.2.1 y.2.2.2
/-- One point is ahead of another one. -/
def qLt (x y : Q4) : Bool := decide (cmQ x y < 0)
def QLt (x y : Q4) : Prop := fLt x.1 x.2.1 y.1 y.2.1 ∨ (x.1 * y.2.1 = y.1 * x.2.1 ∧ fLt x.2.2.1 x.2.2.2 y.2.2.1 y.2.2.2)
theorem qLt_iff {x y : Q4} : qLt x y = true ↔ QLt x y := by
  unfold qLt QLt fLt cmQ cmpRQ orI sgn
  rw [decide_eq_true_eq]
  generalize x.1 * y.2.1 = A
  generalize y.1 * x.2.1 = B
  generalize x.2.2.1 * y.2.2.2 = C
  generalize y.2.2.1 * x.2.2.2 = D
  split <;> (try split) <;> (try split) <;> (try split) <;> omega
theorem okQ_1 {q : Q4} (h : okQ q = true) : ratB q.1 q.2.1 = true ∧ ratB q.2.2.1 q.2.2.2 = true := by
  unfold okQ at h
  exact Bool.and_eq_true_iff.1 h
theorem den_pos {a b : Int} (h : ratB a b = true) : 0 < b := by
  have := (ratB_true h).2.2.1
  omega
theorem qLt_irr (x : Q4) : qLt x x = false := by
  rw [← Bool.not_eq_true, qLt_iff]
  unfold QLt fLt
  omega
theorem qLt_tri {x y : Q4} (h1 : okQ x = true) (h2 : okQ y = true) : qLt x y = true ∨ x = y ∨ qLt y x = true := by
  obtain ⟨a1, a2⟩ := okQ_1 h1
  obtain ⟨b1, b2⟩ := okQ_1 h2
  rw [qLt_iff, qLt_iff]
  unfold QLt
  rcases fLt_tri a1 b1 with h | ⟨e1, e2⟩ | h
  · exact .inl (.inl h)
  · rcases fLt_tri a2 b2 with h | ⟨e3, e4⟩ | h
    · exact .inl (.inr ⟨by rw [e1, e2], h⟩)
    · refine .inr (.inl ?_)
      obtain ⟨xa, xb, xc, xd⟩ := x
      obtain ⟨ya, yb, yc, yd⟩ := y
      simp only at e1 e2 e3 e4
      rw [e1, e2, e3, e4]
    · exact .inr (.inr (.inr ⟨by rw [e1, e2], h⟩))
  · exact .inr (.inr (.inl h))
theorem qLt_trans {x y z : Q4} (h1 : okQ x = true) (h2 : okQ y = true) (h3 : okQ z = true) (k1 : qLt x y = true) (k2 : qLt y z = true) : qLt x z = true := by
  obtain ⟨a1, a2⟩ := okQ_1 h1
  obtain ⟨b1, b2⟩ := okQ_1 h2
  obtain ⟨c1, c2⟩ := okQ_1 h3
  rw [qLt_iff] at *
  unfold QLt at *
  rcases k1 with k1 | ⟨e1, k1⟩
  · rcases k2 with k2 | ⟨e2, k2⟩
    · exact .inl (fLt_trans (den_pos a1) (den_pos b1) (den_pos c1) k1 k2)
    · obtain ⟨e2, e3⟩ := rat_same b1 c1 e2
      rw [e2, e3] at k1
      exact .inl k1
  · obtain ⟨e1, e3⟩ := rat_same a1 b1 e1
    rw [e1, e3]
    rcases k2 with k2 | ⟨e2, k2⟩
    · exact .inl k2
    · exact .inr ⟨e2, fLt_trans (den_pos a2) (den_pos b2) (den_pos c2) k1 k2⟩
theorem qLt_asymm {x y : Q4} (h1 : okQ x = true) (h2 : okQ y = true) (k1 : qLt x y = true) : qLt y x = false := by
  rcases h : qLt y x with _ | _
  · rfl
  · have := qLt_trans h1 h2 h1 k1 h
    rw [qLt_irr] at this
    cases this
/-- Points with valid fractions. -/
abbrev RP := { q : Q4 // okQ q = true }
instance : Inhabited RP := ⟨⟨(0, 1, 0, 1), by decide +kernel⟩⟩
def cfR (x y : RP) : Int := cmQ x.1 y.1
theorem cfR_lt (x y : RP) : ltOf cfR x y = qLt x.1 y.1 := rfl
theorem swoR : SWO (ltOf cfR) where
  irrefl x := by rw [cfR_lt]; exact qLt_irr _
  trans x y z h1 h2 := by rw [cfR_lt] at *; exact qLt_trans x.2 y.2 z.2 h1 h2
  ntrans x y z h1 h2 := by
    rw [cfR_lt] at *
    rcases qLt_tri x.2 z.2 with h | h | h
    · rcases qLt_tri y.2 z.2 with k | k | k
      · rw [k] at h2; cases h2
      · rw [← k] at h; rw [h] at h1; cases h1
      · have := qLt_trans x.2 z.2 y.2 h k
        rw [this] at h1; cases h1
    · rw [h]; exact qLt_irr _
    · exact qLt_asymm z.2 x.2 h
/-- Points with fractions in order. -/
def srtQ (qs : List Q4) : List Q4 := qs.mergeSort fun x y => !(qLt y x)
theorem srtQ_len (qs : List Q4) : (srtQ qs).length = qs.length := List.length_mergeSort _
theorem srtQ_mem (qs : List Q4) (z : Q4) : z ∈ srtQ qs ↔ z ∈ qs := List.mem_mergeSort
theorem srtQ_sub (rs : List RP) : (rs.mergeSort fun x y => !(ltOf cfR) y x).map Subtype.val = srtQ (rs.map Subtype.val) := by
  unfold srtQ
  exact List.map_mergeSort fun a _ b _ => rfl
theorem sub_all {qs : List Q4} (h : ∀ q ∈ qs, okQ q = true) : ∃ rs : List RP, rs.map Subtype.val = qs := by
  induction qs with
  | nil => exact ⟨[], rfl⟩
  | cons q qs ih =>
    obtain ⟨rs, hr⟩ := ih fun z hz => h z (List.mem_cons_of_mem _ hz)
    exact ⟨⟨q, h q (List.mem_cons_self ..)⟩ :: rs, by rw [List.map_cons, hr]⟩
theorem srtQ_up {qs : List Q4} (h : ∀ q ∈ qs, okQ q = true) : (srtQ qs).Pairwise fun x y => qLt y x = false := by
  obtain ⟨rs, rfl⟩ := sub_all h
  rw [← srtQ_sub, List.pairwise_map]
  have := List.pairwise_mergeSort (le := fun x y => !(ltOf cfR) y x) (fun a b c h1 h2 => by
    simp only [Bool.not_eq_true'] at *
    exact swoR.ntrans _ _ _ h2 h1) (fun a b => by
    simp only [Bool.or_eq_true, Bool.not_eq_true', cfR_lt]
    rcases h : qLt b.1 a.1 with _ | _
    · exact .inl rfl
    · exact .inr (qLt_asymm b.2 a.2 h)) rs
  exact this.imp fun h => by simpa [cfR_lt] using h
end Go.Proofs.Ytolodncpegajkaa
namespace Go.Proofs.Ytolodncpegajkaa
set_option linter.all false
open Go.RowKit
theorem prD_lt2 (n : Nat) : ∀ f a t, t < offR n a f → a + f = n → (prD n f a t).1 < n ∧ (prD n f a t).2 < n
  | 0, a, t, h, _ => by simp [offR] at h
  | f + 1, a, t, h, ha => by
    have h : t < (n - 1 - a) + offR n (a + 1) f := h
    simp only [prD]
    split
    · simp only
      omega
    · exact prD_lt2 n f (a + 1) (t - (n - 1 - a)) (by omega) (by omega)
theorem prA_lt2 {n t : Nat} (h : t < offR n 0 n) : (prA n t).1 < n ∧ (prA n t).2 < n := prD_lt2 n n 0 t h (by omega)
def cpX (a c u v : Int) : Int := a * (u - v) + (c - a) * u
/-- The cells of the point where two segments cross. -/
def xp1 (a b c d e f g h : Int) : Int := qN (cpX a c (crossI e f g h a b) (crossI e f g h c d)) (crossI e f g h a b - crossI e f g h c d)
def xp2 (a b c d e f g h : Int) : Int := qD (cpX a c (crossI e f g h a b) (crossI e f g h c d)) (crossI e f g h a b - crossI e f g h c d)
def xp3 (a b c d e f g h : Int) : Int := qN (cpX b d (crossI e f g h a b) (crossI e f g h c d)) (crossI e f g h a b - crossI e f g h c d)
def xp4 (a b c d e f g h : Int) : Int := qD (cpX b d (crossI e f g h a b) (crossI e f g h c d)) (crossI e f g h a b - crossI e f g h c d)
def xpQ (a b c d e f g h : Int) : Q4 := (xp1 a b c d e f g h, xp2 a b c d e f g h, xp3 a b c d e f g h, xp4 a b c d e f g h)
theorem crI_bd2 {ax ay bx b_y cx cy : Int} (h1 : ptB ax ay = true) (h2 : ptB bx b_y = true) (h3 : ptB cx cy = true) : -8000000 ≤ crossI ax ay bx b_y cx cy ∧ crossI ax ay bx b_y cx cy ≤ 8000000 := by
  obtain ⟨b1, b2⟩ := crs_bd h1 h2 h3
  unfold crossI
  omega
theorem relA_2b {a b c d e f g h : Int} (k : relA a b c d e f g h = 2) : dvB a b c d e f g h = true ∧ dvB e f g h a b c d = true := by
  unfold relA relN at k
  split at k
  · omega
  · split at k
    · omega
    · cases hx : (dvB a b c d e f g h && dvB e f g h a b c d) <;> rw [hx] at k
      · simp at k
      · simpa using hx
theorem dvB_ne2 {a b c d e f g h : Int} (k : dvB a b c d e f g h = true) : crossI a b c d e f ≠ crossI a b c d g h := by
  intro e1
  unfold dvB at k
  rw [e1] at k
  have k := of_decide_eq_true k
  have h3 : cmpI (crossI a b c d g h) 0 = -1 ∨ cmpI (crossI a b c d g h) 0 = 0 ∨ cmpI (crossI a b c d g h) 0 = 1 := by
    unfold cmpI
    split
    · exact .inl rfl
    · split
      · exact .inr (.inr rfl)
      · exact .inr (.inl rfl)
  rcases h3 with h3 | h3 | h3 <;> rw [h3] at k <;> revert k <;> decide
theorem cp_bd {a b c d e f g h : Int} (h1 : ptB a b = true) (h2 : ptB c d = true) (h3 : ptB e f = true) (h4 : ptB g h = true) : (-16000000 ≤ crossI e f g h a b - crossI e f g h c d ∧ crossI e f g h a b - crossI e f g h c d ≤ 16000000) ∧ (-32000000000 ≤ cpX a c (crossI e f g h a b) (crossI e f g h c d) ∧ cpX a c (crossI e f g h a b) (crossI e f g h c d) ≤ 32000000000) ∧ -32000000000 ≤ cpX b d (crossI e f g h a b) (crossI e f g h c d) ∧ cpX b d (crossI e f g h a b) (crossI e f g h c d) ≤ 32000000000 := by
  have u1 := crI_bd2 h3 h4 h1
  have v1 := crI_bd2 h3 h4 h2
  unfold cpX
  generalize crossI e f g h a b = u at *
  generalize crossI e f g h c d = v at *
  have a1 := ptB_true h1
  have a2 := ptB_true h2
  have m1 : -(1000 * 16000000) ≤ a * (u - v) ∧ a * (u - v) ≤ 1000 * 16000000 := mul_bd 1000 16000000 (by omega) (by omega)
  have m2 : -(2000 * 8000000) ≤ (c - a) * u ∧ (c - a) * u ≤ 2000 * 8000000 := mul_bd 2000 8000000 (by omega) (by omega)
  have m3 : -(1000 * 16000000) ≤ b * (u - v) ∧ b * (u - v) ≤ 1000 * 16000000 := mul_bd 1000 16000000 (by omega) (by omega)
  have m4 : -(2000 * 8000000) ≤ (d - b) * u ∧ (d - b) * u ≤ 2000 * 8000000 := mul_bd 2000 8000000 (by omega) (by omega)
  omega
/-- The point where segments cross has fractions in lowest terms. -/
theorem xp_ok {a b c d e f g h : Int} (h1 : ptB a b = true) (h2 : ptB c d = true) (h3 : ptB e f = true) (h4 : ptB g h = true) (hne : crossI e f g h a b ≠ crossI e f g h c d) : okQ (xpQ a b c d e f g h) = true := by
  obtain ⟨k1, k2, k3⟩ := cp_bd h1 h2 h3 h4
  unfold okQ xpQ xp1 xp2 xp3 xp4
  simp only
  rw [q_rat3 (by omega) (by omega) (by omega), q_rat3 (by omega) (by omega) (by omega)]
  rfl
def ECqb : Env := mkE TSl2 (fun _ _ => none) (fun _ => noL)
theorem ECqb_ok : EnvOk Try.prog ECqb := mkEOk TSl2_ok (fun _ _ _ _ _ h => (by cases h)) (fun _ _ _ => noL_good)
set_option maxRecDepth 100000 in
theorem tr_sXp (a b c d e f g h : Int) : bodyV Try.prog ECqb 30 12 82 [.v (.agg #[iv a, iv b, iv c, iv d]), .v (.agg #[iv e, iv f, iv g, iv h])] = .need (ptB e f = true) (.need (ptB g h = true) (.need (ptB a b = true) (.need (ptB e f = true) (.need (ptB g h = true) (.need (ptB c d = true) (.need (big (IntKind.i64.wrap (IntKind.i64.wrap (a * IntKind.i64.wrap (crossI e f g h a b - crossI e f g h c d)) + IntKind.i64.wrap (IntKind.i64.wrap (c - a) * crossI e f g h a b)))) (.need (big (IntKind.i64.wrap (crossI e f g h a b - crossI e f g h c d))) (.need (¬IntKind.i64.wrap (crossI e f g h a b - crossI e f g h c d) = (0 : Int)) (.need (big (IntKind.i64.wrap (IntKind.i64.wrap (b * IntKind.i64.wrap (crossI e f g h a b - crossI e f g h c d)) + IntKind.i64.wrap (IntKind.i64.wrap (d - b) * crossI e f g h a b)))) (.need (big (IntKind.i64.wrap (crossI e f g h a b - crossI e f g h c d))) (.need (¬IntKind.i64.wrap (crossI e f g h a b - crossI e f g h c d) = (0 : Int)) (.fin (.agg #[.int .i64 (qN (IntKind.i64.wrap (IntKind.i64.wrap (a * IntKind.i64.wrap (crossI e f g h a b - crossI e f g h c d)) + IntKind.i64.wrap (IntKind.i64.wrap (c - a) * crossI e f g h a b))) (IntKind.i64.wrap (crossI e f g h a b - crossI e f g h c d))), .int .i64 (qD (IntKind.i64.wrap (IntKind.i64.wrap (a * IntKind.i64.wrap (crossI e f g h a b - crossI e f g h c d)) + IntKind.i64.wrap (IntKind.i64.wrap (c - a) * crossI e f g h a b))) (IntKind.i64.wrap (crossI e f g h a b - crossI e f g h c d))), .int .i64 (qN (IntKind.i64.wrap (IntKind.i64.wrap (b * IntKind.i64.wrap (crossI e f g h a b - crossI e f g h c d)) + IntKind.i64.wrap (IntKind.i64.wrap (d - b) * crossI e f g h a b))) (IntKind.i64.wrap (crossI e f g h a b - crossI e f g h c d))), .int .i64 (qD (IntKind.i64.wrap (IntKind.i64.wrap (b * IntKind.i64.wrap (crossI e f g h a b - crossI e f g h c d)) + IntKind.i64.wrap (IntKind.i64.wrap (d - b) * crossI e f g h a b))) (IntKind.i64.wrap (crossI e f g h a b - crossI e f g h c d)))]) [])))))))))))) := by kernel_rfl
set_option maxRecDepth 100000 in
theorem tr_iXp (a b c d e f g h : Int) : bodyV Try.prog ECqb 30 12 79 [.v (.agg #[iv a, iv b, iv c, iv d]), .v (.agg #[iv e, iv f, iv g, iv h])] = .need (big (IntKind.i64.wrap (IntKind.i64.wrap (a * IntKind.i64.wrap (IntKind.i64.wrap (IntKind.i64.wrap (c - a) * IntKind.i64.wrap (h - f)) - IntKind.i64.wrap (IntKind.i64.wrap (d - b) * IntKind.i64.wrap (g - e)))) + IntKind.i64.wrap (IntKind.i64.wrap (c - a) * IntKind.i64.wrap (IntKind.i64.wrap (IntKind.i64.wrap (e - a) * IntKind.i64.wrap (h - f)) - IntKind.i64.wrap (IntKind.i64.wrap (f - b) * IntKind.i64.wrap (g - e))))))) (.need (big (IntKind.i64.wrap (IntKind.i64.wrap (IntKind.i64.wrap (c - a) * IntKind.i64.wrap (h - f)) - IntKind.i64.wrap (IntKind.i64.wrap (d - b) * IntKind.i64.wrap (g - e))))) (.need (¬IntKind.i64.wrap (IntKind.i64.wrap (IntKind.i64.wrap (c - a) * IntKind.i64.wrap (h - f)) - IntKind.i64.wrap (IntKind.i64.wrap (d - b) * IntKind.i64.wrap (g - e))) = (0 : Int)) (.need (big (IntKind.i64.wrap (IntKind.i64.wrap (b * IntKind.i64.wrap (IntKind.i64.wrap (IntKind.i64.wrap (c - a) * IntKind.i64.wrap (h - f)) - IntKind.i64.wrap (IntKind.i64.wrap (d - b) * IntKind.i64.wrap (g - e)))) + IntKind.i64.wrap (IntKind.i64.wrap (d - b) * IntKind.i64.wrap (IntKind.i64.wrap (IntKind.i64.wrap (e - a) * IntKind.i64.wrap (h - f)) - IntKind.i64.wrap (IntKind.i64.wrap (f - b) * IntKind.i64.wrap (g - e))))))) (.need (big (IntKind.i64.wrap (IntKind.i64.wrap (IntKind.i64.wrap (c - a) * IntKind.i64.wrap (h - f)) - IntKind.i64.wrap (IntKind.i64.wrap (d - b) * IntKind.i64.wrap (g - e))))) (.need (¬IntKind.i64.wrap (IntKind.i64.wrap (IntKind.i64.wrap (c - a) * IntKind.i64.wrap (h - f)) - IntKind.i64.wrap (IntKind.i64.wrap (d - b) * IntKind.i64.wrap (g - e))) = (0 : Int)) (.fin (.agg #[.int .i64 (qN (IntKind.i64.wrap (IntKind.i64.wrap (a * IntKind.i64.wrap (IntKind.i64.wrap (IntKind.i64.wrap (c - a) * IntKind.i64.wrap (h - f)) - IntKind.i64.wrap (IntKind.i64.wrap (d - b) * IntKind.i64.wrap (g - e)))) + IntKind.i64.wrap (IntKind.i64.wrap (c - a) * IntKind.i64.wrap (IntKind.i64.wrap (IntKind.i64.wrap (e - a) * IntKind.i64.wrap (h - f)) - IntKind.i64.wrap (IntKind.i64.wrap (f - b) * IntKind.i64.wrap (g - e)))))) (IntKind.i64.wrap (IntKind.i64.wrap (IntKind.i64.wrap (c - a) * IntKind.i64.wrap (h - f)) - IntKind.i64.wrap (IntKind.i64.wrap (d - b) * IntKind.i64.wrap (g - e))))), .int .i64 (qD (IntKind.i64.wrap (IntKind.i64.wrap (a * IntKind.i64.wrap (IntKind.i64.wrap (IntKind.i64.wrap (c - a) * IntKind.i64.wrap (h - f)) - IntKind.i64.wrap (IntKind.i64.wrap (d - b) * IntKind.i64.wrap (g - e)))) + IntKind.i64.wrap (IntKind.i64.wrap (c - a) * IntKind.i64.wrap (IntKind.i64.wrap (IntKind.i64.wrap (e - a) * IntKind.i64.wrap (h - f)) - IntKind.i64.wrap (IntKind.i64.wrap (f - b) * IntKind.i64.wrap (g - e)))))) (IntKind.i64.wrap (IntKind.i64.wrap (IntKind.i64.wrap (c - a) * IntKind.i64.wrap (h - f)) - IntKind.i64.wrap (IntKind.i64.wrap (d - b) * IntKind.i64.wrap (g - e))))), .int .i64 (qN (IntKind.i64.wrap (IntKind.i64.wrap (b * IntKind.i64.wrap (IntKind.i64.wrap (IntKind.i64.wrap (c - a) * IntKind.i64.wrap (h - f)) - IntKind.i64.wrap (IntKind.i64.wrap (d - b) * IntKind.i64.wrap (g - e)))) + IntKind.i64.wrap (IntKind.i64.wrap (d - b) * IntKind.i64.wrap (IntKind.i64.wrap (IntKind.i64.wrap (e - a) * IntKind.i64.wrap (h - f)) - IntKind.i64.wrap (IntKind.i64.wrap (f - b) * IntKind.i64.wrap (g - e)))))) (IntKind.i64.wrap (IntKind.i64.wrap (IntKind.i64.wrap (c - a) * IntKind.i64.wrap (h - f)) - IntKind.i64.wrap (IntKind.i64.wrap (d - b) * IntKind.i64.wrap (g - e))))), .int .i64 (qD (IntKind.i64.wrap (IntKind.i64.wrap (b * IntKind.i64.wrap (IntKind.i64.wrap (IntKind.i64.wrap (c - a) * IntKind.i64.wrap (h - f)) - IntKind.i64.wrap (IntKind.i64.wrap (d - b) * IntKind.i64.wrap (g - e)))) + IntKind.i64.wrap (IntKind.i64.wrap (d - b) * IntKind.i64.wrap (IntKind.i64.wrap (IntKind.i64.wrap (e - a) * IntKind.i64.wrap (h - f)) - IntKind.i64.wrap (IntKind.i64.wrap (f - b) * IntKind.i64.wrap (g - e)))))) (IntKind.i64.wrap (IntKind.i64.wrap (IntKind.i64.wrap (c - a) * IntKind.i64.wrap (h - f)) - IntKind.i64.wrap (IntKind.i64.wrap (d - b) * IntKind.i64.wrap (g - e)))))]) [])))))) := by kernel_rfl
abbrev xpV (a b c d e f g h : Int) : Value := .agg #[.int .i64 (xp1 a b c d e f g h), .int .i64 (xp2 a b c d e f g h), .int .i64 (xp3 a b c d e f g h), .int .i64 (xp4 a b c d e f g h)]
theorem res_sXp {a b c d e f g h : Int} (h1 : ptB a b = true) (h2 : ptB c d = true) (h3 : ptB e f = true) (h4 : ptB g h = true) (hne : crossI e f g h a b ≠ crossI e f g h c d) : Res Try.prog 82 [.v (.agg #[iv a, iv b, iv c, iv d]), .v (.agg #[iv e, iv f, iv g, iv h])] (xpV a b c d e f g h) := by
  refine bodyV_res mixed ECqb_ok (m := 30) (n := 12) rfl ?_
  rw [tr_sXp]
  unfold xpV xp1 xp2 xp3 xp4 cpX
  have u1 := crI_bd2 h3 h4 h1
  have v1 := crI_bd2 h3 h4 h2
  generalize crossI e f g h a b = u at *
  generalize crossI e f g h c d = v at *
  have a1 := ptB_true h1
  have a2 := ptB_true h2
  have m1 : -(1000 * 16000000) ≤ a * (u - v) ∧ a * (u - v) ≤ 1000 * 16000000 := mul_bd 1000 16000000 (by omega) (by omega)
  have m2 : -(2000 * 8000000) ≤ (c - a) * u ∧ (c - a) * u ≤ 2000 * 8000000 := mul_bd 2000 8000000 (by omega) (by omega)
  have m3 : -(1000 * 16000000) ≤ b * (u - v) ∧ b * (u - v) ≤ 1000 * 16000000 := mul_bd 1000 16000000 (by omega) (by omega)
  have m4 : -(2000 * 8000000) ≤ (d - b) * u ∧ (d - b) * u ≤ 2000 * 8000000 := mul_bd 2000 8000000 (by omega) (by omega)
  simp (disch := omega) only [wr]
  exact ⟨h3, h4, h1, h3, h4, h2, by unfold big; omega, by unfold big; omega, by omega, by unfold big; omega, by unfold big; omega, by omega, rfl⟩
theorem res_iXp {a b c d e f g h : Int} (h1 : ptB a b = true) (h2 : ptB c d = true) (h3 : ptB e f = true) (h4 : ptB g h = true) (hne : crossI e f g h a b ≠ crossI e f g h c d) : Res Try.prog 79 [.v (.agg #[iv a, iv b, iv c, iv d]), .v (.agg #[iv e, iv f, iv g, iv h])] (xpV a b c d e f g h) := by
  refine bodyV_res mixed ECqb_ok (m := 30) (n := 12) rfl ?_
  rw [tr_iXp]
  unfold xpV xp1 xp2 xp3 xp4 cpX
  have u1 := crI_bd2 h3 h4 h1
  have v1 := crI_bd2 h3 h4 h2
  have a1 := ptB_true h1
  have a2 := ptB_true h2
  have a3 := ptB_true h3
  have a4 := ptB_true h4
  have p1 : -(2000 * 2000) ≤ (c - a) * (h - f) ∧ (c - a) * (h - f) ≤ 2000 * 2000 := mul_bd 2000 2000 (by omega) (by omega)
  have p2 : -(2000 * 2000) ≤ (d - b) * (g - e) ∧ (d - b) * (g - e) ≤ 2000 * 2000 := mul_bd 2000 2000 (by omega) (by omega)
  have p3 : -(2000 * 2000) ≤ (e - a) * (h - f) ∧ (e - a) * (h - f) ≤ 2000 * 2000 := mul_bd 2000 2000 (by omega) (by omega)
  have p4 : -(2000 * 2000) ≤ (f - b) * (g - e) ∧ (f - b) * (g - e) ≤ 2000 * 2000 := mul_bd 2000 2000 (by omega) (by omega)
  have eA : (c - a) * (h - f) - (d - b) * (g - e) = crossI e f g h a b - crossI e f g h c d := by unfold crossI; grind
  have eP : (e - a) * (h - f) - (f - b) * (g - e) = crossI e f g h a b := by unfold crossI; grind
  simp (disch := omega) only [wr, eA, eP]
  generalize crossI e f g h a b = u at *
  generalize crossI e f g h c d = v at *
  have m1 : -(1000 * 16000000) ≤ a * (u - v) ∧ a * (u - v) ≤ 1000 * 16000000 := mul_bd 1000 16000000 (by omega) (by omega)
  have m2 : -(2000 * 8000000) ≤ (c - a) * u ∧ (c - a) * u ≤ 2000 * 8000000 := mul_bd 2000 8000000 (by omega) (by omega)
  have m3 : -(1000 * 16000000) ≤ b * (u - v) ∧ b * (u - v) ≤ 1000 * 16000000 := mul_bd 1000 16000000 (by omega) (by omega)
  have m4 : -(2000 * 8000000) ≤ (d - b) * u ∧ (d - b) * u ≤ 2000 * 8000000 := mul_bd 2000 8000000 (by omega) (by omega)
  simp (disch := omega) only [wr]
  exact ⟨by unfold big; omega, by unfold big; omega, by omega, by unfold big; omega, by unfold big; omega, by omega, rfl⟩
def pXp : List DArg → Option (Value × List Prop)
  | [.v (.agg ⟨[.int .i64 a, .int .i64 b, .int .i64 c, .int .i64 d]⟩), .v (.agg ⟨[.int .i64 e, .int .i64 f, .int .i64 g, .int .i64 h]⟩)] => some (xpV a b c d e f g h, [ptB a b = true, ptB c d = true, ptB e f = true, ptB g h = true, crossI e f g h a b ≠ crossI e f g h c d])
  | _ => none
theorem pXp_s {ds : List DArg} {v : Value} {C : List Prop} (h : pXp ds = some (v, C)) (hC : AllP C) : Res Try.prog 82 ds v := by
  unfold pXp at h
  split at h
  · obtain ⟨rfl, rfl⟩ : _ ∧ _ := by simpa using h
    obtain ⟨h1, h2, h3, h4, h5, _⟩ := hC
    exact res_sXp h1 h2 h3 h4 h5
  · cases h
theorem pXp_i {ds : List DArg} {v : Value} {C : List Prop} (h : pXp ds = some (v, C)) (hC : AllP C) : Res Try.prog 79 ds v := by
  unfold pXp at h
  split at h
  · obtain ⟨rfl, rfl⟩ : _ ∧ _ := by simpa using h
    obtain ⟨h1, h2, h3, h4, h5, _⟩ := hC
    exact res_iXp h1 h2 h3 h4 h5
  · cases h
def TCq : Tab := fun f ds => match f with
  | 82 => pXp ds
  | 79 => pXp ds
  | f => TSl2 f ds
theorem TCq_ok : TabOk Try.prog TCq := by
  intro f ds v C h hC
  unfold TCq at h
  (try split at h)
  all_goals first | with_reducible exact pXp_s h hC | with_reducible exact pXp_i h hC | exact TSl2_ok _ _ _ _ h hC
end Go.Proofs.Ytolodncpegajkaa
namespace Go.Proofs.Ytolodncpegajkaa
set_option linter.all false
open Go.RowKit
/-- The first m points, each once where equal ones stand side by side. -/
def dmN (ps : List Q4) : Nat → List Q4
  | 0 => []
  | m + 1 => if m = 0 ∨ ps.getD m z4 ≠ ps.getD (m - 1) z4 then dmN ps m ++ [ps.getD m z4] else dmN ps m
def dmP (ps : List Q4) : List Q4 := dmN ps ps.length
def dupB (ps : List Q4) (i : Nat) : Bool := ps.getD i z4 == ps.getD (i - 1) z4
theorem dmN_le (ps : List Q4) : ∀ m, (dmN ps m).length ≤ m
  | 0 => Nat.le_refl _
  | m + 1 => by
    have := dmN_le ps m
    simp only [dmN]
    split
    · simp; omega
    · omega
theorem dmN_take {ps : List Q4} : ∀ m, m ≤ ps.length → (∀ j, 1 ≤ j → j < m → dupB ps j = false) → dmN ps m = ps.take m
  | 0, _, _ => rfl
  | m + 1, hm, h => by
    have ih := dmN_take m (by omega) fun j h1 h2 => h j h1 (by omega)
    simp only [dmN]
    have ht : ps.take (m + 1) = ps.take m ++ [ps.getD m z4] := by
      rw [List.take_add_one]
      simp [List.getD, show m < ps.length by omega]
    rw [ht, ← ih]
    rcases Nat.eq_zero_or_pos m with h0 | h0
    · rw [if_pos (.inl h0)]
    · have := h m h0 (by omega)
      unfold dupB at this
      rw [beq_eq_false_iff_ne] at this
      rw [if_pos (.inr this)]
def EDp : Env := tabE B0
theorem EDp_ok : EnvOk Try.prog EDp := tabE_ok B0_ok
noncomputable def c_dpI : Code := ((loopsOf (codeOf Try.f128))[1]?).getD .skip
def k_dpI : Ex → List Nat := keeps [0, 3, 4, 5] [(2, [0, 3]), (1, [0, 3]), (0, [0])] [2]
def s_dpI (ps : List Q4) (k0 : Nat) : Nat × Nat × (List Q4) → St := fun (j, q, X) => ⟨(.slice (some ⟨0, 0, none⟩) ps.length ps.length :: topV :: topV :: .int .i64 q :: .slice (some ⟨0, k0 * 4, none⟩) (ps.length - k0) (ps.length - k0) :: .int .i64 j :: topV :: topV :: topV :: topV :: topV :: topV :: topV :: topV :: topV :: topV :: topV :: topV :: topV :: topV :: topV :: topV :: topV :: topV :: topV :: topV :: topV :: topV :: topV :: topV :: topV :: topV :: topV :: topV :: topV :: topV :: topV :: topV :: topV :: topV :: topV :: topV :: topV :: topV :: topV :: topV :: topV :: topV :: topV :: topV :: topV :: topV :: topV :: topV :: topV :: topV :: topV :: topV :: topV :: topV :: topV :: []), [some ⟨.row 52 4, .ints (fl4 X)⟩]⟩
def re_dpI : Nat × Nat × (List Q4) → Ex := fun _ => .exit 2
def rs_dpI (ps : List Q4) (k0 : Nat) : Nat × Nat × (List Q4) → St := fun (j, q, X) => ⟨(.slice (some ⟨0, 0, none⟩) ps.length ps.length :: topV :: topV :: .int .i64 ((dmN ps ps.length).length : Nat) :: topV :: topV :: topV :: topV :: topV :: topV :: topV :: topV :: topV :: topV :: topV :: topV :: topV :: topV :: topV :: topV :: topV :: topV :: topV :: topV :: topV :: topV :: topV :: topV :: topV :: topV :: topV :: topV :: topV :: topV :: topV :: topV :: topV :: topV :: topV :: topV :: topV :: topV :: topV :: topV :: topV :: topV :: topV :: topV :: topV :: topV :: topV :: topV :: topV :: topV :: topV :: topV :: topV :: topV :: topV :: topV :: topV :: []), [some ⟨.row 52 4, .ints (fl4 (dmN ps ps.length ++ ps.drop (dmN ps ps.length).length))⟩]⟩
set_option maxRecDepth 100000 in
theorem tr_dpI (ps : List Q4) (k0 : Nat) (j q : Nat) (X : List Q4) : bodyL Try.prog EDp 30 12 noL 2 c_dpI k_dpI 1 (s_dpI ps k0 (j, q, X)) = brT (decide ((↑j : Int) < (↑(ps.length - k0) : Int))) (.need ((0 : Int) ≤ (↑j : Int) ∧ (↑j : Int) < (↑(ps.length - k0) : Int)) (.need (k0 * (4 : Nat) + (↑j : Int).toNat * (4 : Nat) + (4 : Nat) ≤ (fl4 X).length) (.need ((0 : Int) ≤ IntKind.i64.wrap ((↑j : Int) - (1 : Int)) ∧ IntKind.i64.wrap ((↑j : Int) - (1 : Int)) < (↑(ps.length - k0) : Int)) (.need (k0 * (4 : Nat) + (IntKind.i64.wrap ((↑j : Int) - (1 : Int))).toNat * (4 : Nat) + (4 : Nat) ≤ (fl4 X).length) (brT (negB true ((fl4 X).getD (k0 * 4 + (↑j : Int).toNat * 4) 0 == (fl4 X).getD (k0 * 4 + (IntKind.i64.wrap ((↑j : Int) - 1)).toNat * 4) 0 && ((fl4 X).getD (k0 * 4 + (↑j : Int).toNat * 4 + 1) 0 == (fl4 X).getD (k0 * 4 + (IntKind.i64.wrap ((↑j : Int) - 1)).toNat * 4 + 1) 0 && true) && ((fl4 X).getD (k0 * 4 + (↑j : Int).toNat * 4 + 1 + 1) 0 == (fl4 X).getD (k0 * 4 + (IntKind.i64.wrap ((↑j : Int) - 1)).toNat * 4 + 1 + 1) 0 && ((fl4 X).getD (k0 * 4 + (↑j : Int).toNat * 4 + 1 + 1 + 1) 0 == (fl4 X).getD (k0 * 4 + (IntKind.i64.wrap ((↑j : Int) - 1)).toNat * 4 + 1 + 1 + 1) 0 && true) && true))) (.need ((0 : Int) ≤ (↑j : Int) ∧ (↑j : Int) < (↑(ps.length - k0) : Int)) (.need (k0 * (4 : Nat) + (↑j : Int).toNat * (4 : Nat) + (4 : Nat) ≤ (fl4 X).length) (.need ((0 : Int) ≤ (↑q : Int) ∧ (↑q : Int) < (↑ps.length : Int)) (.need ((0 : Nat) + (↑q : Int).toNat * (4 : Nat) + (4 : Nat) ≤ (fl4 X).length) (.leaf .normal ⟨(.slice (some ⟨0, 0, none⟩) (ps.length) (ps.length) :: topV :: topV :: .int .i64 (IntKind.i64.wrap ((↑q : Int) + 1)) :: .slice (some ⟨0, k0 * 4, none⟩) (ps.length - k0) (ps.length - k0) :: .int .i64 (IntKind.i64.wrap ((↑j : Int) + 1)) :: topV :: topV :: topV :: topV :: topV :: topV :: topV :: topV :: topV :: topV :: topV :: topV :: topV :: topV :: topV :: topV :: topV :: topV :: topV :: topV :: topV :: topV :: topV :: topV :: topV :: topV :: topV :: topV :: topV :: topV :: topV :: topV :: topV :: topV :: topV :: topV :: topV :: topV :: topV :: topV :: topV :: topV :: topV :: topV :: topV :: topV :: topV :: topV :: topV :: topV :: topV :: topV :: topV :: topV :: topV :: []), [some ⟨.row 52 4, .ints (setInts (fl4 X) (0 + (↑q : Int).toNat * 4) [(fl4 X).getD (k0 * 4 + (↑j : Int).toNat * 4) 0, (fl4 X).getD (k0 * 4 + (↑j : Int).toNat * 4 + 1) 0, (fl4 X).getD (k0 * 4 + (↑j : Int).toNat * 4 + 1 + 1) 0, (fl4 X).getD (k0 * 4 + (↑j : Int).toNat * 4 + 1 + 1 + 1) 0])⟩]⟩))))) (.leaf .normal ⟨(.slice (some ⟨0, 0, none⟩) (ps.length) (ps.length) :: topV :: topV :: .int .i64 ((↑q : Int)) :: .slice (some ⟨0, k0 * 4, none⟩) (ps.length - k0) (ps.length - k0) :: .int .i64 (IntKind.i64.wrap ((↑j : Int) + 1)) :: topV :: topV :: topV :: topV :: topV :: topV :: topV :: topV :: topV :: topV :: topV :: topV :: topV :: topV :: topV :: topV :: topV :: topV :: topV :: topV :: topV :: topV :: topV :: topV :: topV :: topV :: topV :: topV :: topV :: topV :: topV :: topV :: topV :: topV :: topV :: topV :: topV :: topV :: topV :: topV :: topV :: topV :: topV :: topV :: topV :: topV :: topV :: topV :: topV :: topV :: topV :: topV :: topV :: topV :: topV :: []), [some ⟨.row 52 4, .ints (fl4 X)⟩]⟩)))))) (.leaf (.exit 2) ⟨(.slice (some ⟨0, 0, none⟩) (ps.length) (ps.length) :: topV :: topV :: .int .i64 ((↑q : Int)) :: topV :: topV :: topV :: topV :: topV :: topV :: topV :: topV :: topV :: topV :: topV :: topV :: topV :: topV :: topV :: topV :: topV :: topV :: topV :: topV :: topV :: topV :: topV :: topV :: topV :: topV :: topV :: topV :: topV :: topV :: topV :: topV :: topV :: topV :: topV :: topV :: topV :: topV :: topV :: topV :: topV :: topV :: topV :: topV :: topV :: topV :: topV :: topV :: topV :: topV :: topV :: topV :: topV :: topV :: topV :: topV :: topV :: []), [some ⟨.row 52 4, .ints (fl4 X)⟩]⟩) := by kernel_rfl
set_option maxRecDepth 100000 in
theorem nl_dpI : loopsOf c_dpI = [] := by kernel_rfl
def inv_dpI (ps : List Q4) (k0 : Nat) : Nat × Nat × (List Q4) → Prop := fun (j, q, X) => 1 ≤ j ∧ k0 + j ≤ ps.length ∧ q ≤ k0 + j - 1 ∧ q = (dmN ps (k0 + j)).length ∧ X = dmN ps (k0 + j) ++ ps.drop q
def me_dpI (ps : List Q4) (k0 : Nat) : Nat × Nat × (List Q4) → Nat := fun (j, q, X) => ps.length - (k0 + j)
/-- A round of this loop. -/
def Round_dpI (ps : List Q4) (k0 : Nat) : Prop := ∀ xx : Nat × Nat × (List Q4), inv_dpI ps k0 xx → (bodyL Try.prog EDp 30 12 noL 2 c_dpI k_dpI 1 (s_dpI ps k0 xx)).ok (RoundEnd 1 (s_dpI ps k0) (inv_dpI ps k0) (me_dpI ps k0) re_dpI (rs_dpI ps k0) xx) (fun _ _ => False)
def e_dpI (s : St) (k : Ex → St → Tree) : Option Tree := match Nat.beq s.tmps.length 61, pickL s.tmps [0, 3, 4, 5], s.mem with
  | true, [.slice (some ⟨0, 0, none⟩) n _, .int .i64 kk, .slice (some ⟨0, o, none⟩) l _, .int .i64 k2], [some ⟨.row 52 4, .ints xs⟩] => some (needs [k2 = 1, xs.length = n * 4, 0 ≤ kk, 1 ≤ kk ∧ kk < n, o = kk.toNat * 4, l = n - kk.toNat, dupB (q4A n xs) kk.toNat = true, (∀ j, 1 ≤ j → j < kk.toNat → dupB (q4A n xs) j = false), n ≤ 1000000000] (k (.exit 2) ⟨(.slice (some ⟨0, 0, none⟩) n n :: topV :: topV :: .int .i64 ((dmN (q4A n xs) n).length : Nat) :: topV :: topV :: topV :: topV :: topV :: topV :: topV :: topV :: topV :: topV :: topV :: topV :: topV :: topV :: topV :: topV :: topV :: topV :: topV :: topV :: topV :: topV :: topV :: topV :: topV :: topV :: topV :: topV :: topV :: topV :: topV :: topV :: topV :: topV :: topV :: topV :: topV :: topV :: topV :: topV :: topV :: topV :: topV :: topV :: topV :: topV :: topV :: topV :: topV :: topV :: topV :: topV :: topV :: topV :: topV :: topV :: topV :: []), [some ⟨.row 52 4, .ints (fl4 (dmN (q4A n xs) n ++ (q4A n xs).drop (dmN (q4A n xs) n).length))⟩]⟩))
  | _, _, _ => none
theorem dp_dup {ps : List Q4} {m : Nat} (h : dupB ps m = true) (hm : m ≠ 0) : dmN ps (m + 1) = dmN ps m := by
  unfold dupB at h
  simp only [dmN]
  rw [if_neg]
  rintro (h1 | h1)
  · exact hm h1
  · exact h1 (by simpa using h)
theorem dp_new {ps : List Q4} {m : Nat} (h : dupB ps m = false) : dmN ps (m + 1) = dmN ps m ++ [ps.getD m z4] := by
  unfold dupB at h
  simp only [dmN]
  rw [if_pos (.inr (by simpa using h))]
theorem dp_start {ps : List Q4} {k : Nat} (h2 : 1 ≤ (k : Int) ∧ (k : Int) < (ps.length : Int)) (h3 : dupB ps k = true) (h4 : ∀ j, 1 ≤ j → j < k → dupB ps j = false) : 1 ≤ 1 ∧ k + 1 ≤ ps.length ∧ k ≤ k + 1 - 1 ∧ k = (dmN ps (k + 1)).length ∧ ps = dmN ps (k + 1) ++ ps.drop k := by
  have e := dp_dup h3 (by omega)
  rw [dmN_take k (by omega) h4] at e
  refine ⟨Nat.le_refl _, by omega, by omega, ?_, ?_⟩
  · rw [e, List.length_take]; omega
  · rw [e, List.take_append_drop]
theorem dp_get {ps : List Q4} {q : List Q4} {j : Nat} (h : q.length ≤ j) : (q ++ ps.drop q.length).getD j z4 = ps.getD j z4 := by
  simp only [List.getD]
  rw [List.getElem?_append_right h, List.getElem?_drop]
  congr 2
  omega
theorem dp_len {ps q : List Q4} (h : q.length ≤ ps.length) : (q ++ ps.drop q.length).length = ps.length := by
  rw [List.length_append, List.length_drop]
  omega
theorem dp_set {ps q : List Q4} (h : q.length < ps.length) (z : Q4) : (q ++ ps.drop q.length).set q.length z = (q ++ [z]) ++ ps.drop (q.length + 1) := by
  rw [List.set_append_right _ _ (Nat.le_refl _), Nat.sub_self, drop_cons h z4]
  simp
theorem fl4_g2 (ps : List Q4) (k : Nat) : (fl4 ps).getD (k * 4 + 1 + 1) 0 = (ps.getD k z4).2.2.1 := fl4_get2 ps k
theorem fl4_g3 (ps : List Q4) (k : Nat) : (fl4 ps).getD (k * 4 + 1 + 1 + 1) 0 = (ps.getD k z4).2.2.2 := fl4_get3 ps k
theorem eq_q4 (a b : Q4) : ((a.1 == b.1 && (a.2.1 == b.2.1 && true)) && ((a.2.2.1 == b.2.2.1 && (a.2.2.2 == b.2.2.2 && true)) && true)) = (a == b) := by
  simp only [Bool.and_true, Bool.and_assoc]
  rfl
theorem dup_iq (ps : List Q4) (m : Nat) : (((ps.getD m z4).1 == (ps.getD (m - 1) z4).1 && ((ps.getD m z4).2.1 == (ps.getD (m - 1) z4).2.1 && true)) && (((ps.getD m z4).2.2.1 == (ps.getD (m - 1) z4).2.2.1 && ((ps.getD m z4).2.2.2 == (ps.getD (m - 1) z4).2.2.2 && true)) && true)) = dupB ps m := eq_q4 _ _
set_option maxRecDepth 100000 in
theorem round_dpI (ps : List Q4) (k0 : Nat) (h : ps.length ≤ 1000000000) : Round_dpI ps k0 := by
  rintro ⟨j, q, X⟩ ⟨h1, h2, h3, hq0, rfl⟩
  rw [tr_dpI]
  have hq : (dmN ps (k0 + j)).length ≤ ps.length := by omega
  have hX := dp_len hq
  have g1 := dp_get (ps := ps) (q := dmN ps (k0 + j)) (j := k0 + j) (by omega)
  have g2 := dp_get (ps := ps) (q := dmN ps (k0 + j)) (j := k0 + j - 1) (by omega)
  rw [← hq0] at hX g1 g2
  have a2 : IntKind.i64.wrap ((j : Int) - 1) = ((j - 1 : Nat) : Int) := by rw [wr (by omega)]; omega
  refine brT_ok.2 ⟨fun hlt => ?_, fun hge => ?_⟩
  · have hlt := of_decide_eq_true hlt
    have hm : k0 + j < ps.length := by omega
    have a1 : k0 * 4 + (j : Int).toNat * 4 = (k0 + j) * 4 := by omega
    have a3 : k0 * 4 + ((j - 1 : Nat) : Int).toNat * 4 = (k0 + j - 1) * 4 := by omega
    have a4 : 0 + (q : Int).toNat * 4 = q * 4 := by omega
    have hs := fl4_set (dmN ps (k0 + j) ++ ps.drop q) q (by omega) (ps.getD (k0 + j) z4).1 (ps.getD (k0 + j) z4).2.1 (ps.getD (k0 + j) z4).2.2.1 (ps.getD (k0 + j) z4).2.2.2
    have hs2 := dp_set (ps := ps) (q := dmN ps (k0 + j)) (by omega) (ps.getD (k0 + j) z4)
    rw [← hq0] at hs2
    rw [hs2] at hs
    simp only [a2, a1, a3, a4, wsucc (i := j) (n := ps.length) (by omega) h, wsucc (i := q) (n := ps.length) (by omega) h, fl4_get0, fl4_get1, fl4_g2, fl4_g3, fl4_length, g1, g2, dup_iq, hX, hs]
    refine ⟨by omega, by omega, by omega, by omega, brT_ok.2 ⟨fun c => ⟨by omega, by omega, by omega, by omega, ?_⟩, fun c => ?_⟩⟩
    · have hd : dupB ps (k0 + j) = false := by simpa [negB] using c
      have e := dp_new hd
      have el : q + 1 = (dmN ps (k0 + j + 1)).length := by rw [e]; simp; omega
      refine ⟨(j + 1, q + 1, dmN ps (k0 + j) ++ [ps.getD (k0 + j) z4] ++ ps.drop (q + 1)), [], ⟨by omega, by omega, by omega, el, by show _ = dmN ps (k0 + j + 1) ++ _; rw [e]⟩, ?_, rfl, by simp only [rs_dpI], ?_⟩
      · show ps.length - (k0 + (j + 1)) < ps.length - (k0 + j); omega
      · repeat' (first | exact True.intro | exact rfl | exact fun _ => rfl | (simp; done) | refine And.intro ?_ ?_)
    · have hd : dupB ps (k0 + j) = true := by simpa [negB] using c
      have e := dp_dup hd (by omega)
      refine ⟨(j + 1, q, dmN ps (k0 + j) ++ ps.drop q), [], ⟨by omega, by omega, by omega, by show _ = (dmN ps (k0 + j + 1)).length; rw [e]; exact hq0, by show _ = dmN ps (k0 + j + 1) ++ _; rw [e]⟩, ?_, rfl, by simp only [rs_dpI], ?_⟩
      · show ps.length - (k0 + (j + 1)) < ps.length - (k0 + j); omega
      · repeat' (first | exact True.intro | exact rfl | exact fun _ => rfl | (simp; done) | refine And.intro ?_ ?_)
  · have hge := of_decide_eq_false hge
    have hm : k0 + j = ps.length := by omega
    refine ⟨rfl, [], ?_⟩
    rw [hm] at hq0
    simp only [rs_dpI, hm, ← hq0]
    repeat' (first | exact True.intro | exact rfl | exact fun _ => rfl | (simp; done) | refine And.intro ?_ ?_)
set_option maxRecDepth 100000 in
theorem lg_dpI : LoopE Try.prog e_dpI c_dpI := by
  intro s k t F H hlt ht
  unfold e_dpI at hlt
  split at hlt
  rotate_left
  · cases hlt
  rename_i hlen hpick hmem
  obtain ⟨tmps, mem⟩ := s
  simp only at hlen hpick hmem
  subst hmem
  obtain rfl := Option.some.inj hlt
  obtain ⟨⟨rfl, h1, h6, h2, rfl, rfl, h3, h4, h5, _⟩, ht2⟩ := needs_ok ht
  clear ht hlt
  obtain ⟨ps, rfl, rfl⟩ := four_fl4 h1
  obtain ⟨k, rfl⟩ := Int.eq_ofNat_of_zero_le h6
  rw [q4A_fl4] at ht2 h3 h4
  simp only [Int.toNat_natCast] at ht2 h3 h4
  refine ⟨_, _, ht2, loop_run mixed EDp_ok (s_dpI ps k) (inv_dpI ps k) (me_dpI ps k) re_dpI (rs_dpI ps k) k_dpI (fun _ => rfl) (noLoops nl_dpI) (round_dpI ps k h5) (x := (1, k, ps)) (dp_start h2 h3 h4) (π := []) rfl ?_⟩
  refine ⟨rfl, rfl, ?_, wvs_spread' [0, 3, 4, 5] hlen rfl ?_⟩
  · repeat' (first | exact True.intro | exact rfl | exact wv_top _ _ | exact fun _ => rfl | assumption | exact Eq.symm (by assumption) | exact vI0 rfl | refine And.intro ?_ ?_)
  · rw [hpick]
    repeat' (first | exact True.intro | exact rfl | exact wv_top _ _ | exact fun _ => rfl | assumption | exact Eq.symm (by assumption) | exact vI0 rfl | refine And.intro ?_ ?_)
def ltDp : LT := fun j s k => match j with
  | 1 => e_dpI s k
  | _ => none
noncomputable def c_dpO : Code := ((loopsOf (codeOf Try.f128))[0]?).getD .skip
def k_dpO : Ex → List Nat := keeps [0, 3] [(0, [0])] [2]
def s_dpO (ps : List Q4) : Nat → St := fun i => ⟨(.slice (some ⟨0, 0, none⟩) ps.length ps.length :: topV :: topV :: .int .i64 i :: topV :: topV :: topV :: topV :: topV :: topV :: topV :: topV :: topV :: topV :: topV :: topV :: topV :: topV :: topV :: topV :: topV :: topV :: topV :: topV :: topV :: topV :: topV :: topV :: topV :: topV :: topV :: topV :: topV :: topV :: topV :: topV :: topV :: topV :: topV :: topV :: topV :: topV :: topV :: topV :: topV :: topV :: topV :: topV :: topV :: topV :: topV :: topV :: topV :: topV :: topV :: topV :: topV :: topV :: topV :: topV :: topV :: []), [some ⟨.row 52 4, .ints (fl4 ps)⟩]⟩
def re_dpO (ps : List Q4) : Nat → Ex := fun i => bif allQ (fun j => !(dupB ps j)) i (ps.length - i) then .exit 0 else .ret
def rs_dpO (ps : List Q4) : Nat → St := fun i => bif allQ (fun j => !(dupB ps j)) i (ps.length - i) then ⟨(.slice (some ⟨0, 0, none⟩) ps.length ps.length :: topV :: topV :: topV :: topV :: topV :: topV :: topV :: topV :: topV :: topV :: topV :: topV :: topV :: topV :: topV :: topV :: topV :: topV :: topV :: topV :: topV :: topV :: topV :: topV :: topV :: topV :: topV :: topV :: topV :: topV :: topV :: topV :: topV :: topV :: topV :: topV :: topV :: topV :: topV :: topV :: topV :: topV :: topV :: topV :: topV :: topV :: topV :: topV :: topV :: topV :: topV :: topV :: topV :: topV :: topV :: topV :: topV :: topV :: topV :: topV :: []), [some ⟨.row 52 4, .ints (fl4 ps)⟩]⟩ else ⟨(topV :: topV :: .slice (some ⟨0, 0, none⟩) (dmP ps).length (dmP ps).length :: topV :: topV :: topV :: topV :: topV :: topV :: topV :: topV :: topV :: topV :: topV :: topV :: topV :: topV :: topV :: topV :: topV :: topV :: topV :: topV :: topV :: topV :: topV :: topV :: topV :: topV :: topV :: topV :: topV :: topV :: topV :: topV :: topV :: topV :: topV :: topV :: topV :: topV :: topV :: topV :: topV :: topV :: topV :: topV :: topV :: topV :: topV :: topV :: topV :: topV :: topV :: topV :: topV :: topV :: topV :: topV :: topV :: topV :: []), [some ⟨.row 52 4, .ints (fl4 (dmP ps))⟩]⟩
set_option maxRecDepth 100000 in
theorem tr_dpO (ps : List Q4) (i : Nat) : bodyL Try.prog EDp 30 12 ltDp 1 c_dpO k_dpO 1 (s_dpO ps i) = brT (decide ((↑i : Int) < (↑ps.length : Int))) (.need ((0 : Int) ≤ (↑i : Int) ∧ (↑i : Int) < (↑ps.length : Int)) (.need ((0 : Nat) + (↑i : Int).toNat * (4 : Nat) + (4 : Nat) ≤ (fl4 ps).length) (.need ((0 : Int) ≤ IntKind.i64.wrap ((↑i : Int) - (1 : Int)) ∧ IntKind.i64.wrap ((↑i : Int) - (1 : Int)) < (↑ps.length : Int)) (.need ((0 : Nat) + (IntKind.i64.wrap ((↑i : Int) - (1 : Int))).toNat * (4 : Nat) + (4 : Nat) ≤ (fl4 ps).length) (brT (negB false ((fl4 ps).getD (0 + (↑i : Int).toNat * 4) 0 == (fl4 ps).getD (0 + (IntKind.i64.wrap ((↑i : Int) - 1)).toNat * 4) 0 && ((fl4 ps).getD (0 + (↑i : Int).toNat * 4 + 1) 0 == (fl4 ps).getD (0 + (IntKind.i64.wrap ((↑i : Int) - 1)).toNat * 4 + 1) 0 && true) && ((fl4 ps).getD (0 + (↑i : Int).toNat * 4 + 1 + 1) 0 == (fl4 ps).getD (0 + (IntKind.i64.wrap ((↑i : Int) - 1)).toNat * 4 + 1 + 1) 0 && ((fl4 ps).getD (0 + (↑i : Int).toNat * 4 + 1 + 1 + 1) 0 == (fl4 ps).getD (0 + (IntKind.i64.wrap ((↑i : Int) - 1)).toNat * 4 + 1 + 1 + 1) 0 && true) && true))) (.need ((0 : Int) ≤ bndI (some (IntKind.i64, (↑i : Int))) (0 : Int) ∧ bndI (some (IntKind.i64, (↑i : Int))) (0 : Int) ≤ bndI none (↑ps.length : Int) ∧ bndI none (↑ps.length : Int) ≤ (↑ps.length : Int)) (.need ((1 : Int) = (1 : Int)) (.need ((fl4 ps).length = ps.length * (4 : Nat)) (.need ((0 : Int) ≤ (↑i : Int)) (.need ((1 : Int) ≤ (↑i : Int) ∧ (↑i : Int) < (↑ps.length : Int)) (.need ((0 : Nat) + (bndI (some (IntKind.i64, (↑i : Int))) (0 : Int)).toNat * (4 : Nat) = (↑i : Int).toNat * (4 : Nat)) (.need ((bndI none (↑ps.length : Int)).toNat - (bndI (some (IntKind.i64, (↑i : Int))) (0 : Int)).toNat = ps.length - (↑i : Int).toNat) (.need (dupB (q4A ps.length (fl4 ps)) (↑i : Int).toNat = true) (.need (∀ (j : Nat), (1 : Nat) ≤ j → j < (↑i : Int).toNat → dupB (q4A ps.length (fl4 ps)) j = false) (.need (ps.length ≤ (1000000000 : Nat)) (.need ((0 : Int) ≤ bndI (some (IntKind.i64, (↑(dmN (q4A ps.length (fl4 ps)) ps.length).length : Int))) (0 : Int) ∧ bndI (some (IntKind.i64, (↑(dmN (q4A ps.length (fl4 ps)) ps.length).length : Int))) (0 : Int) ≤ bndI none (↑ps.length : Int) ∧ bndI none (↑ps.length : Int) ≤ (↑ps.length : Int)) (.need ((0 : Nat) + (bndI (some (IntKind.i64, (↑(dmN (q4A ps.length (fl4 ps)) ps.length).length : Int))) (0 : Int)).toNat * (4 : Nat) + ((bndI none (↑ps.length : Int)).toNat - (bndI (some (IntKind.i64, (↑(dmN (q4A ps.length (fl4 ps)) ps.length).length : Int))) (0 : Int)).toNat) * (4 : Nat) ≤ (fl4 (dmN (q4A ps.length (fl4 ps)) ps.length ++ List.drop (dmN (q4A ps.length (fl4 ps)) ps.length).length (q4A ps.length (fl4 ps)))).length) (.need ((0 : Int) ≤ bndI none (0 : Int) ∧ bndI none (0 : Int) ≤ bndI (some (IntKind.i64, (↑(dmN (q4A ps.length (fl4 ps)) ps.length).length : Int))) (↑ps.length : Int) ∧ bndI (some (IntKind.i64, (↑(dmN (q4A ps.length (fl4 ps)) ps.length).length : Int))) (↑ps.length : Int) ≤ (↑ps.length : Int)) (.leaf .ret ⟨(topV :: topV :: .slice (some ⟨0, 0, none⟩) ((bndI (some (IntKind.i64, (↑(dmN (q4A ps.length (fl4 ps)) ps.length).length : Int))) (↑ps.length : Int)).toNat - 0) ((bndI (some (IntKind.i64, (↑(dmN (q4A ps.length (fl4 ps)) ps.length).length : Int))) (↑ps.length : Int)).toNat - 0) :: topV :: topV :: topV :: topV :: topV :: topV :: topV :: topV :: topV :: topV :: topV :: topV :: topV :: topV :: topV :: topV :: topV :: topV :: topV :: topV :: topV :: topV :: topV :: topV :: topV :: topV :: topV :: topV :: topV :: topV :: topV :: topV :: topV :: topV :: topV :: topV :: topV :: topV :: topV :: topV :: topV :: topV :: topV :: topV :: topV :: topV :: topV :: topV :: topV :: topV :: topV :: topV :: topV :: topV :: topV :: topV :: topV :: topV :: []), [some ⟨.row 52 4, .ints (List.take (0 + (bndI (some (IntKind.i64, (↑(dmN (q4A ps.length (fl4 ps)) ps.length).length : Int))) 0).toNat * 4) (fl4 (dmN (q4A ps.length (fl4 ps)) ps.length ++ List.drop (dmN (q4A ps.length (fl4 ps)) ps.length).length (q4A ps.length (fl4 ps)))))⟩]⟩)))))))))))))) (.leaf .normal ⟨(.slice (some ⟨0, 0, none⟩) (ps.length) (ps.length) :: topV :: topV :: .int .i64 (IntKind.i64.wrap ((↑i : Int) + 1)) :: topV :: topV :: topV :: topV :: topV :: topV :: topV :: topV :: topV :: topV :: topV :: topV :: topV :: topV :: topV :: topV :: topV :: topV :: topV :: topV :: topV :: topV :: topV :: topV :: topV :: topV :: topV :: topV :: topV :: topV :: topV :: topV :: topV :: topV :: topV :: topV :: topV :: topV :: topV :: topV :: topV :: topV :: topV :: topV :: topV :: topV :: topV :: topV :: topV :: topV :: topV :: topV :: topV :: topV :: topV :: topV :: topV :: []), [some ⟨.row 52 4, .ints (fl4 ps)⟩]⟩)))))) (.leaf (.exit 0) ⟨(.slice (some ⟨0, 0, none⟩) (ps.length) (ps.length) :: topV :: topV :: topV :: topV :: topV :: topV :: topV :: topV :: topV :: topV :: topV :: topV :: topV :: topV :: topV :: topV :: topV :: topV :: topV :: topV :: topV :: topV :: topV :: topV :: topV :: topV :: topV :: topV :: topV :: topV :: topV :: topV :: topV :: topV :: topV :: topV :: topV :: topV :: topV :: topV :: topV :: topV :: topV :: topV :: topV :: topV :: topV :: topV :: topV :: topV :: topV :: topV :: topV :: topV :: topV :: topV :: topV :: topV :: topV :: topV :: []), [some ⟨.row 52 4, .ints (fl4 ps)⟩]⟩) := by kernel_rfl
def inv_dpO (ps : List Q4) : Nat → Prop := fun i => 1 ≤ i ∧ i ≤ ps.length ∧ ∀ j, 1 ≤ j → j < i → dupB ps j = false
def me_dpO (ps : List Q4) : Nat → Nat := fun i => ps.length - i
/-- A round of this loop. -/
def Round_dpO (ps : List Q4) : Prop := ∀ xx : Nat, inv_dpO ps xx → (bodyL Try.prog EDp 30 12 ltDp 1 c_dpO k_dpO 1 (s_dpO ps xx)).ok (RoundEnd 1 (s_dpO ps) (inv_dpO ps) (me_dpO ps) (re_dpO ps) (rs_dpO ps) xx) (fun _ _ => False)
def e_dpO (s : St) (k : Ex → St → Tree) : Option Tree := match Nat.beq s.tmps.length 61, pickL s.tmps [0, 3], s.mem with
  | true, [.slice (some ⟨0, 0, none⟩) n _, .int .i64 i], [some ⟨.row 52 4, .ints xs⟩] => some (needs [i = 1, xs.length = n * 4, 2 ≤ n, n ≤ 1000000000] (brT (allQ (fun j => !(dupB (q4A n xs) j)) 1 (n - 1)) (k (.exit 0) ⟨(.slice (some ⟨0, 0, none⟩) n n :: topV :: topV :: topV :: topV :: topV :: topV :: topV :: topV :: topV :: topV :: topV :: topV :: topV :: topV :: topV :: topV :: topV :: topV :: topV :: topV :: topV :: topV :: topV :: topV :: topV :: topV :: topV :: topV :: topV :: topV :: topV :: topV :: topV :: topV :: topV :: topV :: topV :: topV :: topV :: topV :: topV :: topV :: topV :: topV :: topV :: topV :: topV :: topV :: topV :: topV :: topV :: topV :: topV :: topV :: topV :: topV :: topV :: topV :: topV :: topV :: []), [some ⟨.row 52 4, .ints xs⟩]⟩) (k .ret ⟨(topV :: topV :: .slice (some ⟨0, 0, none⟩) (dmP (q4A n xs)).length (dmP (q4A n xs)).length :: topV :: topV :: topV :: topV :: topV :: topV :: topV :: topV :: topV :: topV :: topV :: topV :: topV :: topV :: topV :: topV :: topV :: topV :: topV :: topV :: topV :: topV :: topV :: topV :: topV :: topV :: topV :: topV :: topV :: topV :: topV :: topV :: topV :: topV :: topV :: topV :: topV :: topV :: topV :: topV :: topV :: topV :: topV :: topV :: topV :: topV :: topV :: topV :: topV :: topV :: topV :: topV :: topV :: topV :: topV :: topV :: topV :: topV :: []), [some ⟨.row 52 4, .ints (fl4 (dmP (q4A n xs)))⟩]⟩)))
  | _, _, _ => none
theorem bnd_someD (x d : Int) : bndI (some (IntKind.i64, x)) d = x := rfl
theorem bnd_noneD (d : Int) : bndI none d = d := rfl
set_option maxRecDepth 100000 in
theorem in_dpO : loopsOf c_dpO = [c_dpI] := by kernel_rfl
theorem ltDp_good : LoopsGood Try.prog ltDp 1 c_dpO := by
  intro i d hd s k t F H hlt ht
  rw [in_dpO] at hd
  cases i with
  | zero =>
    obtain rfl : c_dpI = d := by simpa using hd
    exact lg_dpI s k t F H hlt ht
  | succ i => simp at hd
set_option maxRecDepth 100000 in
theorem round_dpO (ps : List Q4) (h : ps.length ≤ 1000000000) : Round_dpO ps := by
  rintro i ⟨h1, h2, h3⟩
  rw [tr_dpO]
  simp only [q4A_fl4, bnd_someD, bnd_noneD, Int.toNat_natCast, Nat.zero_add, Nat.sub_zero]
  refine brT_ok.2 ⟨fun hlt => ?_, fun hge => ?_⟩
  · have hi : i < ps.length := by have := of_decide_eq_true hlt; omega
    have w1 : IntKind.i64.wrap ((i : Int) - 1) = ((i - 1 : Nat) : Int) := by rw [wr (by omega)]; omega
    have step : allQ (fun j => !(dupB ps j)) i (ps.length - i) = (!(dupB ps i) && allQ (fun j => !(dupB ps j)) (i + 1) (ps.length - (i + 1))) := allQ_step hi
    have hle := dmN_le ps ps.length
    have hX := dp_len hle
    simp only [w1, Int.toNat_natCast, fl4_get0, fl4_get1, fl4_g2, fl4_g3, fl4_length, dup_iq, hX, wsucc hi h]
    refine ⟨by omega, by omega, by omega, by omega, brT_ok.2 ⟨fun q => ?_, fun q => ?_⟩⟩
    · have hd : dupB ps i = true := by simpa [negB] using q
      have e : allQ (fun j => !(dupB ps j)) i (ps.length - i) = false := by rw [step, hd]; rfl
      have hf : List.take ((dmN ps ps.length).length * 4) (fl4 (dmN ps ps.length ++ List.drop (dmN ps ps.length).length ps)) = fl4 (dmP ps) := by
        rw [fl4_take, List.take_left]
        rfl
      rw [hf]
      refine ⟨by omega, by first | exact True.intro | rfl, by first | exact True.intro | rfl, by omega, by omega, by first | exact True.intro | rfl, by first | exact True.intro | rfl, hd, h3, h, by omega, by omega, by omega, ?_⟩
      refine ⟨by simp only [re_dpO, e, cond_false], [], ?_⟩
      simp only [rs_dpO, e, cond_false]
      repeat' (first | exact True.intro | exact rfl | exact fun _ => rfl | (simp; done) | refine And.intro ?_ ?_)
    · have hd : dupB ps i = false := by simpa [negB] using q
      have e : allQ (fun j => !(dupB ps j)) i (ps.length - i) = allQ (fun j => !(dupB ps j)) (i + 1) (ps.length - (i + 1)) := by rw [step, hd]; rfl
      refine ⟨i + 1, [], ⟨by omega, by omega, fun j g1 g2 => ?_⟩, ?_, by simp only [re_dpO, e], by simp only [rs_dpO, e], ?_⟩
      · rcases Nat.lt_or_ge j i with g | g
        · exact h3 j g1 g
        · obtain rfl : j = i := by omega
          exact hd
      · show ps.length - (i + 1) < ps.length - i; omega
      · repeat' (first | exact True.intro | exact rfl | exact fun _ => rfl | (simp; done) | refine And.intro ?_ ?_)
  · have hge := of_decide_eq_false hge
    obtain rfl : i = ps.length := by omega
    have e : allQ (fun j => !(dupB ps j)) ps.length (ps.length - ps.length) = true := allQ_end (by omega)
    refine ⟨by simp only [re_dpO, e, cond_true], [], ?_⟩
    simp only [rs_dpO, e, cond_true]
    repeat' (first | exact True.intro | exact rfl | exact fun _ => rfl | (simp; done) | refine And.intro ?_ ?_)
set_option maxRecDepth 100000 in
theorem lg_dpO : LoopE Try.prog e_dpO c_dpO := by
  intro s k t F H hlt ht
  unfold e_dpO at hlt
  split at hlt
  rotate_left
  · cases hlt
  rename_i hlen hpick hmem
  obtain ⟨tmps, mem⟩ := s
  simp only at hlen hpick hmem
  subst hmem
  obtain rfl := Option.some.inj hlt
  obtain ⟨⟨rfl, h1, h2, h5, _⟩, ht2⟩ := needs_ok ht
  clear ht hlt
  obtain ⟨ps, rfl, rfl⟩ := four_fl4 h1
  rw [q4A_fl4] at ht2
  refine ⟨_, _, pick2k ht2, loop_run mixed EDp_ok (s_dpO ps) (inv_dpO ps) (me_dpO ps) (re_dpO ps) (rs_dpO ps) k_dpO (fun _ => rfl) ltDp_good (round_dpO ps h5) (x := 1) ⟨Nat.le_refl _, by omega, fun j h1 h2 => by omega⟩ (π := []) rfl ?_⟩
  refine ⟨rfl, rfl, ?_, wvs_spread' [0, 3] hlen rfl ?_⟩
  · repeat' (first | exact True.intro | exact rfl | exact wv_top _ _ | exact fun _ => rfl | assumption | exact Eq.symm (by assumption) | exact vI0 rfl | refine And.intro ?_ ?_)
  · rw [hpick]
    repeat' (first | exact True.intro | exact rfl | exact wv_top _ _ | exact fun _ => rfl | assumption | exact Eq.symm (by assumption) | exact vI0 rfl | refine And.intro ?_ ?_)
theorem Lr_dpO {fn : Func} (hf : Try.prog.funcs[128]? = some fn) : LoopsGood Try.prog (lt1 e_dpO) 0 (codeOf fn) := by
  obtain rfl := fn_is Try.func128 hf
  exact lt1_good lg_dpO
def LDp : FuncId → LT := fun f => match f with
  | 128 => lt1 e_dpO
  | _ => noL
def EDq : Env := mkE B0 (fun _ _ => none) LDp
theorem EDq_ok : EnvOk Try.prog EDq := mkEOk B0_ok (fun _ _ _ _ _ h => (by cases h)) (by
  intro f fn hf
  unfold LDp
  split
  all_goals first | with_reducible exact Lr_dpO hf | exact noL_good)
set_option maxRecDepth 100000 in
theorem tr_dpF (ps : List Q4) : bodyM Try.prog EDq (runM Try.prog EDq 30 12) 30 128 [.slice (some ⟨0, 0, none⟩) ps.length ps.length] [some ⟨.row 52 4, .ints (fl4 ps)⟩] .fin = brT (decide ((↑ps.length : Int) < 2)) (.fin (.slice (some ⟨0, 0, none⟩) (ps.length) (ps.length)) [some ⟨.row 52 4, .ints (fl4 ps)⟩]) (.need ((1 : Int) = (1 : Int)) (.need ((fl4 ps).length = ps.length * (4 : Nat)) (.need ((2 : Nat) ≤ ps.length) (.need (ps.length ≤ (1000000000 : Nat)) (brT (allQ (fun j => !dupB (q4A ps.length (fl4 ps)) j) 1 (ps.length - 1)) (.fin (.slice (some ⟨0, 0, none⟩) (ps.length) (ps.length)) [some ⟨.row 52 4, .ints (fl4 ps)⟩]) (.fin (.slice (some ⟨0, 0, none⟩) ((dmP (q4A ps.length (fl4 ps))).length) ((dmP (q4A ps.length (fl4 ps))).length)) [some ⟨.row 52 4, .ints (fl4 (dmP (q4A ps.length (fl4 ps))))⟩])))))) := by kernel_rfl
theorem dpt_row (ps : List Q4) (h : ps.length ≤ 1000000000) : (bodyM Try.prog EDq (runM Try.prog EDq 30 12) 30 128 [.slice (some ⟨0, 0, none⟩) ps.length ps.length] [some ⟨.row 52 4, .ints (fl4 ps)⟩] .fin).ok (fun _ _ => False) (fun u mem' => RowIs (.slice (some ⟨0, 0, none⟩) (dmP ps).length (dmP ps).length) ⟨.row 52 4, .ints (fl4 (dmP ps))⟩ u mem') := by
  rw [tr_dpF]
  simp only [q4A_fl4]
  have same : (∀ j, 1 ≤ j → j < ps.length → dupB ps j = false) → dmP ps = ps := fun hn => by
    unfold dmP
    rw [dmN_take _ (Nat.le_refl _) hn, List.take_length]
  refine brT_ok.2 ⟨fun hlt => ?_, fun hge => ?_⟩
  · have hlt := of_decide_eq_true hlt
    rw [same fun j h1 h2 => by omega]
    exact ⟨some 0, ⟨rfl, rfl, rfl⟩, rfl, rfl, rfl⟩
  · have hge := of_decide_eq_false hge
    refine ⟨by first | exact True.intro | rfl, fl4_length ps, by omega, h, brT_ok.2 ⟨fun q => ?_, fun q => ?_⟩⟩
    · have q : allQ (fun j => !(dupB ps j)) 1 (ps.length - 1) = true := q
      rw [same fun j h1 h2 => by simpa using allQ_get _ _ q j h1 (by omega)]
      exact ⟨some 0, ⟨rfl, rfl, rfl⟩, rfl, rfl, rfl⟩
    · exact ⟨some 0, ⟨rfl, rfl, rfl⟩, rfl, rfl, rfl⟩
def dptS : OSpec := fun e sz l xs rest => match e, sz, rest with
  | 52, 4, [] => some (.slice (some ⟨0, 0, none⟩) (dmP (q4A l xs)).length (dmP (q4A l xs)).length, ⟨.row 52 4, .ints (fl4 (dmP (q4A l xs)))⟩, [xs.length = l * 4, l ≤ 1000000000])
  | _, _, _ => none
set_option maxRecDepth 100000 in
theorem dptS_ok : OSpecOk Try.prog 128 dptS := by
  intro e sz l xs rest v b C h hC
  unfold dptS at h
  split at h
  rotate_left
  · cases h
  obtain ⟨rfl, rfl, rfl⟩ : _ ∧ _ ∧ _ := by simpa using h
  obtain ⟨h1, h2, _⟩ := hC
  obtain ⟨ps, rfl, rfl⟩ := four_fl4 h1
  rw [q4A_fl4]
  exact ⟨rfl, EDq, 30, 12, EDq_ok, dpt_row ps h2⟩
end Go.Proofs.Ytolodncpegajkaa
namespace Go.Proofs.Ytolodncpegajkaa
set_option linter.all false
open Go.RowKit
theorem dmN_mem (ps : List Q4) (z : Q4) : ∀ m, m ≤ ps.length → (z ∈ dmN ps m ↔ ∃ j, j < m ∧ ps.getD j z4 = z)
  | 0, _ => by simp [dmN]
  | m + 1, h => by
    have ih := dmN_mem ps z m (by omega)
    simp only [dmN]
    split
    · rw [List.mem_append, ih, List.mem_singleton]
      constructor
      · rintro (⟨j, h1, h2⟩ | rfl)
        · exact ⟨j, by omega, h2⟩
        · exact ⟨m, by omega, rfl⟩
      · rintro ⟨j, h1, h2⟩
        rcases Nat.lt_or_ge j m with g | g
        · exact .inl ⟨j, g, h2⟩
        · obtain rfl : j = m := by omega
          exact .inr h2.symm
    · rename_i hc
      have h0 : ¬ m = 0 := fun e => hc (.inl e)
      have h1 : ps.getD m z4 = ps.getD (m - 1) z4 := Classical.byContradiction fun e => hc (.inr e)
      rw [ih]
      constructor
      · rintro ⟨j, g1, g2⟩
        exact ⟨j, by omega, g2⟩
      · rintro ⟨j, g1, g2⟩
        rcases Nat.lt_or_ge j m with g | g
        · exact ⟨j, g, g2⟩
        · obtain rfl : j = m := by omega
          exact ⟨j - 1, by omega, by rw [← h1]; exact g2⟩
theorem getD_mem4 {ps : List Q4} {j : Nat} (h : j < ps.length) : ps.getD j z4 ∈ ps := by
  simp [List.getD, h]
theorem dmN_up {ps : List Q4} (ho : ∀ q ∈ ps, okQ q = true) (hu : ∀ i j, i < j → j < ps.length → qLt (ps.getD j z4) (ps.getD i z4) = false) : ∀ m, m ≤ ps.length → (dmN ps m).Pairwise fun x y => qLt x y = true
  | 0, _ => List.Pairwise.nil
  | m + 1, h => by
    have ih := dmN_up ho hu m (by omega)
    simp only [dmN]
    split
    · rename_i hc
      refine List.pairwise_append.2 ⟨ih, List.pairwise_singleton _ _, fun x hx y hy => ?_⟩
      obtain rfl := List.mem_singleton.1 hy
      obtain ⟨j, h1, rfl⟩ := (dmN_mem ps x m (by omega)).1 hx
      have k1 := hu j m h1 (by omega)
      have hne : ps.getD m z4 ≠ ps.getD (m - 1) z4 := hc.resolve_left (by omega)
      rcases qLt_tri (ho _ (getD_mem4 (j := j) (by omega))) (ho _ (getD_mem4 (j := m) (by omega))) with g | g | g
      · exact g
      · exfalso
        have k2 := hu (m - 1) m (by omega) (by omega)
        rcases qLt_tri (ho _ (getD_mem4 (j := m - 1) (by omega))) (ho _ (getD_mem4 (j := m) (by omega))) with e | e | e
        · rcases Nat.lt_or_ge j (m - 1) with d | d
          · have k3 := hu j (m - 1) d (by omega)
            rw [g, e] at k3
            cases k3
          · obtain rfl : j = m - 1 := by omega
            exact hne g.symm
        · exact hne e.symm
        · rw [e] at k2
          cases k2
      · rw [g] at k1
        cases k1
    · exact ih
/-- Points with fractions in order, each once. -/
def stQ (qs : List Q4) : List Q4 := dmP (srtQ qs)
theorem stQ_mem (qs : List Q4) (z : Q4) : z ∈ stQ qs ↔ z ∈ qs := by
  unfold stQ dmP
  rw [dmN_mem _ _ _ (Nat.le_refl _), ← srtQ_mem qs z]
  constructor
  · rintro ⟨j, h1, rfl⟩
    exact getD_mem4 h1
  · intro h
    obtain ⟨j, h1, rfl⟩ := List.mem_iff_getElem.1 h
    exact ⟨j, h1, by simp [List.getD, h1]⟩
end Go.Proofs.Ytolodncpegajkaa
namespace Go.Proofs.Ytolodncpegajkaa
set_option linter.all false
open Go.Shelf
def sortRp_ren : Go.Shelf.Ren := ⟨fun | 6 => 126 | 15 => 156 | 14 => 155 | 28 => 176 | 29 => 177 | 20 => 168 | 21 => 169 | 22 => 170 | 23 => 171 | 24 => 172 | 25 => 173 | 26 => 174 | 27 => 175 | 46 => 178 | 47 => 179 | 48 => 180 | 49 => 181 | 50 => 182 | 57 => 183 | n => n, fun | 22 => 44 | 24 => 52 | 25 => 140 | 3 => 3 | 39 => 162 | 0 => 0 | 53 => 175 | 55 => 177 | 4 => 4 | 46 => 168 | 45 => 167 | 50 => 172 | 5 => 5 | 9 => 9 | 66 => 178 | 70 => 182 | 76 => 184 | 77 => 185 | n => n, fun | n => n⟩
theorem sortRp : Go.Proofs.SlLaysF0.n6 Try.prog sortRp_ren := {
  mixed := by kernel_rfl
  f6 := ⟨Try.f126.name, by decide, Try.func126.trans (congrArg some (by kernel_rfl))⟩
  f14 := ⟨Try.f155.name, by decide, Try.func155.trans (congrArg some (by kernel_rfl))⟩
  f15 := Try.func156.trans (congrArg some (by kernel_rfl))
  f20 := ⟨Try.f168.name, by decide, Try.func168.trans (congrArg some (by kernel_rfl))⟩
  f21 := ⟨Try.f169.name, by decide, Try.func169.trans (congrArg some (by kernel_rfl))⟩
  f22 := ⟨Try.f170.name, by decide, Try.func170.trans (congrArg some (by kernel_rfl))⟩
  f23 := ⟨Try.f171.name, by decide, Try.func171.trans (congrArg some (by kernel_rfl))⟩
  f24 := ⟨Try.f172.name, by decide, Try.func172.trans (congrArg some (by kernel_rfl))⟩
  f25 := ⟨Try.f173.name, by decide, Try.func173.trans (congrArg some (by kernel_rfl))⟩
  f26 := ⟨Try.f174.name, by decide, Try.func174.trans (congrArg some (by kernel_rfl))⟩
  f27 := ⟨Try.f175.name, by decide, Try.func175.trans (congrArg some (by kernel_rfl))⟩
  f28 := Try.func176.trans (congrArg some (by kernel_rfl))
  f29 := Try.func177.trans (congrArg some (by kernel_rfl))
  f46 := ⟨Try.f178.name, by decide, Try.func178.trans (congrArg some (by kernel_rfl))⟩
  f47 := Try.func179.trans (congrArg some (by kernel_rfl))
  f48 := Try.func180.trans (congrArg some (by kernel_rfl))
  f49 := ⟨Try.f181.name, by decide, Try.func181.trans (congrArg some (by kernel_rfl))⟩
  f50 := ⟨Try.f182.name, by decide, Try.func182.trans (congrArg some (by kernel_rfl))⟩
  f57 := ⟨Try.f183.name, by decide, Try.func183.trans (congrArg some (by kernel_rfl))⟩
  t0 := Try.underlying0
  a0 := Try.isAgg0
  z0 := Try.sizeOf0
  v0 := Try.zeroValue0
  t3 := Try.underlying3
  a3 := Try.isAgg3
  z3 := Try.sizeOf3
  v3 := Try.zeroValue3
  t4 := Try.underlying4
  a4 := Try.isAgg4
  z4 := Try.sizeOf4
  v4 := Try.zeroValue4
  t5 := Try.underlying5
  a5 := Try.isAgg5
  z5 := Try.sizeOf5
  v5 := Try.zeroValue5
  t9 := Try.underlying9
  a9 := Try.isAgg9
  z9 := Try.sizeOf9
  v9 := Try.zeroValue9
  t22 := Try.underlying44
  a22 := Try.isAgg44
  z22 := Try.sizeOf44
  v22 := Try.zeroValue44
  t25 := Try.underlying140
  a25 := Try.isAgg140
  z25 := Try.sizeOf140
  v25 := Try.zeroValue140
  t39 := Try.underlying162
  a39 := Try.isAgg162
  z39 := Try.sizeOf162
  v39 := Try.zeroValue162
  t45 := Try.underlying167
  a45 := Try.isAgg167
  z45 := Try.sizeOf167
  v45 := Try.zeroValue167
  t46 := Try.underlying168
  a46 := Try.isAgg168
  z46 := Try.sizeOf168
  v46 := Try.zeroValue168
  t50 := Try.underlying172
  a50 := Try.isAgg172
  z50 := Try.sizeOf172
  v50 := Try.zeroValue172
  t53 := Try.underlying175
  a53 := Try.isAgg175
  z53 := Try.sizeOf175
  v53 := Try.zeroValue175
  t55 := Try.underlying177
  a55 := Try.isAgg177
  z55 := Try.sizeOf177
  v55 := Try.zeroValue177
  t66 := Try.underlying178
  a66 := Try.isAgg178
  z66 := Try.sizeOf178
  v66 := Try.zeroValue178
  t70 := Try.underlying182
  a70 := Try.isAgg182
  z70 := Try.sizeOf182
  v70 := Try.zeroValue182
  t76 := Try.underlying184
  a76 := Try.isAgg184
  z76 := Try.sizeOf184
  v76 := Try.zeroValue184
  t77 := Try.underlying185
  a77 := Try.isAgg185
  z77 := Try.sizeOf185
  v77 := Try.zeroValue185 }
end Go.Proofs.Ytolodncpegajkaa
namespace Go.Proofs.Ytolodncpegajkaa
set_option linter.all false
open Go.RowKit Go.Sort Go.Lib
def encQ (p : Q4) : List Value := [.int .i64 p.1, .int .i64 p.2.1, .int .i64 p.2.2.1, .int .i64 p.2.2.2]
def encS (p : RP) : List Value := encQ p.1
theorem sort4_any (ps : List RP) (blk cap : Nat) (w : World) (hH : HoldsK encS 4 w blk 0 ps.toArray) (hblk : blk < w.heap.size) (hsz : ps.length < 4611686018427387904) :
    Calls Try.prog 126 #[.slice (some ⟨blk, 0, none⟩) ps.length cap, .func (.func 127) #[] #[]] w fun e w' => e = .returned (.tuple #[]) ∧ ∃ n os, w' = sortWorldK encS 4 w blk 0 n (ps.mergeSort fun x y => !(ltOf cfR) y x).toArray os := by
  have eg : ∀ args w, (callFunc 127 args).run Try.prog w = .ok (.enter 127 args) w := Go.Proofs.enters_of Try.func127 (by kernel_rfl) rfl
  have h := AnyQ.slices_SortFunc_total sortRp 4 Try.isAgg52 Try.sizeOf52 encS (fun _ => rfl) (fun x v hv => by simp [encS, encQ] at hv; rcases hv with rfl | rfl | rfl | rfl <;> rfl) cfR swoR 127 #[] blk 0 cap ps.toArray w eg (fun _ _ _ _ x y => (cmpRp_g _ (okQ_1 x.2).1 (okQ_1 x.2).2 (okQ_1 y.2).1 (okQ_1 y.2).2).mono fun e w' hh => ⟨hh.1, gb_grow hh.2⟩) hH hblk (by simpa using hsz) (fun x y h1 h2 => by
    rw [cfR_lt] at h1 h2
    rcases qLt_tri x.2 y.2 with h | h | h
    · rw [h] at h1; cases h1
    · exact Subtype.ext h
    · rw [h] at h2; cases h2)
  change Calls Try.prog 126 _ _ _ at h
  simpa using h
theorem sort4_none (p : Option Addr) (cap : Nat) (fv : Value) (w : World) :
    Calls Try.prog 126 #[.slice p 0 cap, fv] w fun e w' => e = .returned (.tuple #[]) ∧ w' = w := AnyF.slices_SortFunc_none sortRp p cap fv w
theorem flatK_fl4 (rs : List RP) : flatK encS 4 rs.toArray = ((fl4 (rs.map Subtype.val)).map (Value.int .i64)).toArray := by
  apply Array.ext
  · simp [fl4_length]
  · intro i h1 h2
    have h1' : i < rs.length * 4 := by simpa using h1
    have hq : i / 4 < rs.length := by omega
    have e := get_flatK encS 4 rs.toArray i (by simpa using h1')
    rw [getElem!_pos _ i h1] at e
    rw [e]
    have hg := fl4_get (rs.map Subtype.val) (i / 4)
    have hd : (rs.map Subtype.val).getD (i / 4) z4 = rs[i / 4].1 := by simp [List.getD, hq]
    rw [hd] at hg
    have hp : rs.toArray[i / 4]! = rs[i / 4] := by simp [hq]
    rw [hp]
    have hl : i < (fl4 (rs.map Subtype.val)).length := by rw [fl4_length, List.length_map]; exact h1'
    have hr : ((fl4 (rs.map Subtype.val)).map (Value.int .i64)).toArray[i] = .int .i64 ((fl4 (rs.map Subtype.val)).getD i 0) := by simp [List.getD, hl]
    rw [hr]
    have hm : i % 4 = 0 ∨ i % 4 = 1 ∨ i % 4 = 2 ∨ i % 4 = 3 := by omega
    rcases hm with h | h | h | h
    · rw [h, show (fl4 (rs.map Subtype.val)).getD i 0 = (fl4 (rs.map Subtype.val)).getD (i / 4 * 4) 0 by rw [show i / 4 * 4 = i by omega], hg.1]
      rfl
    · rw [h, show (fl4 (rs.map Subtype.val)).getD i 0 = (fl4 (rs.map Subtype.val)).getD (i / 4 * 4 + 1) 0 by rw [show i / 4 * 4 + 1 = i by omega], hg.2.1]
      rfl
    · rw [h, show (fl4 (rs.map Subtype.val)).getD i 0 = (fl4 (rs.map Subtype.val)).getD (i / 4 * 4 + 2) 0 by rw [show i / 4 * 4 + 2 = i by omega], hg.2.2.1]
      rfl
    · rw [h, show (fl4 (rs.map Subtype.val)).getD i 0 = (fl4 (rs.map Subtype.val)).getD (i / 4 * 4 + 3) 0 by rw [show i / 4 * 4 + 3 = i by omega], hg.2.2.2]
      rfl
def allV4 (l : Nat) (xs : List Int) : Prop := ∀ q ∈ q4A l xs, okQ q = true
def so4 (cf : FuncId) (args : List Value) : Rd Eff := match args with
  | [.slice (some ⟨nr, 0, none⟩) l _, .func (.func g) ⟨[]⟩ ⟨[]⟩] => .blk nr fun b => match b with
    | some ⟨.row e 4, .ints xs⟩ => (match Nat.beq g cf with
      | true => .ret ⟨.tuple #[], [(nr, ⟨.row e 4, .ints (fl4 (srtQ (q4A l xs)))⟩)], [xs.length = l * 4, l ≤ 1000000000, allV4 l xs]⟩
      | false => .fail)
    | _ => .fail
  | _ => .fail
theorem sw4_heap (w : World) (blk n : Nat) (d : Array RP) (os : Array Obj) : (sortWorldK encS 4 w blk 0 n d os).os = w.os ∧ (sortWorldK encS 4 w blk 0 n d os).tape = w.tape ∧ (sortWorldK encS 4 w blk 0 n d os).output = w.output ∧ w.heap.size ≤ (sortWorldK encS 4 w blk 0 n d os).heap.size ∧
    (∀ k, k < w.heap.size → k ≠ blk → (sortWorldK encS 4 w blk 0 n d os).heap[k]? = w.heap[k]?) ∧ ∀ cs e, w.heap[blk]? = some (.cells cs e (0, 0)) → (sortWorldK encS 4 w blk 0 n d os).heap[blk]? = some (.cells (putCells id 0 (flatK encS 4 d) cs) e (0, 0)) := by
  refine ⟨rfl, rfl, rfl, ?_, ?_, ?_⟩
  · simp [sortWorldK, grow, putRowK, putRow, mapBlock, ahead]
  · intro k hk hne
    simp [sortWorldK, grow, putRowK, putRow, mapBlock, ahead, Array.getElem?_append, hk]
    rw [Array.getElem_modify, if_neg (Ne.symm hne)]
  · intro cs e h
    have hk : blk < w.heap.size := (Array.getElem?_eq_some_iff.1 h).1
    have ha : (Sort.ahead w n).heap = w.heap := rfl
    simp only [sortWorldK, grow, putRowK, putRow, mapBlock, Array.getElem?_append, Array.size_modify, Array.getElem?_modify, ha, hk, if_true, h]
    rfl
theorem so4_sound {J : TabJ} (hJ : GSound Try.prog J.g) : GSound Try.prog (consJ 126 (fun _ => so4 127) J).g := by
  intro h name args s eff hr hn
  simp only [consJ] at hr
  split at hr
  rotate_left
  · exact hJ h name args s eff hr hn
  rename_i heq
  obtain rfl := Nat.eq_of_beq_eq_true heq
  refine ⟨(entersB_res (by kernel_rfl)).1, fun B ρ0 ρ w args' ha hm hB hcond => ?_⟩
  unfold so4 at hr
  split at hr
  rotate_left
  · simp [Rd.run] at hr
  rename_i nr l c g
  simp only [Rd.run] at hr
  split at hr
  rotate_left
  · simp [Rd.run] at hr
  rename_i e xs hb
  split at hr
  rotate_left
  · simp [Rd.run] at hr
  rename_i hg
  obtain rfl := Nat.eq_of_beq_eq_true hg
  obtain rfl : (⟨.tuple #[], [(nr, ⟨.row e 4, .ints (fl4 (srtQ (q4A l xs)))⟩)], [xs.length = l * 4, l ≤ 1000000000, allV4 l xs]⟩ : Eff) = eff := by simpa [Rd.run] using hr
  obtain ⟨hxl, hl, hv4, _⟩ := hcond
  obtain ⟨qs, rfl, rfl⟩ := four_fl4 hxl
  unfold allV4 at hv4
  rw [q4A_fl4] at hv4 ⊢
  obtain ⟨ps, rfl⟩ := sub_all hv4
  rw [← srtQ_sub]
  simp only [List.length_map] at hl
  obtain ⟨hsz, hval⟩ := ha
  obtain ⟨x0, x1, rfl⟩ : ∃ x0 x1, args' = #[x0, x1] := by
    have h2 : args'.size = 2 := by simpa using hsz.symm
    match args', h2 with
    | ⟨[x0, x1]⟩, _ => exact ⟨x0, x1, rfl⟩
  have v0 := hval 0 _ x0 rfl rfl
  have v1 := hval 1 _ x1 rfl rfl
  obtain rfl := v1.plain rfl
  rw [upd_one]
  rw [List.length_map] at v0
  have hok := hm.ok nr _ hb
  have none_ : ∀ ad c', ps = [] → x0 = .slice ad 0 c' → Calls Try.prog 126 #[x0, .func (.func 127) #[] #[]] w fun e' w' => ∃ v' ρ', e' = .returned v' ∧ Ext ρ ρ' ∧ VR ρ' (.tuple #[]) v' ∧ BelowK B w w' ∧ MemOk ρ0 ρ' B (setB s.blk nr ⟨.row e 4, .ints (fl4 ((ps.mergeSort fun x y => !(ltOf cfR) y x).map Subtype.val))⟩) w' := by
    rintro ad c' rfl rfl
    refine (sort4_none _ _ _ _).mono ?_
    rintro e' w' ⟨rfl, rfl⟩
    refine ⟨_, ρ, rfl, Ext.refl ρ, .lit rfl, BelowK.refl _ _, ?_⟩
    have e0 : (([] : List RP).mergeSort fun x y => !(ltOf cfR) y x) = [] := by simp
    rw [e0]
    rcases hok with ⟨p, k1, k2, k3⟩ | ⟨g, cap, k1, k2, cs', k3, k4, k5⟩
    · exact hm.setNil hb k1 ⟨k2, 0, k3⟩ (.inl ⟨p, k1, k2, k3⟩)
    · exact hm.set hb rfl k1 (okPl.not (.inl rfl)) (Nat.le_refl _) (fun k _ _ => rfl) (.inr ⟨g, cap, k1, k2, cs', k3, k4, k5⟩)
  rcases v0.slice_inv with ⟨g, f, cp, c', j1, jok, j2, j3, j4⟩ | ⟨hl0, _, ad, c', j2⟩ | ⟨hl0, ad, c', p, j2, _, _, _⟩
  rotate_left
  · exact none_ _ _ (List.eq_nil_of_length_eq_zero hl0) j2
  · exact none_ _ _ (List.eq_nil_of_length_eq_zero hl0) j2
  rcases hok with ⟨p, k1, k2, k3⟩ | ⟨g2, cap, k1, k2, cs', k3, k4, k5⟩
  · rw [k1] at j1
    obtain rfl : p = (g, f, cp) := by simpa using j1
    exact absurd ⟨k2, 0, k3⟩ jok.not
  rw [k1] at j1
  obtain ⟨rfl, rfl, rfl⟩ : g2 = g ∧ 0 = f ∧ some cap = cp := by simpa using j1
  subst j2
  have hfl : (fl4 (ps.map Subtype.val)).length = ps.length * 4 := by rw [fl4_length, List.length_map]
  have hcell : ∀ j, j < ps.length * 4 → cs'[j]? = some (.int .i64 ((fl4 (ps.map Subtype.val)).getD j 0)) := fun j hj => by
    have hjl : j < (fl4 (ps.map Subtype.val)).length := by rw [hfl]; exact hj
    obtain ⟨v', h6, h7⟩ := k5 j (.int .i64 ((fl4 (ps.map Subtype.val)).getD j 0)) (by show ((fl4 (ps.map Subtype.val)).map (Value.int .i64))[j]? = _; simp [List.getD, hjl])
    rw [h7.plain rfl] at h6
    exact h6
  have hH : HoldsK encS 4 w g2 0 ps.toArray := by
    intro j hj
    have hj' : j < ps.length * 4 := by simpa using hj
    have hjl : j < (fl4 (ps.map Subtype.val)).length := by rw [hfl]; exact hj'
    refine ⟨?_, ?_⟩
    · simp only [World.cell?, Nat.zero_add, k3, Option.isSome_none, Bool.false_eq_true, if_false, hcell j hj', flatK_fl4]
      simp [List.getD, hjl]
    · simp [World.frozen?, k3]
  have hg : g2 < w.heap.size := (Array.getElem?_eq_some_iff.1 k3).1
  refine (sort4_any ps g2 c' w hH hg (by omega)).mono ?_
  rintro e' w' ⟨rfl, n, os, rfl⟩
  have hln : (ps.mergeSort fun x y => !(ltOf cfR) y x).length = ps.length := List.length_mergeSort _
  generalize (ps.mergeSort fun x y => !(ltOf cfR) y x) = rs at *
  obtain ⟨s1, s2, s3, s4, s5, s6⟩ := sw4_heap w g2 n rs.toArray os
  have hrl : (fl4 (rs.map Subtype.val)).length = ps.length * 4 := by rw [fl4_length, List.length_map, hln]
  refine ⟨_, ρ, rfl, Ext.refl ρ, .lit rfl, ⟨s1, s2, s3, s4, fun k hk => s5 k (hB k hk) fun e => k2 (e ▸ hk)⟩, ?_⟩
  refine hm.set hb rfl k1 (okPl.not (.inl rfl)) s4 (fun k hk hne => s5 k hk hne) (.inr ⟨g2, cap, k1, k2, _, s6 cs' e k3, ?_, ?_⟩)
  · simpa [putCells] using k4
  · intro k v hk
    have hk' : ((fl4 (rs.map Subtype.val)).map (Value.int .i64))[k]? = some v := hk
    have hkl : k < ps.length * 4 := by
      have := (List.getElem?_eq_some_iff.1 hk').1
      rw [List.length_map, hrl] at this
      exact this
    have hkc : k < cs'.size := (Array.getElem?_eq_some_iff.1 (hcell k hkl)).1
    refine ⟨v, ?_, ?_⟩
    · rw [flatK_fl4]
      simp only [putCells, Array.getElem?_mapIdx, Array.getElem?_eq_getElem hkc, Option.map_some, Nat.zero_le, true_and, Nat.zero_add, List.size_toArray, List.length_map, hrl, hkl, if_true, Nat.sub_zero, id]
      rw [← hk']
      have hkl2 : k < (fl4 (rs.map Subtype.val)).length := by rw [hrl]; exact hkl
      simp [hkl2]
    · obtain ⟨y, _, rfl⟩ := List.mem_map.1 (List.mem_of_getElem? hk')
      exact .lit rfl
end Go.Proofs.Ytolodncpegajkaa
namespace Go.Proofs.Ytolodncpegajkaa
set_option linter.all false
open Go.RowKit
/-- Do the segments of a pair cross? -/
def cpQ (xs : List Int) (n t : Nat) : Bool := rl4V xs (prA n t).1 (prA n t).2 == 2
/-- Where two segments of the list cross. -/
def xpAt (xs : List Int) (i k : Nat) : Q4 := xpQ (xs.getD (i * 4) 0) (xs.getD (i * 4 + 1) 0) (xs.getD (i * 4 + 2) 0) (xs.getD (i * 4 + 3) 0) (xs.getD (k * 4) 0) (xs.getD (k * 4 + 1) 0) (xs.getD (k * 4 + 2) 0) (xs.getD (k * 4 + 3) 0)
/-- The points where segments cross, of so many pairs. -/
def cpL (xs : List Int) (n : Nat) : Nat → List Q4
  | 0 => []
  | t + 1 => bif cpQ xs n t then cpL xs n t ++ [xpAt xs (prA n t).1 (prA n t).2] else cpL xs n t
theorem cpL_len (xs : List Int) (n : Nat) : ∀ t, (cpL xs n t).length ≤ t
  | 0 => Nat.le_refl _
  | t + 1 => by
    have := cpL_len xs n t
    simp only [cpL]
    cases cpQ xs n t <;> simp <;> omega
theorem cp_yes {xs : List Int} {n i k : Nat} (hv : vsB n xs = true) (hi : i < n) (hk : k < n) (h : rl4V xs i k = 2) :
    ptB (xs.getD (i * 4) 0) (xs.getD (i * 4 + 1) 0) = true ∧ ptB (xs.getD (i * 4 + 2) 0) (xs.getD (i * 4 + 3) 0) = true ∧ ptB (xs.getD (k * 4) 0) (xs.getD (k * 4 + 1) 0) = true ∧ ptB (xs.getD (k * 4 + 2) 0) (xs.getD (k * 4 + 3) 0) = true ∧
    crossI (xs.getD (k * 4) 0) (xs.getD (k * 4 + 1) 0) (xs.getD (k * 4 + 2) 0) (xs.getD (k * 4 + 3) 0) (xs.getD (i * 4) 0) (xs.getD (i * 4 + 1) 0) ≠ crossI (xs.getD (k * 4) 0) (xs.getD (k * 4 + 1) 0) (xs.getD (k * 4 + 2) 0) (xs.getD (k * 4 + 3) 0) (xs.getD (i * 4 + 2) 0) (xs.getD (i * 4 + 3) 0) := by
  obtain ⟨p1, p2⟩ := slQ_pt (vs_seg hv hi)
  obtain ⟨p3, p4⟩ := slQ_pt (vs_seg hv hk)
  rw [rl4_A hv hi hk] at h
  exact ⟨p1, p2, p3, p4, dvB_ne2 (relA_2b h).2⟩
theorem xpAt_ok {xs : List Int} {n i k : Nat} (hv : vsB n xs = true) (hi : i < n) (hk : k < n) (h : rl4V xs i k = 2) : okQ (xpAt xs i k) = true := by
  obtain ⟨p1, p2, p3, p4, p5⟩ := cp_yes hv hi hk h
  exact xp_ok p1 p2 p3 p4 p5
def JSr : TabJ := consJ 126 (fun _ => so4 127) noJ
theorem JSr_ok : GSound Try.prog JSr.g := so4_sound (failG_sound _)
def JSs : TabJ := consR 128 (owG dptS) JSr
theorem JSs_ok : GSound Try.prog JSs.g := consO_ok mixed JSr_ok (entersB_res (by kernel_rfl)).1 dptS_ok
def ECp : Env := mkE TCq (fun _ _ => none) (fun _ => noL)
theorem ECp_ok : EnvOk Try.prog ECp := mkEOk TCq_ok (fun _ _ _ _ _ h => (by cases h)) (fun _ _ _ => noL_good)
noncomputable def gc_cpg : Code := (rangesOf (codeOf Try.f30)).getD 0 .skip
def k_cpg : Ex → List Nat := keeps [1, 3, 10] [] [2]
def s_cpg (xs : List Int) (n : Nat) : Nat → St := fun i => ⟨(topV :: .pointer (some ⟨1, 0, none⟩) :: topV :: .pointer (some ⟨2, 0, none⟩) :: topV :: topV :: topV :: topV :: topV :: topV :: .func (.func 113) #[] #[.pointer (some ⟨3, 0, none⟩)] :: topV :: topV :: topV :: topV :: topV :: topV :: topV :: topV :: topV :: topV :: topV :: topV :: topV :: topV :: topV :: topV :: topV :: topV :: topV :: topV :: []), [some ⟨.view, .ints xs⟩, some ⟨.box, .vals [.slice (some ⟨0, 0, none⟩) n n]⟩, some ⟨.box, .vals [.slice (some ⟨4, 0, none⟩) (cpL xs n i).length (cpL xs n i).length]⟩, some ⟨.view, .vals [.slice (some ⟨0, 0, none⟩) n n]⟩, some ⟨.row 52 4, .ints (fl4 (cpL xs n i))⟩]⟩
def g_cpg (xs : List Int) (n : Nat) : Nat → Prop := fun i => i ≤ offR n 0 n
def re_cpg (xs : List Int) (n : Nat) : Ex := .normal
def rs_cpg (xs : List Int) (n : Nat) : St := ⟨(topV :: topV :: topV :: .pointer (some ⟨2, 0, none⟩) :: topV :: topV :: topV :: topV :: topV :: topV :: topV :: topV :: topV :: topV :: topV :: topV :: topV :: topV :: topV :: topV :: topV :: topV :: topV :: topV :: topV :: topV :: topV :: topV :: topV :: topV :: topV :: []), [some ⟨.view, .ints xs⟩, some ⟨.box, .vals [.slice (some ⟨0, 0, none⟩) n n]⟩, some ⟨.box, .vals [.slice (some ⟨4, 0, none⟩) (cpL xs n (offR n 0 n)).length (cpL xs n (offR n 0 n)).length]⟩, some ⟨.view, .vals [.slice (some ⟨0, 0, none⟩) n n]⟩, some ⟨.row 52 4, .ints (fl4 (cpL xs n (offR n 0 n)))⟩]⟩
set_option maxRecDepth 100000 in
theorem tr_cpg (xs : List Int) (n : Nat) (i : Nat) : bodyR Try.prog ECp 30 12 noL noR (asgOf gc_cpg) (bodOf gc_cpg) ([11, 12].zip (encR xs n i)) k_cpg 16 (s_cpg xs n i) = brT (rl4V xs (prA n i).fst (prA n i).snd == 2) (.need (ptB (xs.getD ((0 : Nat) + (↑(prA n i).fst : Int).toNat * (4 : Nat)) (0 : Int)) (xs.getD ((0 : Nat) + (↑(prA n i).fst : Int).toNat * (4 : Nat) + (1 : Nat)) (0 : Int)) = true) (.need (ptB (xs.getD ((0 : Nat) + (↑(prA n i).fst : Int).toNat * (4 : Nat) + (1 : Nat) + (1 : Nat)) (0 : Int)) (xs.getD ((0 : Nat) + (↑(prA n i).fst : Int).toNat * (4 : Nat) + (1 : Nat) + (1 : Nat) + (1 : Nat)) (0 : Int)) = true) (.need (ptB (xs.getD ((0 : Nat) + (↑(prA n i).snd : Int).toNat * (4 : Nat)) (0 : Int)) (xs.getD ((0 : Nat) + (↑(prA n i).snd : Int).toNat * (4 : Nat) + (1 : Nat)) (0 : Int)) = true) (.need (ptB (xs.getD ((0 : Nat) + (↑(prA n i).snd : Int).toNat * (4 : Nat) + (1 : Nat) + (1 : Nat)) (0 : Int)) (xs.getD ((0 : Nat) + (↑(prA n i).snd : Int).toNat * (4 : Nat) + (1 : Nat) + (1 : Nat) + (1 : Nat)) (0 : Int)) = true) (.need (¬crossI (xs.getD ((0 : Nat) + (↑(prA n i).snd : Int).toNat * (4 : Nat)) (0 : Int)) (xs.getD ((0 : Nat) + (↑(prA n i).snd : Int).toNat * (4 : Nat) + (1 : Nat)) (0 : Int)) (xs.getD ((0 : Nat) + (↑(prA n i).snd : Int).toNat * (4 : Nat) + (1 : Nat) + (1 : Nat)) (0 : Int)) (xs.getD ((0 : Nat) + (↑(prA n i).snd : Int).toNat * (4 : Nat) + (1 : Nat) + (1 : Nat) + (1 : Nat)) (0 : Int)) (xs.getD ((0 : Nat) + (↑(prA n i).fst : Int).toNat * (4 : Nat)) (0 : Int)) (xs.getD ((0 : Nat) + (↑(prA n i).fst : Int).toNat * (4 : Nat) + (1 : Nat)) (0 : Int)) = crossI (xs.getD ((0 : Nat) + (↑(prA n i).snd : Int).toNat * (4 : Nat)) (0 : Int)) (xs.getD ((0 : Nat) + (↑(prA n i).snd : Int).toNat * (4 : Nat) + (1 : Nat)) (0 : Int)) (xs.getD ((0 : Nat) + (↑(prA n i).snd : Int).toNat * (4 : Nat) + (1 : Nat) + (1 : Nat)) (0 : Int)) (xs.getD ((0 : Nat) + (↑(prA n i).snd : Int).toNat * (4 : Nat) + (1 : Nat) + (1 : Nat) + (1 : Nat)) (0 : Int)) (xs.getD ((0 : Nat) + (↑(prA n i).fst : Int).toNat * (4 : Nat) + (1 : Nat) + (1 : Nat)) (0 : Int)) (xs.getD ((0 : Nat) + (↑(prA n i).fst : Int).toNat * (4 : Nat) + (1 : Nat) + (1 : Nat) + (1 : Nat)) (0 : Int))) (.need ((0 : Int) ≤ (↑(prA n i).fst : Int) ∧ (↑(prA n i).fst : Int) < (↑n : Int)) (.need ((0 : Nat) + (↑(prA n i).fst : Int).toNat * (4 : Nat) + (4 : Nat) ≤ xs.length) (.need ((0 : Int) ≤ (↑(prA n i).snd : Int) ∧ (↑(prA n i).snd : Int) < (↑n : Int)) (.need ((0 : Nat) + (↑(prA n i).snd : Int).toNat * (4 : Nat) + (4 : Nat) ≤ xs.length) (.need (((cpL xs n i).length + (1 : Nat)) * (32 : Nat) ≤ (140737488355328 : Nat) ∧ (cpL xs n i).length + (1 : Nat) ≤ (1000000 : Nat)) (.need ((0 : Nat) + (cpL xs n i).length * (4 : Nat) ≤ (fl4 (cpL xs n i)).length) (.leaf .normal ⟨(topV :: .pointer (some ⟨1, 0, none⟩) :: topV :: .pointer (some ⟨2, 0, none⟩) :: topV :: topV :: topV :: topV :: topV :: topV :: .func (Fn.func 113) #[] #[.pointer (some ⟨3, 0, none⟩)] :: topV :: topV :: topV :: topV :: topV :: topV :: topV :: topV :: topV :: topV :: topV :: topV :: topV :: topV :: topV :: topV :: topV :: topV :: topV :: topV :: []), [some ⟨.view, .ints (xs)⟩, some ⟨.box, .vals [.slice (some ⟨0, 0, none⟩) (n) (n)]⟩, some ⟨.box, .vals [.slice (some ⟨8, 0, none⟩) ((cpL xs n i).length + 1) ((cpL xs n i).length + 1)]⟩, some ⟨.view, .vals [.slice (some ⟨0, 0, none⟩) (n) (n)]⟩, some deadB, some ⟨.box, .vals [.int .i64 ((↑(prA n i).fst : Int)), .int .i64 ((↑(prA n i).snd : Int))]⟩, none, some ⟨.row 52 4, .vals [.int .i64 (xp1 (xs.getD (0 + (↑(prA n i).fst : Int).toNat * 4) 0) (xs.getD (0 + (↑(prA n i).fst : Int).toNat * 4 + 1) 0) (xs.getD (0 + (↑(prA n i).fst : Int).toNat * 4 + 1 + 1) 0) (xs.getD (0 + (↑(prA n i).fst : Int).toNat * 4 + 1 + 1 + 1) 0) (xs.getD (0 + (↑(prA n i).snd : Int).toNat * 4) 0) (xs.getD (0 + (↑(prA n i).snd : Int).toNat * 4 + 1) 0) (xs.getD (0 + (↑(prA n i).snd : Int).toNat * 4 + 1 + 1) 0) (xs.getD (0 + (↑(prA n i).snd : Int).toNat * 4 + 1 + 1 + 1) 0)), .int .i64 (xp2 (xs.getD (0 + (↑(prA n i).fst : Int).toNat * 4) 0) (xs.getD (0 + (↑(prA n i).fst : Int).toNat * 4 + 1) 0) (xs.getD (0 + (↑(prA n i).fst : Int).toNat * 4 + 1 + 1) 0) (xs.getD (0 + (↑(prA n i).fst : Int).toNat * 4 + 1 + 1 + 1) 0) (xs.getD (0 + (↑(prA n i).snd : Int).toNat * 4) 0) (xs.getD (0 + (↑(prA n i).snd : Int).toNat * 4 + 1) 0) (xs.getD (0 + (↑(prA n i).snd : Int).toNat * 4 + 1 + 1) 0) (xs.getD (0 + (↑(prA n i).snd : Int).toNat * 4 + 1 + 1 + 1) 0)), .int .i64 (xp3 (xs.getD (0 + (↑(prA n i).fst : Int).toNat * 4) 0) (xs.getD (0 + (↑(prA n i).fst : Int).toNat * 4 + 1) 0) (xs.getD (0 + (↑(prA n i).fst : Int).toNat * 4 + 1 + 1) 0) (xs.getD (0 + (↑(prA n i).fst : Int).toNat * 4 + 1 + 1 + 1) 0) (xs.getD (0 + (↑(prA n i).snd : Int).toNat * 4) 0) (xs.getD (0 + (↑(prA n i).snd : Int).toNat * 4 + 1) 0) (xs.getD (0 + (↑(prA n i).snd : Int).toNat * 4 + 1 + 1) 0) (xs.getD (0 + (↑(prA n i).snd : Int).toNat * 4 + 1 + 1 + 1) 0)), .int .i64 (xp4 (xs.getD (0 + (↑(prA n i).fst : Int).toNat * 4) 0) (xs.getD (0 + (↑(prA n i).fst : Int).toNat * 4 + 1) 0) (xs.getD (0 + (↑(prA n i).fst : Int).toNat * 4 + 1 + 1) 0) (xs.getD (0 + (↑(prA n i).fst : Int).toNat * 4 + 1 + 1 + 1) 0) (xs.getD (0 + (↑(prA n i).snd : Int).toNat * 4) 0) (xs.getD (0 + (↑(prA n i).snd : Int).toNat * 4 + 1) 0) (xs.getD (0 + (↑(prA n i).snd : Int).toNat * 4 + 1 + 1) 0) (xs.getD (0 + (↑(prA n i).snd : Int).toNat * 4 + 1 + 1 + 1) 0))]⟩, some ⟨.row 52 4, .ints (List.take ((cpL xs n i).length * 4) (List.drop 0 (fl4 (cpL xs n i))) ++ [xp1 (xs.getD (0 + (↑(prA n i).fst : Int).toNat * 4) 0) (xs.getD (0 + (↑(prA n i).fst : Int).toNat * 4 + 1) 0) (xs.getD (0 + (↑(prA n i).fst : Int).toNat * 4 + 1 + 1) 0) (xs.getD (0 + (↑(prA n i).fst : Int).toNat * 4 + 1 + 1 + 1) 0) (xs.getD (0 + (↑(prA n i).snd : Int).toNat * 4) 0) (xs.getD (0 + (↑(prA n i).snd : Int).toNat * 4 + 1) 0) (xs.getD (0 + (↑(prA n i).snd : Int).toNat * 4 + 1 + 1) 0) (xs.getD (0 + (↑(prA n i).snd : Int).toNat * 4 + 1 + 1 + 1) 0), xp2 (xs.getD (0 + (↑(prA n i).fst : Int).toNat * 4) 0) (xs.getD (0 + (↑(prA n i).fst : Int).toNat * 4 + 1) 0) (xs.getD (0 + (↑(prA n i).fst : Int).toNat * 4 + 1 + 1) 0) (xs.getD (0 + (↑(prA n i).fst : Int).toNat * 4 + 1 + 1 + 1) 0) (xs.getD (0 + (↑(prA n i).snd : Int).toNat * 4) 0) (xs.getD (0 + (↑(prA n i).snd : Int).toNat * 4 + 1) 0) (xs.getD (0 + (↑(prA n i).snd : Int).toNat * 4 + 1 + 1) 0) (xs.getD (0 + (↑(prA n i).snd : Int).toNat * 4 + 1 + 1 + 1) 0), xp3 (xs.getD (0 + (↑(prA n i).fst : Int).toNat * 4) 0) (xs.getD (0 + (↑(prA n i).fst : Int).toNat * 4 + 1) 0) (xs.getD (0 + (↑(prA n i).fst : Int).toNat * 4 + 1 + 1) 0) (xs.getD (0 + (↑(prA n i).fst : Int).toNat * 4 + 1 + 1 + 1) 0) (xs.getD (0 + (↑(prA n i).snd : Int).toNat * 4) 0) (xs.getD (0 + (↑(prA n i).snd : Int).toNat * 4 + 1) 0) (xs.getD (0 + (↑(prA n i).snd : Int).toNat * 4 + 1 + 1) 0) (xs.getD (0 + (↑(prA n i).snd : Int).toNat * 4 + 1 + 1 + 1) 0), xp4 (xs.getD (0 + (↑(prA n i).fst : Int).toNat * 4) 0) (xs.getD (0 + (↑(prA n i).fst : Int).toNat * 4 + 1) 0) (xs.getD (0 + (↑(prA n i).fst : Int).toNat * 4 + 1 + 1) 0) (xs.getD (0 + (↑(prA n i).fst : Int).toNat * 4 + 1 + 1 + 1) 0) (xs.getD (0 + (↑(prA n i).snd : Int).toNat * 4) 0) (xs.getD (0 + (↑(prA n i).snd : Int).toNat * 4 + 1) 0) (xs.getD (0 + (↑(prA n i).snd : Int).toNat * 4 + 1 + 1) 0) (xs.getD (0 + (↑(prA n i).snd : Int).toNat * 4 + 1 + 1 + 1) 0)])⟩]⟩)))))))))))) (.leaf .normal ⟨(topV :: .pointer (some ⟨1, 0, none⟩) :: topV :: .pointer (some ⟨2, 0, none⟩) :: topV :: topV :: topV :: topV :: topV :: topV :: .func (Fn.func 113) #[] #[.pointer (some ⟨3, 0, none⟩)] :: topV :: topV :: topV :: topV :: topV :: topV :: topV :: topV :: topV :: topV :: topV :: topV :: topV :: topV :: topV :: topV :: topV :: topV :: topV :: topV :: []), [some ⟨.view, .ints (xs)⟩, some ⟨.box, .vals [.slice (some ⟨0, 0, none⟩) (n) (n)]⟩, some ⟨.box, .vals [.slice (some ⟨4, 0, none⟩) ((cpL xs n i).length) ((cpL xs n i).length)]⟩, some ⟨.view, .vals [.slice (some ⟨0, 0, none⟩) (n) (n)]⟩, some ⟨.row 52 4, .ints (fl4 (cpL xs n i))⟩, some ⟨.box, .vals [.int .i64 ((↑(prA n i).fst : Int)), .int .i64 ((↑(prA n i).snd : Int))]⟩]⟩) := by kernel_rfl
/-- A round of this loop. -/
def Round_cpg (xs : List Int) (n : Nat) : Prop := ∀ i : Nat, g_cpg xs n i → i < offR n 0 n → (bodyR Try.prog ECp 30 12 noL noR (asgOf gc_cpg) (bodOf gc_cpg) ([11, 12].zip (encR xs n i)) k_cpg 16 (s_cpg xs n i)).ok (RoundEndR 4 (s_cpg xs n) (g_cpg xs n) (re_cpg xs n) (rs_cpg xs n) i) (fun _ _ => False)
set_option maxRecDepth 100000 in
theorem gcode_cpg : gc_cpg = .rangeFunc (.tmp 10) ([11, 12] : List Nat).toArray (asgOf gc_cpg) (bodOf gc_cpg) := by kernel_rfl
def e_cpg (s : St) (k : Ex → St → Tree) : Option Tree := match Nat.beq s.tmps.length 31, pickL s.tmps [1, 3, 10], s.mem with
  | true, [.pointer (some ⟨1, 0, none⟩), .pointer (some ⟨2, 0, none⟩), .func (.func 113) ⟨[]⟩ ⟨[.pointer (some ⟨3, 0, none⟩)]⟩], [some ⟨.view, .ints xs⟩, some ⟨.box, .vals [.slice (some ⟨0, 0, none⟩) n1 _]⟩, some ⟨.box, .vals [.slice none 0 0]⟩, some ⟨.box, .vals [.slice (some ⟨0, 0, none⟩) n _]⟩] => some (needs [n1 = n, xs.length = n * 4, n ≤ 12, vsB n xs = true] (k .normal ⟨(topV :: topV :: topV :: .pointer (some ⟨2, 0, none⟩) :: topV :: topV :: topV :: topV :: topV :: topV :: topV :: topV :: topV :: topV :: topV :: topV :: topV :: topV :: topV :: topV :: topV :: topV :: topV :: topV :: topV :: topV :: topV :: topV :: topV :: topV :: topV :: []), [some ⟨.view, .ints xs⟩, some ⟨.box, .vals [.slice (some ⟨0, 0, none⟩) n n]⟩, some ⟨.box, .vals [.slice (some ⟨4, 0, none⟩) (cpL xs n (offR n 0 n)).length (cpL xs n (offR n 0 n)).length]⟩, some ⟨.view, .vals [.slice (some ⟨0, 0, none⟩) n n]⟩, some ⟨.row 52 4, .ints (fl4 (cpL xs n (offR n 0 n)))⟩]⟩))
  | _, _, _ => none
theorem fl4B (o : List Q4) : List.take (o.length * 4) (List.drop 0 (fl4 o)) = fl4 o := by rw [List.drop_zero, fl4_all]
set_option maxRecDepth 100000 in
set_option maxHeartbeats 2000000 in
theorem round_cpg (xs : List Int) (n : Nat) (hx : xs.length = n * 4) (h : n ≤ 12) (hv : vsB n xs = true) : Round_cpg xs n := by
  intro i hg hi
  rw [tr_cpg]
  have hg : i ≤ offR n 0 n := hg
  obtain ⟨l1, l2⟩ := prA_lt2 hi
  have hl := cpL_len xs n i
  have hb := offR_le n n 0
  have hnn : n * n ≤ 12 * 12 := Nat.mul_le_mul h h
  have fl := fl4_length (cpL xs n i)
  simp only [Int.toNat_natCast, Nat.zero_add, fl4B]
  refine brT_ok.2 ⟨fun c => ?_, fun c => ?_⟩
  · obtain ⟨p1, p2, p3, p4, p5⟩ := cp_yes hv l1 l2 (beq_iff_eq.1 c)
    have e : cpL xs n (i + 1) = cpL xs n i ++ [xpAt xs (prA n i).1 (prA n i).2] := by
      have c : cpQ xs n i = true := c
      simp only [cpL, c, cond_true]
    refine ⟨p1, p2, p3, p4, p5, by omega, by omega, by omega, by omega, by omega, by omega, ?_, [some 8], ?_⟩
    · show i + 1 ≤ offR n 0 n; omega
    · unfold s_cpg
      rw [e, fl4_append]
      refine ⟨rfl, rfl, ?_, ?_⟩ <;> repeat' (first | exact True.intro | exact rfl | exact wv_top _ _ | exact fun _ => rfl | (simp; done) | refine And.intro ?_ ?_)
  · have e : cpL xs n (i + 1) = cpL xs n i := by
      have c : cpQ xs n i = false := c
      simp only [cpL, c, cond_false]
    refine ⟨?_, [some 4], ?_⟩
    · show i + 1 ≤ offR n 0 n; omega
    · unfold s_cpg
      rw [e]
      refine ⟨rfl, rfl, ?_, ?_⟩ <;> repeat' (first | exact True.intro | exact rfl | exact wv_top _ _ | exact fun _ => rfl | (simp; done) | refine And.intro ?_ ?_)
set_option maxRecDepth 100000 in
theorem lg_cpg : RangeE Try.prog e_cpg gc_cpg := by
  intro s k t F H hlt ht
  unfold e_cpg at hlt
  split at hlt
  rotate_left
  · cases hlt
  rename_i hlen hpick hmem
  obtain ⟨tmps, mem⟩ := s
  simp only at hlen hpick hmem
  subst hmem
  obtain rfl := Option.some.inj hlt
  obtain ⟨⟨rfl, h1, h3, h4, _⟩, ht2⟩ := needs_ok ht
  clear ht hlt
  rename_i xs n c1 c2 rr
  refine ⟨re_cpg xs n, rs_cpg xs n, ht2, ?_⟩
  rw [gcode_cpg]
  refine range_detP (enc := encR xs n) (len := offR n 0 n) (St_of := s_cpg xs n) (Good := g_cpg xs n) (N := 4) (M := 16) (Kn := [0, 3]) (cap := [.pointer (some ⟨3, 0, none⟩)]) (kf := (k_cpg .normal)) (π := [none]) (fun _ => rfl) (fun _ => rfl) (fun i hg hlt => bodyR_ok mixed ECp_ok (noL_good) (noR_good) (round_cpg xs n h1 h3 h4 i hg hlt)) (entersB_res (by kernel_rfl)).1 rfl ?_ (fun ρ0 ρ B w lb g1 g2 => rl_iter xs n h1 (by omega) (s := (s_cpg xs n 0).fs) (nb := 3) (nr := 0) (c := n) (Kn := [0, 3]) rfl rfl (by decide) (by decide) ρ0 ρ B w lb g1 g2) ?_ rfl (by decide) ?_ (Nat.zero_le _)
  · intro n hn b hb
    simp only [List.mem_cons, List.not_mem_nil, or_false] at hn
    rcases hn with rfl | rfl <;> (obtain rfl := Option.some.inj hb; rfl)
  · exact fun _ => ⟨rfl, [some 4], by refine ⟨rfl, rfl, ?_, ?_⟩ <;> repeat' (first | exact True.intro | exact rfl | exact wv_top _ _ | exact fun _ => rfl | (simp; done) | refine And.intro ?_ ?_)⟩
  · refine ⟨rfl, rfl, ?_, wvs_spread' [1, 3, 10] hlen rfl ?_⟩
    · repeat' (first | exact True.intro | exact rfl | exact wv_top _ _ | exact fun _ => rfl | assumption | exact Eq.symm (by assumption) | exact vI0 rfl | refine And.intro ?_ ?_)
    · rw [show pickL (viewS [0, 3] ⟨tmps, _⟩).tmps [1, 3, 10] = pickL tmps [1, 3, 10] from rfl, hpick]
      repeat' (first | exact True.intro | exact rfl | exact wv_top _ _ | exact fun _ => rfl | assumption | exact Eq.symm (by assumption) | exact vI0 rfl | refine And.intro ?_ ?_)
end Go.Proofs.Ytolodncpegajkaa
namespace Go.Proofs.Ytolodncpegajkaa
set_option linter.all false
open Go.RowKit
/-- The place of a point among others in order. -/
def kQ (p : Q4) : List Q4 → Nat
  | [] => 0
  | q :: r => if qLt q p then kQ p r + 1 else 0
/-- A point put in its place, unless it is there. -/
def inQ (p : Q4) : List Q4 → List Q4
  | [] => [p]
  | q :: r => if qLt q p then q :: inQ p r else if q = p then q :: r else p :: q :: r
theorem kQ_le (p : Q4) : ∀ ps : List Q4, kQ p ps ≤ ps.length
  | [] => Nat.le_refl _
  | q :: r => by
    have := kQ_le p r
    simp only [kQ, List.length_cons]
    split <;> omega
theorem inQ_is (p : Q4) : ∀ ps : List Q4, inQ p ps = if kQ p ps < ps.length ∧ ps.getD (kQ p ps) z4 = p then ps else ps.take (kQ p ps) ++ (p :: ps.drop (kQ p ps))
  | [] => by simp [inQ, kQ]
  | q :: r => by
    have ih := inQ_is p r
    simp only [inQ, kQ]
    split
    · rw [ih]
      simp only [List.length_cons, Nat.add_lt_add_iff_right, List.getD_cons_succ, List.take_succ_cons, List.drop_succ_cons, List.cons_append]
      split <;> rfl
    · simp
theorem inQ_mem (p : Q4) : ∀ (ps : List Q4) (z : Q4), z ∈ inQ p ps ↔ z ∈ ps ∨ z = p
  | [], z => by simp [inQ]
  | q :: r, z => by
    have ih := inQ_mem p r z
    simp only [inQ]
    split
    · simp only [List.mem_cons, ih]
      constructor
      · rintro (h | h | h) <;> simp [h]
      · rintro ((h | h) | h) <;> simp [h]
    · split
      · rename_i h1 h2
        subst h2
        simp only [List.mem_cons]
        constructor
        · intro h; exact .inl h
        · rintro (h | h)
          · exact h
          · exact .inl h
      · simp only [List.mem_cons]
        constructor
        · rintro (h | h | h) <;> simp [h]
        · rintro ((h | h) | h) <;> simp [h]
def pCm4 : List DArg → Option (Value × List Prop)
  | [.v (.agg ⟨[.int .i64 a, .int .i64 b]⟩), .v (.agg ⟨[.int .i64 c, .int .i64 d]⟩)] => some (iv (sgn (a * d - c * b)), [ratB a b = true, ratB c d = true])
  | _ => none
theorem pCm4_ok {ds : List DArg} {v : Value} {C : List Prop} (h : pCm4 ds = some (v, C)) (hC : AllP C) : Res Try.prog 159 ds v := by
  unfold pCm4 at h
  split at h
  · obtain ⟨rfl, rfl⟩ : _ ∧ _ := by simpa using h
    have h1 := hC.1
    have h2 := hC.2.1
    exact res_calls (by kernel_rfl) rfl rfl fun w => specCompare_any _ _ _ _ w h1 h2
  · cases h
def TCm4 : Tab := fun f ds => match f with
  | 159 => pCm4 ds
  | f => TCq f ds
theorem TCm4_ok : TabOk Try.prog TCm4 := by
  intro f ds v C h hC
  unfold TCm4 at h
  (try split at h)
  all_goals first | with_reducible exact pCm4_ok h hC | exact TCq_ok _ _ _ _ h hC
def ECm4 : Env := tabE TCm4
theorem ECm4_ok : EnvOk Try.prog ECm4 := tabE_ok TCm4_ok
set_option maxRecDepth 100000 in
theorem tr_rpl (a b c d e f g h : Int) : bodyV Try.prog ECm4 30 12 129 [.v (.agg #[iv a, iv b, iv c, iv d]), .v (.agg #[iv e, iv f, iv g, iv h])] = .need (ratB a b = true) (.need (ratB e f = true) (brT (decide (sgn (a * f - e * b) < 0)) (.fin (.bool (true)) []) (brT (sgn (a * f - e * b) == 0) (.need (ratB c d = true) (.need (ratB g h = true) (.fin (.bool (decide (sgn (c * h - g * d) < 0))) []))) (.fin (.bool (false)) [])))) := by kernel_rfl
theorem res_rpl {a b c d e f g h : Int} (h1 : okQ (a, b, c, d) = true) (h2 : okQ (e, f, g, h) = true) : Res Try.prog 129 [.v (.agg #[iv a, iv b, iv c, iv d]), .v (.agg #[iv e, iv f, iv g, iv h])] (.bool (qLt (a, b, c, d) (e, f, g, h))) := by
  refine bodyV_res mixed ECm4_ok (m := 30) (n := 12) rfl ?_
  rw [tr_rpl]
  obtain ⟨k1, k2⟩ := okQ_1 h1
  obtain ⟨k3, k4⟩ := okQ_1 h2
  have hs : ∀ x : Int, sgn x = 1 ∨ sgn x = 0 ∨ sgn x = -1 := fun x => by unfold sgn; split <;> (try split) <;> simp
  unfold qLt cmQ cmpRQ orI
  simp only at k1 k2 k3 k4 ⊢
  generalize sgn (a * f - e * b) = A at *
  generalize sgn (c * h - g * d) = B at *
  refine ⟨k1, k3, brT_ok.2 ⟨fun q => ?_, fun q => brT_ok.2 ⟨fun q2 => ⟨k2, k4, ?_⟩, fun q2 => ?_⟩⟩⟩
  · have q := of_decide_eq_true q
    show Value.bool _ = Value.bool _
    rw [if_neg (by omega), decide_eq_true q]
  · show Value.bool _ = Value.bool _
    rw [if_pos (beq_iff_eq.1 q2)]
  · have q := of_decide_eq_false q
    have q2 := beq_eq_false_iff_ne.1 q2
    show Value.bool _ = Value.bool _
    rw [if_neg q2, decide_eq_false q]
/-- The order, and what is valid, of numbers. -/
def rpB (a b c d e f g h : Int) : Bool := qLt (a, b, c, d) (e, f, g, h)
def okB (a b c d : Int) : Bool := okQ (a, b, c, d)
def pRpl : List DArg → Option (Value × List Prop)
  | [.v (.agg ⟨[.int .i64 a, .int .i64 b, .int .i64 c, .int .i64 d]⟩), .v (.agg ⟨[.int .i64 e, .int .i64 f, .int .i64 g, .int .i64 h]⟩)] => some (.bool (rpB a b c d e f g h), [okB a b c d = true, okB e f g h = true])
  | _ => none
theorem pRpl_ok {ds : List DArg} {v : Value} {C : List Prop} (h : pRpl ds = some (v, C)) (hC : AllP C) : Res Try.prog 129 ds v := by
  unfold pRpl at h
  split at h
  · obtain ⟨rfl, rfl⟩ : _ ∧ _ := by simpa using h
    exact res_rpl hC.1 hC.2.1
  · cases h
def TAl : Tab := fun f ds => match f with
  | 129 => pRpl ds
  | f => TCq f ds
theorem TAl_ok : TabOk Try.prog TAl := by
  intro f ds v C h hC
  unfold TAl at h
  (try split at h)
  all_goals first | with_reducible exact pRpl_ok h hC | exact TCq_ok _ _ _ _ h hC
def EAl : Env := tabE TAl
theorem EAl_ok : EnvOk Try.prog EAl := tabE_ok TAl_ok
/-- The place among the first cells. -/
def kZ (x y u v : Int) (n : Nat) (xs : List Int) : Nat := 0 + kQ (x, y, u, v) ((q4A n xs).drop 0)
theorem kZ_is (x y u v : Int) (ps : List Q4) : kZ x y u v ps.length (fl4 ps) = kQ (x, y, u, v) ps := by
  unfold kZ
  rw [q4A_fl4, List.drop_zero, Nat.zero_add]
noncomputable def c_adq : Code := ((loopsOf (codeOf Try.f81))[0]?).getD .skip
def k_adq : Ex → List Nat := keeps [0, 3, 5] [(0, [0, 3, 5])] [4]
def s_adq (ps : List Q4) (p : Q4) : Nat → St := fun i => ⟨(.slice (some ⟨0, 0, none⟩) ps.length ps.length :: topV :: topV :: .pointer (some ⟨1, 0, none⟩) :: topV :: .int .i64 i :: topV :: topV :: topV :: topV :: topV :: topV :: topV :: topV :: topV :: topV :: topV :: topV :: topV :: topV :: topV :: topV :: topV :: topV :: topV :: topV :: topV :: topV :: topV :: topV :: topV :: topV :: topV :: topV :: topV :: topV :: topV :: topV :: topV :: topV :: topV :: topV :: topV :: topV :: topV :: topV :: topV :: topV :: []), [some ⟨.row 52 4, .ints (fl4 ps)⟩, some ⟨.box, .vals [.int .i64 p.1, .int .i64 p.2.1, .int .i64 p.2.2.1, .int .i64 p.2.2.2]⟩]⟩
def re_adq : Nat → Ex := fun _ => .exit 0
def rs_adq (ps : List Q4) (p : Q4) : Nat → St := fun i => ⟨(.slice (some ⟨0, 0, none⟩) ps.length ps.length :: topV :: topV :: .pointer (some ⟨1, 0, none⟩) :: topV :: .int .i64 ((i + kQ p (ps.drop i) : Nat) : Int) :: topV :: topV :: topV :: topV :: topV :: topV :: topV :: topV :: topV :: topV :: topV :: topV :: topV :: topV :: topV :: topV :: topV :: topV :: topV :: topV :: topV :: topV :: topV :: topV :: topV :: topV :: topV :: topV :: topV :: topV :: topV :: topV :: topV :: topV :: topV :: topV :: topV :: topV :: topV :: topV :: topV :: topV :: []), [some ⟨.row 52 4, .ints (fl4 ps)⟩, some ⟨.box, .vals [.int .i64 p.1, .int .i64 p.2.1, .int .i64 p.2.2.1, .int .i64 p.2.2.2]⟩]⟩
set_option maxRecDepth 100000 in
theorem tr_adq (ps : List Q4) (p : Q4) (i : Nat) : bodyL Try.prog EAl 30 12 noL 1 c_adq k_adq 2 (s_adq ps p i) = brT (decide ((↑i : Int) < (↑ps.length : Int))) (.need (okB ((fl4 ps).getD ((0 : Nat) + (↑i : Int).toNat * (4 : Nat)) (0 : Int)) ((fl4 ps).getD ((0 : Nat) + (↑i : Int).toNat * (4 : Nat) + (1 : Nat)) (0 : Int)) ((fl4 ps).getD ((0 : Nat) + (↑i : Int).toNat * (4 : Nat) + (1 : Nat) + (1 : Nat)) (0 : Int)) ((fl4 ps).getD ((0 : Nat) + (↑i : Int).toNat * (4 : Nat) + (1 : Nat) + (1 : Nat) + (1 : Nat)) (0 : Int)) = true) (.need (okB p.1 p.snd.1 p.snd.snd.1 p.snd.snd.2 = true) (.need ((0 : Int) ≤ (↑i : Int) ∧ (↑i : Int) < (↑ps.length : Int)) (.need ((0 : Nat) + (↑i : Int).toNat * (4 : Nat) + (4 : Nat) ≤ (fl4 ps).length) (brT (rpB ((fl4 ps).getD (0 + (↑i : Int).toNat * 4) 0) ((fl4 ps).getD (0 + (↑i : Int).toNat * 4 + 1) 0) ((fl4 ps).getD (0 + (↑i : Int).toNat * 4 + 1 + 1) 0) ((fl4 ps).getD (0 + (↑i : Int).toNat * 4 + 1 + 1 + 1) 0) p.1 p.snd.1 p.snd.snd.1 p.snd.snd.2) (.leaf .normal ⟨(.slice (some ⟨0, 0, none⟩) (ps.length) (ps.length) :: topV :: topV :: .pointer (some ⟨1, 0, none⟩) :: topV :: .int .i64 (IntKind.i64.wrap ((↑i : Int) + 1)) :: topV :: topV :: topV :: topV :: topV :: topV :: topV :: topV :: topV :: topV :: topV :: topV :: topV :: topV :: topV :: topV :: topV :: topV :: topV :: topV :: topV :: topV :: topV :: topV :: topV :: topV :: topV :: topV :: topV :: topV :: topV :: topV :: topV :: topV :: topV :: topV :: topV :: topV :: topV :: topV :: topV :: topV :: []), [some ⟨.row 52 4, .ints (fl4 ps)⟩, some ⟨.box, .vals [.int .i64 (p.1), .int .i64 (p.snd.1), .int .i64 (p.snd.snd.1), .int .i64 (p.snd.snd.2)]⟩]⟩) (.leaf (.exit 0) ⟨(.slice (some ⟨0, 0, none⟩) (ps.length) (ps.length) :: topV :: topV :: .pointer (some ⟨1, 0, none⟩) :: topV :: .int .i64 ((↑i : Int)) :: topV :: topV :: topV :: topV :: topV :: topV :: topV :: topV :: topV :: topV :: topV :: topV :: topV :: topV :: topV :: topV :: topV :: topV :: topV :: topV :: topV :: topV :: topV :: topV :: topV :: topV :: topV :: topV :: topV :: topV :: topV :: topV :: topV :: topV :: topV :: topV :: topV :: topV :: topV :: topV :: topV :: topV :: []), [some ⟨.row 52 4, .ints (fl4 ps)⟩, some ⟨.box, .vals [.int .i64 (p.1), .int .i64 (p.snd.1), .int .i64 (p.snd.snd.1), .int .i64 (p.snd.snd.2)]⟩]⟩)))))) (.leaf (.exit 0) ⟨(.slice (some ⟨0, 0, none⟩) (ps.length) (ps.length) :: topV :: topV :: .pointer (some ⟨1, 0, none⟩) :: topV :: .int .i64 ((↑i : Int)) :: topV :: topV :: topV :: topV :: topV :: topV :: topV :: topV :: topV :: topV :: topV :: topV :: topV :: topV :: topV :: topV :: topV :: topV :: topV :: topV :: topV :: topV :: topV :: topV :: topV :: topV :: topV :: topV :: topV :: topV :: topV :: topV :: topV :: topV :: topV :: topV :: topV :: topV :: topV :: topV :: topV :: topV :: []), [some ⟨.row 52 4, .ints (fl4 ps)⟩, some ⟨.box, .vals [.int .i64 (p.1), .int .i64 (p.snd.1), .int .i64 (p.snd.snd.1), .int .i64 (p.snd.snd.2)]⟩]⟩) := by kernel_rfl
set_option maxRecDepth 100000 in
theorem nl_adq : loopsOf c_adq = [] := by kernel_rfl
def inv_adq (ps : List Q4) (p : Q4) : Nat → Prop := fun i => i ≤ ps.length
def me_adq (ps : List Q4) (p : Q4) : Nat → Nat := fun i => ps.length - i
/-- A round of this loop. -/
def Round_adq (ps : List Q4) (p : Q4) : Prop := ∀ xx : Nat, inv_adq ps p xx → (bodyL Try.prog EAl 30 12 noL 1 c_adq k_adq 2 (s_adq ps p xx)).ok (RoundEnd 2 (s_adq ps p) (inv_adq ps p) (me_adq ps p) re_adq (rs_adq ps p) xx) (fun _ _ => False)
def e_adq (s : St) (k : Ex → St → Tree) : Option Tree := match Nat.beq s.tmps.length 48, pickL s.tmps [0, 3, 5], s.mem with
  | true, [.slice (some ⟨0, 0, none⟩) n _, .pointer (some ⟨1, 0, none⟩), .int .i64 i], [some ⟨.row 52 4, .ints xs⟩, some ⟨.box, .vals [.int .i64 x, .int .i64 y, .int .i64 u, .int .i64 v]⟩] => some (needs [i = 0, xs.length = n * 4, n ≤ 1000000000, allV4 n xs, okB x y u v = true] (k (.exit 0) ⟨(.slice (some ⟨0, 0, none⟩) n n :: topV :: topV :: .pointer (some ⟨1, 0, none⟩) :: topV :: .int .i64 ((kZ x y u v n xs : Nat) : Int) :: topV :: topV :: topV :: topV :: topV :: topV :: topV :: topV :: topV :: topV :: topV :: topV :: topV :: topV :: topV :: topV :: topV :: topV :: topV :: topV :: topV :: topV :: topV :: topV :: topV :: topV :: topV :: topV :: topV :: topV :: topV :: topV :: topV :: topV :: topV :: topV :: topV :: topV :: topV :: topV :: topV :: topV :: []), [some ⟨.row 52 4, .ints xs⟩, some ⟨.box, .vals [.int .i64 x, .int .i64 y, .int .i64 u, .int .i64 v]⟩]⟩))
  | _, _, _ => none
theorem kQ_no {p q : Q4} {r : List Q4} (h : qLt q p = false) : kQ p (q :: r) = 0 := by simp [kQ, h]
theorem kQ_yes {p q : Q4} {r : List Q4} (h : qLt q p = true) : kQ p (q :: r) = kQ p r + 1 := by simp [kQ, h]
set_option maxRecDepth 100000 in
theorem round_adq (ps : List Q4) (p : Q4) (h : ps.length ≤ 1000000000) (ho : ∀ q ∈ ps, okQ q = true) (hp : okQ p = true) : Round_adq ps p := by
  intro i h1
  have h1 : i ≤ ps.length := h1
  rw [tr_adq]
  simp only [brT_ok, Tree.ok, decide_eq_true_eq, decide_eq_false_iff_not, Int.toNat_natCast, Nat.zero_add, fl4_length, fl4_get0, fl4_get1, fl4_g2, fl4_g3]
  refine ⟨fun hlt => ⟨ho _ (getD_mem4 (by omega)), hp, by omega, by omega, fun g => ?_, fun g => ?_⟩, fun hge => ?_⟩
  · have hd : ps.drop i = ps.getD i z4 :: ps.drop (i + 1) := drop_cons (by omega) _
    have g : qLt (ps.getD i z4) p = true := g
    have e : i + kQ p (ps.drop i) = (i + 1) + kQ p (ps.drop (i + 1)) := by rw [hd, kQ_yes g]; omega
    rw [wsucc (n := ps.length) (by omega) h]
    refine ⟨i + 1, [], ?_, ?_, rfl, by simp only [rs_adq, e], ?_⟩
    · show i + 1 ≤ ps.length; omega
    · show ps.length - (i + 1) < ps.length - i; omega
    · repeat' (first | exact True.intro | exact rfl | exact fun _ => rfl | (simp; done) | refine And.intro ?_ ?_)
  · have hd : ps.drop i = ps.getD i z4 :: ps.drop (i + 1) := drop_cons (by omega) _
    have g : qLt (ps.getD i z4) p = false := g
    have e : i + kQ p (ps.drop i) = i := by rw [hd, kQ_no g]; rfl
    refine ⟨rfl, [], ?_⟩
    simp only [rs_adq, e]
    repeat' (first | exact True.intro | exact rfl | exact fun _ => rfl | (simp; done) | refine And.intro ?_ ?_)
  · have e : i + kQ p (ps.drop i) = i := by rw [List.drop_of_length_le (by omega)]; rfl
    refine ⟨rfl, [], ?_⟩
    simp only [rs_adq, e]
    repeat' (first | exact True.intro | exact rfl | exact fun _ => rfl | (simp; done) | refine And.intro ?_ ?_)
set_option maxRecDepth 100000 in
theorem lg_adq : LoopE Try.prog e_adq c_adq := by
  intro s k t F H hlt ht
  unfold e_adq at hlt
  split at hlt
  rotate_left
  · cases hlt
  rename_i hlen hpick hmem
  obtain ⟨tmps, mem⟩ := s
  simp only at hlen hpick hmem
  subst hmem
  obtain rfl := Option.some.inj hlt
  obtain ⟨⟨rfl, h1, h2, h3, h4, _⟩, ht2⟩ := needs_ok ht
  clear ht hlt
  obtain ⟨ps, rfl, rfl⟩ := four_fl4 h1
  unfold allV4 at h3
  rw [q4A_fl4] at h3
  unfold kZ at ht2
  rw [q4A_fl4] at ht2
  refine ⟨_, _, ht2, loop_run mixed EAl_ok (s_adq ps (_, _, _, _)) (inv_adq ps (_, _, _, _)) (me_adq ps (_, _, _, _)) re_adq (rs_adq ps (_, _, _, _)) k_adq (fun _ => rfl) (noLoops nl_adq) (round_adq ps (_, _, _, _) h2 h3 h4) (x := 0) (Nat.zero_le _) (π := []) rfl ?_⟩
  refine ⟨rfl, rfl, ?_, wvs_spread' [0, 3, 5] hlen rfl ?_⟩
  · repeat' (first | exact True.intro | exact rfl | exact wv_top _ _ | exact fun _ => rfl | assumption | exact Eq.symm (by assumption) | exact vI0 rfl | refine And.intro ?_ ?_)
  · rw [hpick]
    repeat' (first | exact True.intro | exact rfl | exact wv_top _ _ | exact fun _ => rfl | assumption | exact Eq.symm (by assumption) | exact vI0 rfl | refine And.intro ?_ ?_)
theorem Lr_adq {fn : Func} (hf : Try.prog.funcs[81]? = some fn) : LoopsGood Try.prog (lt1 e_adq) 0 (codeOf fn) := by
  obtain rfl := fn_is Try.func81 hf
  exact lt1_good lg_adq
def LAq : FuncId → LT := fun f => match f with
  | 81 => lt1 e_adq
  | _ => noL
def EAq : Env := mkE TAl (fun _ _ => none) LAq
theorem EAq_ok : EnvOk Try.prog EAq := mkEOk TAl_ok (fun _ _ _ _ _ h => (by cases h)) (by
  intro f fn hf
  unfold LAq
  split
  all_goals first | with_reducible exact Lr_adq hf | exact noL_good)
set_option maxRecDepth 100000 in
theorem tr_adqF (ps : List Q4) (x y u v : Int) : bodyM Try.prog EAq (runM Try.prog EAq 30 12) 30 81 [.slice (some ⟨0, 0, none⟩) ps.length ps.length, .agg #[.int .i64 x, .int .i64 y, .int .i64 u, .int .i64 v]] [some ⟨.row 52 4, .ints (fl4 ps)⟩] .fin = .need ((0 : Int) = (0 : Int)) (.need ((fl4 ps).length = ps.length * (4 : Nat)) (.need (ps.length ≤ (1000000000 : Nat)) (.need (allV4 ps.length (fl4 ps)) (.need (okB x y u v = true) (brT (decide ((↑(kZ x y u v ps.length (fl4 ps)) : Int) < (↑ps.length : Int))) (.need ((0 : Int) ≤ (↑(kZ x y u v ps.length (fl4 ps)) : Int) ∧ (↑(kZ x y u v ps.length (fl4 ps)) : Int) < (↑ps.length : Int)) (.need ((0 : Nat) + (↑(kZ x y u v ps.length (fl4 ps)) : Int).toNat * (4 : Nat) + (4 : Nat) ≤ (fl4 ps).length) (brT (negB false ((fl4 ps).getD (0 + (↑(kZ x y u v ps.length (fl4 ps)) : Int).toNat * 4) 0 == x && ((fl4 ps).getD (0 + (↑(kZ x y u v ps.length (fl4 ps)) : Int).toNat * 4 + 1) 0 == y && true) && ((fl4 ps).getD (0 + (↑(kZ x y u v ps.length (fl4 ps)) : Int).toNat * 4 + 1 + 1) 0 == u && ((fl4 ps).getD (0 + (↑(kZ x y u v ps.length (fl4 ps)) : Int).toNat * 4 + 1 + 1 + 1) 0 == v && true) && true))) (.fin (.slice (some ⟨0, 0, none⟩) (ps.length) (ps.length)) [some ⟨.row 52 4, .ints (fl4 ps)⟩, some ⟨.box, .vals [.int .i64 (x), .int .i64 (y), .int .i64 (u), .int .i64 (v)]⟩]) (.need ((0 : Int) ≤ bndI none (0 : Int) ∧ bndI none (0 : Int) ≤ bndI (some (IntKind.i64, (↑(kZ x y u v ps.length (fl4 ps)) : Int))) (↑ps.length : Int) ∧ bndI (some (IntKind.i64, (↑(kZ x y u v ps.length (fl4 ps)) : Int))) (↑ps.length : Int) ≤ (↑ps.length : Int)) (.need (((0 : Nat) + ((bndI (some (IntKind.i64, (↑(kZ x y u v ps.length (fl4 ps)) : Int))) (↑ps.length : Int)).toNat - (bndI none (0 : Int)).toNat, Cs.ints (List.take (((bndI (some (IntKind.i64, (↑(kZ x y u v ps.length (fl4 ps)) : Int))) (↑ps.length : Int)).toNat - (bndI none (0 : Int)).toNat) * Try.prog.types[(52 : Nat)].size) (List.drop ((0 : Nat) + (bndI none (0 : Int)).toNat * Try.prog.types[(52 : Nat)].size) (fl4 ps))), [(0 : Nat) + (bndI none (0 : Int)).toNat * Try.prog.types[(52 : Nat)].size + ((bndI (some (IntKind.i64, (↑(kZ x y u v ps.length (fl4 ps)) : Int))) (↑ps.length : Int)).toNat - (bndI none (0 : Int)).toNat) * Try.prog.types[(52 : Nat)].size ≤ (fl4 ps).length]).fst) * (32 : Nat) ≤ (140737488355328 : Nat) ∧ (0 : Nat) + ((bndI (some (IntKind.i64, (↑(kZ x y u v ps.length (fl4 ps)) : Int))) (↑ps.length : Int)).toNat - (bndI none (0 : Int)).toNat, Cs.ints (List.take (((bndI (some (IntKind.i64, (↑(kZ x y u v ps.length (fl4 ps)) : Int))) (↑ps.length : Int)).toNat - (bndI none (0 : Int)).toNat) * Try.prog.types[(52 : Nat)].size) (List.drop ((0 : Nat) + (bndI none (0 : Int)).toNat * Try.prog.types[(52 : Nat)].size) (fl4 ps))), [(0 : Nat) + (bndI none (0 : Int)).toNat * Try.prog.types[(52 : Nat)].size + ((bndI (some (IntKind.i64, (↑(kZ x y u v ps.length (fl4 ps)) : Int))) (↑ps.length : Int)).toNat - (bndI none (0 : Int)).toNat) * Try.prog.types[(52 : Nat)].size ≤ (fl4 ps).length]).fst ≤ (1000000 : Nat)) (.need ((0 : Nat) + ((bndI (some (IntKind.i64, (↑(kZ x y u v ps.length (fl4 ps)) : Int))) (↑ps.length : Int)).toNat - (0 : Nat)) * (4 : Nat) ≤ (fl4 ps).length) (.need (((0 : Nat) + ((bndI (some (IntKind.i64, (↑(kZ x y u v ps.length (fl4 ps)) : Int))) (↑ps.length : Int)).toNat - (bndI none (0 : Int)).toNat, Cs.ints (List.take (((bndI (some (IntKind.i64, (↑(kZ x y u v ps.length (fl4 ps)) : Int))) (↑ps.length : Int)).toNat - (bndI none (0 : Int)).toNat) * Try.prog.types[(52 : Nat)].size) (List.drop ((0 : Nat) + (bndI none (0 : Int)).toNat * Try.prog.types[(52 : Nat)].size) (fl4 ps))), [(0 : Nat) + (bndI none (0 : Int)).toNat * Try.prog.types[(52 : Nat)].size + ((bndI (some (IntKind.i64, (↑(kZ x y u v ps.length (fl4 ps)) : Int))) (↑ps.length : Int)).toNat - (bndI none (0 : Int)).toNat) * Try.prog.types[(52 : Nat)].size ≤ (fl4 ps).length]).fst + (1 : Nat)) * (32 : Nat) ≤ (140737488355328 : Nat) ∧ (0 : Nat) + ((bndI (some (IntKind.i64, (↑(kZ x y u v ps.length (fl4 ps)) : Int))) (↑ps.length : Int)).toNat - (bndI none (0 : Int)).toNat, Cs.ints (List.take (((bndI (some (IntKind.i64, (↑(kZ x y u v ps.length (fl4 ps)) : Int))) (↑ps.length : Int)).toNat - (bndI none (0 : Int)).toNat) * Try.prog.types[(52 : Nat)].size) (List.drop ((0 : Nat) + (bndI none (0 : Int)).toNat * Try.prog.types[(52 : Nat)].size) (fl4 ps))), [(0 : Nat) + (bndI none (0 : Int)).toNat * Try.prog.types[(52 : Nat)].size + ((bndI (some (IntKind.i64, (↑(kZ x y u v ps.length (fl4 ps)) : Int))) (↑ps.length : Int)).toNat - (bndI none (0 : Int)).toNat) * Try.prog.types[(52 : Nat)].size ≤ (fl4 ps).length]).fst + (1 : Nat) ≤ (1000000 : Nat)) (.need ((0 : Nat) + ((0 : Nat) + ((bndI (some (IntKind.i64, (↑(kZ x y u v ps.length (fl4 ps)) : Int))) (↑ps.length : Int)).toNat - (bndI none (0 : Int)).toNat, Cs.ints (List.take (((bndI (some (IntKind.i64, (↑(kZ x y u v ps.length (fl4 ps)) : Int))) (↑ps.length : Int)).toNat - (bndI none (0 : Int)).toNat) * Try.prog.types[(52 : Nat)].size) (List.drop ((0 : Nat) + (bndI none (0 : Int)).toNat * Try.prog.types[(52 : Nat)].size) (fl4 ps))), [(0 : Nat) + (bndI none (0 : Int)).toNat * Try.prog.types[(52 : Nat)].size + ((bndI (some (IntKind.i64, (↑(kZ x y u v ps.length (fl4 ps)) : Int))) (↑ps.length : Int)).toNat - (bndI none (0 : Int)).toNat) * Try.prog.types[(52 : Nat)].size ≤ (fl4 ps).length]).fst) * (4 : Nat) ≤ ([] ++ List.take (((bndI (some (IntKind.i64, (↑(kZ x y u v ps.length (fl4 ps)) : Int))) (↑ps.length : Int)).toNat - (0 : Nat)) * (4 : Nat)) (List.drop (0 : Nat) (fl4 ps))).length) (.need ((0 : Int) ≤ bndI (some (IntKind.i64, (↑(kZ x y u v ps.length (fl4 ps)) : Int))) (0 : Int) ∧ bndI (some (IntKind.i64, (↑(kZ x y u v ps.length (fl4 ps)) : Int))) (0 : Int) ≤ bndI none (↑ps.length : Int) ∧ bndI none (↑ps.length : Int) ≤ (↑ps.length : Int)) (.need (((0 : Nat) + ((bndI (some (IntKind.i64, (↑(kZ x y u v ps.length (fl4 ps)) : Int))) (↑ps.length : Int)).toNat - (bndI none (0 : Int)).toNat, Cs.ints (List.take (((bndI (some (IntKind.i64, (↑(kZ x y u v ps.length (fl4 ps)) : Int))) (↑ps.length : Int)).toNat - (bndI none (0 : Int)).toNat) * Try.prog.types[(52 : Nat)].size) (List.drop ((0 : Nat) + (bndI none (0 : Int)).toNat * Try.prog.types[(52 : Nat)].size) (fl4 ps))), [(0 : Nat) + (bndI none (0 : Int)).toNat * Try.prog.types[(52 : Nat)].size + ((bndI (some (IntKind.i64, (↑(kZ x y u v ps.length (fl4 ps)) : Int))) (↑ps.length : Int)).toNat - (bndI none (0 : Int)).toNat) * Try.prog.types[(52 : Nat)].size ≤ (fl4 ps).length]).fst + (1 : Nat) + ((bndI none (↑ps.length : Int)).toNat - (bndI (some (IntKind.i64, (↑(kZ x y u v ps.length (fl4 ps)) : Int))) (0 : Int)).toNat, Cs.ints (List.take (((bndI none (↑ps.length : Int)).toNat - (bndI (some (IntKind.i64, (↑(kZ x y u v ps.length (fl4 ps)) : Int))) (0 : Int)).toNat) * Try.prog.types[(52 : Nat)].size) (List.drop ((0 : Nat) + (bndI (some (IntKind.i64, (↑(kZ x y u v ps.length (fl4 ps)) : Int))) (0 : Int)).toNat * Try.prog.types[(52 : Nat)].size) (fl4 ps))), [(0 : Nat) + (bndI (some (IntKind.i64, (↑(kZ x y u v ps.length (fl4 ps)) : Int))) (0 : Int)).toNat * Try.prog.types[(52 : Nat)].size + ((bndI none (↑ps.length : Int)).toNat - (bndI (some (IntKind.i64, (↑(kZ x y u v ps.length (fl4 ps)) : Int))) (0 : Int)).toNat) * Try.prog.types[(52 : Nat)].size ≤ (fl4 ps).length]).fst) * (32 : Nat) ≤ (140737488355328 : Nat) ∧ (0 : Nat) + ((bndI (some (IntKind.i64, (↑(kZ x y u v ps.length (fl4 ps)) : Int))) (↑ps.length : Int)).toNat - (bndI none (0 : Int)).toNat, Cs.ints (List.take (((bndI (some (IntKind.i64, (↑(kZ x y u v ps.length (fl4 ps)) : Int))) (↑ps.length : Int)).toNat - (bndI none (0 : Int)).toNat) * Try.prog.types[(52 : Nat)].size) (List.drop ((0 : Nat) + (bndI none (0 : Int)).toNat * Try.prog.types[(52 : Nat)].size) (fl4 ps))), [(0 : Nat) + (bndI none (0 : Int)).toNat * Try.prog.types[(52 : Nat)].size + ((bndI (some (IntKind.i64, (↑(kZ x y u v ps.length (fl4 ps)) : Int))) (↑ps.length : Int)).toNat - (bndI none (0 : Int)).toNat) * Try.prog.types[(52 : Nat)].size ≤ (fl4 ps).length]).fst + (1 : Nat) + ((bndI none (↑ps.length : Int)).toNat - (bndI (some (IntKind.i64, (↑(kZ x y u v ps.length (fl4 ps)) : Int))) (0 : Int)).toNat, Cs.ints (List.take (((bndI none (↑ps.length : Int)).toNat - (bndI (some (IntKind.i64, (↑(kZ x y u v ps.length (fl4 ps)) : Int))) (0 : Int)).toNat) * Try.prog.types[(52 : Nat)].size) (List.drop ((0 : Nat) + (bndI (some (IntKind.i64, (↑(kZ x y u v ps.length (fl4 ps)) : Int))) (0 : Int)).toNat * Try.prog.types[(52 : Nat)].size) (fl4 ps))), [(0 : Nat) + (bndI (some (IntKind.i64, (↑(kZ x y u v ps.length (fl4 ps)) : Int))) (0 : Int)).toNat * Try.prog.types[(52 : Nat)].size + ((bndI none (↑ps.length : Int)).toNat - (bndI (some (IntKind.i64, (↑(kZ x y u v ps.length (fl4 ps)) : Int))) (0 : Int)).toNat) * Try.prog.types[(52 : Nat)].size ≤ (fl4 ps).length]).fst ≤ (1000000 : Nat)) (.need ((0 : Nat) + (bndI (some (IntKind.i64, (↑(kZ x y u v ps.length (fl4 ps)) : Int))) (0 : Int)).toNat * (4 : Nat) + ((bndI none (↑ps.length : Int)).toNat - (bndI (some (IntKind.i64, (↑(kZ x y u v ps.length (fl4 ps)) : Int))) (0 : Int)).toNat) * (4 : Nat) ≤ (fl4 ps).length) (.need ((0 : Nat) + ((0 : Nat) + ((bndI (some (IntKind.i64, (↑(kZ x y u v ps.length (fl4 ps)) : Int))) (↑ps.length : Int)).toNat - (bndI none (0 : Int)).toNat, Cs.ints (List.take (((bndI (some (IntKind.i64, (↑(kZ x y u v ps.length (fl4 ps)) : Int))) (↑ps.length : Int)).toNat - (bndI none (0 : Int)).toNat) * Try.prog.types[(52 : Nat)].size) (List.drop ((0 : Nat) + (bndI none (0 : Int)).toNat * Try.prog.types[(52 : Nat)].size) (fl4 ps))), [(0 : Nat) + (bndI none (0 : Int)).toNat * Try.prog.types[(52 : Nat)].size + ((bndI (some (IntKind.i64, (↑(kZ x y u v ps.length (fl4 ps)) : Int))) (↑ps.length : Int)).toNat - (bndI none (0 : Int)).toNat) * Try.prog.types[(52 : Nat)].size ≤ (fl4 ps).length]).fst + (1 : Nat)) * (4 : Nat) ≤ (List.take (((0 : Nat) + ((bndI (some (IntKind.i64, (↑(kZ x y u v ps.length (fl4 ps)) : Int))) (↑ps.length : Int)).toNat - (bndI none (0 : Int)).toNat, Cs.ints (List.take (((bndI (some (IntKind.i64, (↑(kZ x y u v ps.length (fl4 ps)) : Int))) (↑ps.length : Int)).toNat - (bndI none (0 : Int)).toNat) * Try.prog.types[(52 : Nat)].size) (List.drop ((0 : Nat) + (bndI none (0 : Int)).toNat * Try.prog.types[(52 : Nat)].size) (fl4 ps))), [(0 : Nat) + (bndI none (0 : Int)).toNat * Try.prog.types[(52 : Nat)].size + ((bndI (some (IntKind.i64, (↑(kZ x y u v ps.length (fl4 ps)) : Int))) (↑ps.length : Int)).toNat - (bndI none (0 : Int)).toNat) * Try.prog.types[(52 : Nat)].size ≤ (fl4 ps).length]).fst) * (4 : Nat)) (List.drop (0 : Nat) ([] ++ List.take (((bndI (some (IntKind.i64, (↑(kZ x y u v ps.length (fl4 ps)) : Int))) (↑ps.length : Int)).toNat - (0 : Nat)) * (4 : Nat)) (List.drop (0 : Nat) (fl4 ps)))) ++ [x, y, u, v]).length) (.fin (.slice (some ⟨6, 0, none⟩) (0 + ((bndI (some (IntKind.i64, (↑(kZ x y u v ps.length (fl4 ps)) : Int))) (↑ps.length : Int)).toNat - (bndI none 0).toNat, Cs.ints (List.take (((bndI (some (IntKind.i64, (↑(kZ x y u v ps.length (fl4 ps)) : Int))) (↑ps.length : Int)).toNat - (bndI none 0).toNat) * Try.prog.types[52].size) (List.drop (0 + (bndI none 0).toNat * Try.prog.types[52].size) (fl4 ps))), [0 + (bndI none 0).toNat * Try.prog.types[52].size + ((bndI (some (IntKind.i64, (↑(kZ x y u v ps.length (fl4 ps)) : Int))) (↑ps.length : Int)).toNat - (bndI none 0).toNat) * Try.prog.types[52].size ≤ (fl4 ps).length]).fst + 1 + ((bndI none (↑ps.length : Int)).toNat - (bndI (some (IntKind.i64, (↑(kZ x y u v ps.length (fl4 ps)) : Int))) 0).toNat, Cs.ints (List.take (((bndI none (↑ps.length : Int)).toNat - (bndI (some (IntKind.i64, (↑(kZ x y u v ps.length (fl4 ps)) : Int))) 0).toNat) * Try.prog.types[52].size) (List.drop (0 + (bndI (some (IntKind.i64, (↑(kZ x y u v ps.length (fl4 ps)) : Int))) 0).toNat * Try.prog.types[52].size) (fl4 ps))), [0 + (bndI (some (IntKind.i64, (↑(kZ x y u v ps.length (fl4 ps)) : Int))) 0).toNat * Try.prog.types[52].size + ((bndI none (↑ps.length : Int)).toNat - (bndI (some (IntKind.i64, (↑(kZ x y u v ps.length (fl4 ps)) : Int))) 0).toNat) * Try.prog.types[52].size ≤ (fl4 ps).length]).fst) (0 + ((bndI (some (IntKind.i64, (↑(kZ x y u v ps.length (fl4 ps)) : Int))) (↑ps.length : Int)).toNat - (bndI none 0).toNat, Cs.ints (List.take (((bndI (some (IntKind.i64, (↑(kZ x y u v ps.length (fl4 ps)) : Int))) (↑ps.length : Int)).toNat - (bndI none 0).toNat) * Try.prog.types[52].size) (List.drop (0 + (bndI none 0).toNat * Try.prog.types[52].size) (fl4 ps))), [0 + (bndI none 0).toNat * Try.prog.types[52].size + ((bndI (some (IntKind.i64, (↑(kZ x y u v ps.length (fl4 ps)) : Int))) (↑ps.length : Int)).toNat - (bndI none 0).toNat) * Try.prog.types[52].size ≤ (fl4 ps).length]).fst + 1 + ((bndI none (↑ps.length : Int)).toNat - (bndI (some (IntKind.i64, (↑(kZ x y u v ps.length (fl4 ps)) : Int))) 0).toNat, Cs.ints (List.take (((bndI none (↑ps.length : Int)).toNat - (bndI (some (IntKind.i64, (↑(kZ x y u v ps.length (fl4 ps)) : Int))) 0).toNat) * Try.prog.types[52].size) (List.drop (0 + (bndI (some (IntKind.i64, (↑(kZ x y u v ps.length (fl4 ps)) : Int))) 0).toNat * Try.prog.types[52].size) (fl4 ps))), [0 + (bndI (some (IntKind.i64, (↑(kZ x y u v ps.length (fl4 ps)) : Int))) 0).toNat * Try.prog.types[52].size + ((bndI none (↑ps.length : Int)).toNat - (bndI (some (IntKind.i64, (↑(kZ x y u v ps.length (fl4 ps)) : Int))) 0).toNat) * Try.prog.types[52].size ≤ (fl4 ps).length]).fst)) [some ⟨.row 52 4, .ints (fl4 ps)⟩, some ⟨.box, .vals [.int .i64 (x), .int .i64 (y), .int .i64 (u), .int .i64 (v)]⟩, some deadB, some deadB, some ⟨.row 52 4, .vals [.int .i64 (x), .int .i64 (y), .int .i64 (u), .int .i64 (v)]⟩, some deadB, some ⟨.row 52 4, .ints (List.take ((0 + ((bndI (some (IntKind.i64, (↑(kZ x y u v ps.length (fl4 ps)) : Int))) (↑ps.length : Int)).toNat - (bndI none 0).toNat, Cs.ints (List.take (((bndI (some (IntKind.i64, (↑(kZ x y u v ps.length (fl4 ps)) : Int))) (↑ps.length : Int)).toNat - (bndI none 0).toNat) * Try.prog.types[52].size) (List.drop (0 + (bndI none 0).toNat * Try.prog.types[52].size) (fl4 ps))), [0 + (bndI none 0).toNat * Try.prog.types[52].size + ((bndI (some (IntKind.i64, (↑(kZ x y u v ps.length (fl4 ps)) : Int))) (↑ps.length : Int)).toNat - (bndI none 0).toNat) * Try.prog.types[52].size ≤ (fl4 ps).length]).fst + 1) * 4) (List.drop 0 (List.take ((0 + ((bndI (some (IntKind.i64, (↑(kZ x y u v ps.length (fl4 ps)) : Int))) (↑ps.length : Int)).toNat - (bndI none 0).toNat, Cs.ints (List.take (((bndI (some (IntKind.i64, (↑(kZ x y u v ps.length (fl4 ps)) : Int))) (↑ps.length : Int)).toNat - (bndI none 0).toNat) * Try.prog.types[52].size) (List.drop (0 + (bndI none 0).toNat * Try.prog.types[52].size) (fl4 ps))), [0 + (bndI none 0).toNat * Try.prog.types[52].size + ((bndI (some (IntKind.i64, (↑(kZ x y u v ps.length (fl4 ps)) : Int))) (↑ps.length : Int)).toNat - (bndI none 0).toNat) * Try.prog.types[52].size ≤ (fl4 ps).length]).fst) * 4) (List.drop 0 ([] ++ List.take (((bndI (some (IntKind.i64, (↑(kZ x y u v ps.length (fl4 ps)) : Int))) (↑ps.length : Int)).toNat - 0) * 4) (List.drop 0 (fl4 ps)))) ++ [x, y, u, v])) ++ List.take (((bndI none (↑ps.length : Int)).toNat - (bndI (some (IntKind.i64, (↑(kZ x y u v ps.length (fl4 ps)) : Int))) 0).toNat) * 4) (List.drop (0 + (bndI (some (IntKind.i64, (↑(kZ x y u v ps.length (fl4 ps)) : Int))) 0).toNat * 4) (fl4 ps)))⟩]))))))))))))) (.need ((0 : Int) ≤ bndI none (0 : Int) ∧ bndI none (0 : Int) ≤ bndI (some (IntKind.i64, (↑(kZ x y u v ps.length (fl4 ps)) : Int))) (↑ps.length : Int) ∧ bndI (some (IntKind.i64, (↑(kZ x y u v ps.length (fl4 ps)) : Int))) (↑ps.length : Int) ≤ (↑ps.length : Int)) (.need (((0 : Nat) + ((bndI (some (IntKind.i64, (↑(kZ x y u v ps.length (fl4 ps)) : Int))) (↑ps.length : Int)).toNat - (bndI none (0 : Int)).toNat, Cs.ints (List.take (((bndI (some (IntKind.i64, (↑(kZ x y u v ps.length (fl4 ps)) : Int))) (↑ps.length : Int)).toNat - (bndI none (0 : Int)).toNat) * Try.prog.types[(52 : Nat)].size) (List.drop ((0 : Nat) + (bndI none (0 : Int)).toNat * Try.prog.types[(52 : Nat)].size) (fl4 ps))), [(0 : Nat) + (bndI none (0 : Int)).toNat * Try.prog.types[(52 : Nat)].size + ((bndI (some (IntKind.i64, (↑(kZ x y u v ps.length (fl4 ps)) : Int))) (↑ps.length : Int)).toNat - (bndI none (0 : Int)).toNat) * Try.prog.types[(52 : Nat)].size ≤ (fl4 ps).length]).fst) * (32 : Nat) ≤ (140737488355328 : Nat) ∧ (0 : Nat) + ((bndI (some (IntKind.i64, (↑(kZ x y u v ps.length (fl4 ps)) : Int))) (↑ps.length : Int)).toNat - (bndI none (0 : Int)).toNat, Cs.ints (List.take (((bndI (some (IntKind.i64, (↑(kZ x y u v ps.length (fl4 ps)) : Int))) (↑ps.length : Int)).toNat - (bndI none (0 : Int)).toNat) * Try.prog.types[(52 : Nat)].size) (List.drop ((0 : Nat) + (bndI none (0 : Int)).toNat * Try.prog.types[(52 : Nat)].size) (fl4 ps))), [(0 : Nat) + (bndI none (0 : Int)).toNat * Try.prog.types[(52 : Nat)].size + ((bndI (some (IntKind.i64, (↑(kZ x y u v ps.length (fl4 ps)) : Int))) (↑ps.length : Int)).toNat - (bndI none (0 : Int)).toNat) * Try.prog.types[(52 : Nat)].size ≤ (fl4 ps).length]).fst ≤ (1000000 : Nat)) (.need ((0 : Nat) + ((bndI (some (IntKind.i64, (↑(kZ x y u v ps.length (fl4 ps)) : Int))) (↑ps.length : Int)).toNat - (0 : Nat)) * (4 : Nat) ≤ (fl4 ps).length) (.need (((0 : Nat) + ((bndI (some (IntKind.i64, (↑(kZ x y u v ps.length (fl4 ps)) : Int))) (↑ps.length : Int)).toNat - (bndI none (0 : Int)).toNat, Cs.ints (List.take (((bndI (some (IntKind.i64, (↑(kZ x y u v ps.length (fl4 ps)) : Int))) (↑ps.length : Int)).toNat - (bndI none (0 : Int)).toNat) * Try.prog.types[(52 : Nat)].size) (List.drop ((0 : Nat) + (bndI none (0 : Int)).toNat * Try.prog.types[(52 : Nat)].size) (fl4 ps))), [(0 : Nat) + (bndI none (0 : Int)).toNat * Try.prog.types[(52 : Nat)].size + ((bndI (some (IntKind.i64, (↑(kZ x y u v ps.length (fl4 ps)) : Int))) (↑ps.length : Int)).toNat - (bndI none (0 : Int)).toNat) * Try.prog.types[(52 : Nat)].size ≤ (fl4 ps).length]).fst + (1 : Nat)) * (32 : Nat) ≤ (140737488355328 : Nat) ∧ (0 : Nat) + ((bndI (some (IntKind.i64, (↑(kZ x y u v ps.length (fl4 ps)) : Int))) (↑ps.length : Int)).toNat - (bndI none (0 : Int)).toNat, Cs.ints (List.take (((bndI (some (IntKind.i64, (↑(kZ x y u v ps.length (fl4 ps)) : Int))) (↑ps.length : Int)).toNat - (bndI none (0 : Int)).toNat) * Try.prog.types[(52 : Nat)].size) (List.drop ((0 : Nat) + (bndI none (0 : Int)).toNat * Try.prog.types[(52 : Nat)].size) (fl4 ps))), [(0 : Nat) + (bndI none (0 : Int)).toNat * Try.prog.types[(52 : Nat)].size + ((bndI (some (IntKind.i64, (↑(kZ x y u v ps.length (fl4 ps)) : Int))) (↑ps.length : Int)).toNat - (bndI none (0 : Int)).toNat) * Try.prog.types[(52 : Nat)].size ≤ (fl4 ps).length]).fst + (1 : Nat) ≤ (1000000 : Nat)) (.need ((0 : Nat) + ((0 : Nat) + ((bndI (some (IntKind.i64, (↑(kZ x y u v ps.length (fl4 ps)) : Int))) (↑ps.length : Int)).toNat - (bndI none (0 : Int)).toNat, Cs.ints (List.take (((bndI (some (IntKind.i64, (↑(kZ x y u v ps.length (fl4 ps)) : Int))) (↑ps.length : Int)).toNat - (bndI none (0 : Int)).toNat) * Try.prog.types[(52 : Nat)].size) (List.drop ((0 : Nat) + (bndI none (0 : Int)).toNat * Try.prog.types[(52 : Nat)].size) (fl4 ps))), [(0 : Nat) + (bndI none (0 : Int)).toNat * Try.prog.types[(52 : Nat)].size + ((bndI (some (IntKind.i64, (↑(kZ x y u v ps.length (fl4 ps)) : Int))) (↑ps.length : Int)).toNat - (bndI none (0 : Int)).toNat) * Try.prog.types[(52 : Nat)].size ≤ (fl4 ps).length]).fst) * (4 : Nat) ≤ ([] ++ List.take (((bndI (some (IntKind.i64, (↑(kZ x y u v ps.length (fl4 ps)) : Int))) (↑ps.length : Int)).toNat - (0 : Nat)) * (4 : Nat)) (List.drop (0 : Nat) (fl4 ps))).length) (.need ((0 : Int) ≤ bndI (some (IntKind.i64, (↑(kZ x y u v ps.length (fl4 ps)) : Int))) (0 : Int) ∧ bndI (some (IntKind.i64, (↑(kZ x y u v ps.length (fl4 ps)) : Int))) (0 : Int) ≤ bndI none (↑ps.length : Int) ∧ bndI none (↑ps.length : Int) ≤ (↑ps.length : Int)) (.need (((0 : Nat) + ((bndI (some (IntKind.i64, (↑(kZ x y u v ps.length (fl4 ps)) : Int))) (↑ps.length : Int)).toNat - (bndI none (0 : Int)).toNat, Cs.ints (List.take (((bndI (some (IntKind.i64, (↑(kZ x y u v ps.length (fl4 ps)) : Int))) (↑ps.length : Int)).toNat - (bndI none (0 : Int)).toNat) * Try.prog.types[(52 : Nat)].size) (List.drop ((0 : Nat) + (bndI none (0 : Int)).toNat * Try.prog.types[(52 : Nat)].size) (fl4 ps))), [(0 : Nat) + (bndI none (0 : Int)).toNat * Try.prog.types[(52 : Nat)].size + ((bndI (some (IntKind.i64, (↑(kZ x y u v ps.length (fl4 ps)) : Int))) (↑ps.length : Int)).toNat - (bndI none (0 : Int)).toNat) * Try.prog.types[(52 : Nat)].size ≤ (fl4 ps).length]).fst + (1 : Nat) + ((bndI none (↑ps.length : Int)).toNat - (bndI (some (IntKind.i64, (↑(kZ x y u v ps.length (fl4 ps)) : Int))) (0 : Int)).toNat, Cs.ints (List.take (((bndI none (↑ps.length : Int)).toNat - (bndI (some (IntKind.i64, (↑(kZ x y u v ps.length (fl4 ps)) : Int))) (0 : Int)).toNat) * Try.prog.types[(52 : Nat)].size) (List.drop ((0 : Nat) + (bndI (some (IntKind.i64, (↑(kZ x y u v ps.length (fl4 ps)) : Int))) (0 : Int)).toNat * Try.prog.types[(52 : Nat)].size) (fl4 ps))), [(0 : Nat) + (bndI (some (IntKind.i64, (↑(kZ x y u v ps.length (fl4 ps)) : Int))) (0 : Int)).toNat * Try.prog.types[(52 : Nat)].size + ((bndI none (↑ps.length : Int)).toNat - (bndI (some (IntKind.i64, (↑(kZ x y u v ps.length (fl4 ps)) : Int))) (0 : Int)).toNat) * Try.prog.types[(52 : Nat)].size ≤ (fl4 ps).length]).fst) * (32 : Nat) ≤ (140737488355328 : Nat) ∧ (0 : Nat) + ((bndI (some (IntKind.i64, (↑(kZ x y u v ps.length (fl4 ps)) : Int))) (↑ps.length : Int)).toNat - (bndI none (0 : Int)).toNat, Cs.ints (List.take (((bndI (some (IntKind.i64, (↑(kZ x y u v ps.length (fl4 ps)) : Int))) (↑ps.length : Int)).toNat - (bndI none (0 : Int)).toNat) * Try.prog.types[(52 : Nat)].size) (List.drop ((0 : Nat) + (bndI none (0 : Int)).toNat * Try.prog.types[(52 : Nat)].size) (fl4 ps))), [(0 : Nat) + (bndI none (0 : Int)).toNat * Try.prog.types[(52 : Nat)].size + ((bndI (some (IntKind.i64, (↑(kZ x y u v ps.length (fl4 ps)) : Int))) (↑ps.length : Int)).toNat - (bndI none (0 : Int)).toNat) * Try.prog.types[(52 : Nat)].size ≤ (fl4 ps).length]).fst + (1 : Nat) + ((bndI none (↑ps.length : Int)).toNat - (bndI (some (IntKind.i64, (↑(kZ x y u v ps.length (fl4 ps)) : Int))) (0 : Int)).toNat, Cs.ints (List.take (((bndI none (↑ps.length : Int)).toNat - (bndI (some (IntKind.i64, (↑(kZ x y u v ps.length (fl4 ps)) : Int))) (0 : Int)).toNat) * Try.prog.types[(52 : Nat)].size) (List.drop ((0 : Nat) + (bndI (some (IntKind.i64, (↑(kZ x y u v ps.length (fl4 ps)) : Int))) (0 : Int)).toNat * Try.prog.types[(52 : Nat)].size) (fl4 ps))), [(0 : Nat) + (bndI (some (IntKind.i64, (↑(kZ x y u v ps.length (fl4 ps)) : Int))) (0 : Int)).toNat * Try.prog.types[(52 : Nat)].size + ((bndI none (↑ps.length : Int)).toNat - (bndI (some (IntKind.i64, (↑(kZ x y u v ps.length (fl4 ps)) : Int))) (0 : Int)).toNat) * Try.prog.types[(52 : Nat)].size ≤ (fl4 ps).length]).fst ≤ (1000000 : Nat)) (.need ((0 : Nat) + (bndI (some (IntKind.i64, (↑(kZ x y u v ps.length (fl4 ps)) : Int))) (0 : Int)).toNat * (4 : Nat) + ((bndI none (↑ps.length : Int)).toNat - (bndI (some (IntKind.i64, (↑(kZ x y u v ps.length (fl4 ps)) : Int))) (0 : Int)).toNat) * (4 : Nat) ≤ (fl4 ps).length) (.need ((0 : Nat) + ((0 : Nat) + ((bndI (some (IntKind.i64, (↑(kZ x y u v ps.length (fl4 ps)) : Int))) (↑ps.length : Int)).toNat - (bndI none (0 : Int)).toNat, Cs.ints (List.take (((bndI (some (IntKind.i64, (↑(kZ x y u v ps.length (fl4 ps)) : Int))) (↑ps.length : Int)).toNat - (bndI none (0 : Int)).toNat) * Try.prog.types[(52 : Nat)].size) (List.drop ((0 : Nat) + (bndI none (0 : Int)).toNat * Try.prog.types[(52 : Nat)].size) (fl4 ps))), [(0 : Nat) + (bndI none (0 : Int)).toNat * Try.prog.types[(52 : Nat)].size + ((bndI (some (IntKind.i64, (↑(kZ x y u v ps.length (fl4 ps)) : Int))) (↑ps.length : Int)).toNat - (bndI none (0 : Int)).toNat) * Try.prog.types[(52 : Nat)].size ≤ (fl4 ps).length]).fst + (1 : Nat)) * (4 : Nat) ≤ (List.take (((0 : Nat) + ((bndI (some (IntKind.i64, (↑(kZ x y u v ps.length (fl4 ps)) : Int))) (↑ps.length : Int)).toNat - (bndI none (0 : Int)).toNat, Cs.ints (List.take (((bndI (some (IntKind.i64, (↑(kZ x y u v ps.length (fl4 ps)) : Int))) (↑ps.length : Int)).toNat - (bndI none (0 : Int)).toNat) * Try.prog.types[(52 : Nat)].size) (List.drop ((0 : Nat) + (bndI none (0 : Int)).toNat * Try.prog.types[(52 : Nat)].size) (fl4 ps))), [(0 : Nat) + (bndI none (0 : Int)).toNat * Try.prog.types[(52 : Nat)].size + ((bndI (some (IntKind.i64, (↑(kZ x y u v ps.length (fl4 ps)) : Int))) (↑ps.length : Int)).toNat - (bndI none (0 : Int)).toNat) * Try.prog.types[(52 : Nat)].size ≤ (fl4 ps).length]).fst) * (4 : Nat)) (List.drop (0 : Nat) ([] ++ List.take (((bndI (some (IntKind.i64, (↑(kZ x y u v ps.length (fl4 ps)) : Int))) (↑ps.length : Int)).toNat - (0 : Nat)) * (4 : Nat)) (List.drop (0 : Nat) (fl4 ps)))) ++ [x, y, u, v]).length) (.fin (.slice (some ⟨6, 0, none⟩) (0 + ((bndI (some (IntKind.i64, (↑(kZ x y u v ps.length (fl4 ps)) : Int))) (↑ps.length : Int)).toNat - (bndI none 0).toNat, Cs.ints (List.take (((bndI (some (IntKind.i64, (↑(kZ x y u v ps.length (fl4 ps)) : Int))) (↑ps.length : Int)).toNat - (bndI none 0).toNat) * Try.prog.types[52].size) (List.drop (0 + (bndI none 0).toNat * Try.prog.types[52].size) (fl4 ps))), [0 + (bndI none 0).toNat * Try.prog.types[52].size + ((bndI (some (IntKind.i64, (↑(kZ x y u v ps.length (fl4 ps)) : Int))) (↑ps.length : Int)).toNat - (bndI none 0).toNat) * Try.prog.types[52].size ≤ (fl4 ps).length]).fst + 1 + ((bndI none (↑ps.length : Int)).toNat - (bndI (some (IntKind.i64, (↑(kZ x y u v ps.length (fl4 ps)) : Int))) 0).toNat, Cs.ints (List.take (((bndI none (↑ps.length : Int)).toNat - (bndI (some (IntKind.i64, (↑(kZ x y u v ps.length (fl4 ps)) : Int))) 0).toNat) * Try.prog.types[52].size) (List.drop (0 + (bndI (some (IntKind.i64, (↑(kZ x y u v ps.length (fl4 ps)) : Int))) 0).toNat * Try.prog.types[52].size) (fl4 ps))), [0 + (bndI (some (IntKind.i64, (↑(kZ x y u v ps.length (fl4 ps)) : Int))) 0).toNat * Try.prog.types[52].size + ((bndI none (↑ps.length : Int)).toNat - (bndI (some (IntKind.i64, (↑(kZ x y u v ps.length (fl4 ps)) : Int))) 0).toNat) * Try.prog.types[52].size ≤ (fl4 ps).length]).fst) (0 + ((bndI (some (IntKind.i64, (↑(kZ x y u v ps.length (fl4 ps)) : Int))) (↑ps.length : Int)).toNat - (bndI none 0).toNat, Cs.ints (List.take (((bndI (some (IntKind.i64, (↑(kZ x y u v ps.length (fl4 ps)) : Int))) (↑ps.length : Int)).toNat - (bndI none 0).toNat) * Try.prog.types[52].size) (List.drop (0 + (bndI none 0).toNat * Try.prog.types[52].size) (fl4 ps))), [0 + (bndI none 0).toNat * Try.prog.types[52].size + ((bndI (some (IntKind.i64, (↑(kZ x y u v ps.length (fl4 ps)) : Int))) (↑ps.length : Int)).toNat - (bndI none 0).toNat) * Try.prog.types[52].size ≤ (fl4 ps).length]).fst + 1 + ((bndI none (↑ps.length : Int)).toNat - (bndI (some (IntKind.i64, (↑(kZ x y u v ps.length (fl4 ps)) : Int))) 0).toNat, Cs.ints (List.take (((bndI none (↑ps.length : Int)).toNat - (bndI (some (IntKind.i64, (↑(kZ x y u v ps.length (fl4 ps)) : Int))) 0).toNat) * Try.prog.types[52].size) (List.drop (0 + (bndI (some (IntKind.i64, (↑(kZ x y u v ps.length (fl4 ps)) : Int))) 0).toNat * Try.prog.types[52].size) (fl4 ps))), [0 + (bndI (some (IntKind.i64, (↑(kZ x y u v ps.length (fl4 ps)) : Int))) 0).toNat * Try.prog.types[52].size + ((bndI none (↑ps.length : Int)).toNat - (bndI (some (IntKind.i64, (↑(kZ x y u v ps.length (fl4 ps)) : Int))) 0).toNat) * Try.prog.types[52].size ≤ (fl4 ps).length]).fst)) [some ⟨.row 52 4, .ints (fl4 ps)⟩, some ⟨.box, .vals [.int .i64 (x), .int .i64 (y), .int .i64 (u), .int .i64 (v)]⟩, some deadB, some deadB, some ⟨.row 52 4, .vals [.int .i64 (x), .int .i64 (y), .int .i64 (u), .int .i64 (v)]⟩, some deadB, some ⟨.row 52 4, .ints (List.take ((0 + ((bndI (some (IntKind.i64, (↑(kZ x y u v ps.length (fl4 ps)) : Int))) (↑ps.length : Int)).toNat - (bndI none 0).toNat, Cs.ints (List.take (((bndI (some (IntKind.i64, (↑(kZ x y u v ps.length (fl4 ps)) : Int))) (↑ps.length : Int)).toNat - (bndI none 0).toNat) * Try.prog.types[52].size) (List.drop (0 + (bndI none 0).toNat * Try.prog.types[52].size) (fl4 ps))), [0 + (bndI none 0).toNat * Try.prog.types[52].size + ((bndI (some (IntKind.i64, (↑(kZ x y u v ps.length (fl4 ps)) : Int))) (↑ps.length : Int)).toNat - (bndI none 0).toNat) * Try.prog.types[52].size ≤ (fl4 ps).length]).fst + 1) * 4) (List.drop 0 (List.take ((0 + ((bndI (some (IntKind.i64, (↑(kZ x y u v ps.length (fl4 ps)) : Int))) (↑ps.length : Int)).toNat - (bndI none 0).toNat, Cs.ints (List.take (((bndI (some (IntKind.i64, (↑(kZ x y u v ps.length (fl4 ps)) : Int))) (↑ps.length : Int)).toNat - (bndI none 0).toNat) * Try.prog.types[52].size) (List.drop (0 + (bndI none 0).toNat * Try.prog.types[52].size) (fl4 ps))), [0 + (bndI none 0).toNat * Try.prog.types[52].size + ((bndI (some (IntKind.i64, (↑(kZ x y u v ps.length (fl4 ps)) : Int))) (↑ps.length : Int)).toNat - (bndI none 0).toNat) * Try.prog.types[52].size ≤ (fl4 ps).length]).fst) * 4) (List.drop 0 ([] ++ List.take (((bndI (some (IntKind.i64, (↑(kZ x y u v ps.length (fl4 ps)) : Int))) (↑ps.length : Int)).toNat - 0) * 4) (List.drop 0 (fl4 ps)))) ++ [x, y, u, v])) ++ List.take (((bndI none (↑ps.length : Int)).toNat - (bndI (some (IntKind.i64, (↑(kZ x y u v ps.length (fl4 ps)) : Int))) 0).toNat) * 4) (List.drop (0 + (bndI (some (IntKind.i64, (↑(kZ x y u v ps.length (fl4 ps)) : Int))) 0).toNat * 4) (fl4 ps)))⟩]))))))))))))))) := by kernel_rfl
theorem ins_fl4 {ps : List Q4} {k : Nat} (h : k ≤ ps.length) (x y u v : Int) : List.take ((k + 1) * 4) (List.take (k * 4) (List.take (k * 4) (fl4 ps)) ++ [x, y, u, v]) ++ List.take ((ps.length - k) * 4) (List.drop (k * 4) (fl4 ps)) = fl4 (ps.take k ++ ((x, y, u, v) :: ps.drop k)) := by
  have l1 : (ps.take k).length = k := by simp; omega
  have l2 : (ps.drop k).length = ps.length - k := by simp
  have l3 : (ps.take k ++ [(x, y, u, v)]).length = k + 1 := by rw [List.length_append, l1]; rfl
  have e1 : List.take (k + 1) (ps.take k ++ [(x, y, u, v)]) = ps.take k ++ [(x, y, u, v)] := List.take_of_length_le (by omega)
  have e2 : List.take (ps.length - k) (ps.drop k) = ps.drop k := List.take_of_length_le (by omega)
  rw [fl4_take, fl4_take, List.take_take, Nat.min_self, fl4_snoc, fl4_take, fl4_drop, fl4_take, e1, e2, ← fl4_append, List.append_assoc]
  rfl
set_option maxRecDepth 100000 in
theorem ty_rp2 : Try.prog.types[(52 : Nat)].size = 4 := by kernel_rfl
set_option maxHeartbeats 2000000 in
theorem adq_row (ps : List Q4) (x y u v : Int) (h : ps.length ≤ 1000) (ho : ∀ q ∈ ps, okQ q = true) (hp : okB x y u v = true) : (bodyM Try.prog EAq (runM Try.prog EAq 30 12) 30 81 [.slice (some ⟨0, 0, none⟩) ps.length ps.length, .agg #[.int .i64 x, .int .i64 y, .int .i64 u, .int .i64 v]] [some ⟨.row 52 4, .ints (fl4 ps)⟩] .fin).ok (fun _ _ => False) (fun uu mem' => RowIs (.slice (some ⟨0, 0, none⟩) (inQ (x, y, u, v) ps).length (inQ (x, y, u, v) ps).length) ⟨.row 52 4, .ints (fl4 (inQ (x, y, u, v) ps))⟩ uu mem') := by
  rw [tr_adqF]
  have hk := kQ_le (x, y, u, v) ps
  have hi := inQ_is (x, y, u, v) ps
  simp only [List.drop_zero, kZ_is, ty_rp2, q4A_fl4, fl4_length, Nat.zero_add, Int.toNat_natCast, bndI, Nat.sub_zero, Int.toNat_zero, Nat.zero_mul, List.nil_append]
  generalize kQ (x, y, u, v) ps = k at *
  have hfl := ins_fl4 hk x y u v
  refine ⟨trivial, trivial, by omega, by unfold allV4; rw [q4A_fl4]; exact ho, hp, ?_⟩
  simp only [brT_ok, Tree.ok, decide_eq_true_eq, decide_eq_false_iff_not, fl4_get0, fl4_get1, fl4_g2, fl4_g3, hfl]
  have lt2 : (List.take (k * 4) (fl4 ps)).length = k * 4 := by rw [List.length_take, fl4_length]; omega
  have lt3 : (List.take (k * 4) (List.take (k * 4) (fl4 ps)) ++ [x, y, u, v]).length = (k + 1) * 4 := by rw [List.length_append, List.length_take, lt2]; simp; omega
  have fin : inQ (x, y, u, v) ps = ps.take k ++ ((x, y, u, v) :: ps.drop k) → RowIs (.slice (some ⟨0, 0, none⟩) (inQ (x, y, u, v) ps).length (inQ (x, y, u, v) ps).length) ⟨.row 52 4, .ints (fl4 (inQ (x, y, u, v) ps))⟩ (.slice (some ⟨6, 0, none⟩) (k + 1 + (ps.length - k)) (k + 1 + (ps.length - k)))
      [some ⟨.row 52 4, .ints (fl4 ps)⟩, some ⟨.box, .vals [.int .i64 x, .int .i64 y, .int .i64 u, .int .i64 v]⟩, some deadB, some deadB, some ⟨.row 52 4, .vals [.int .i64 x, .int .i64 y, .int .i64 u, .int .i64 v]⟩, some deadB, some ⟨.row 52 4, .ints (fl4 (ps.take k ++ ((x, y, u, v) :: ps.drop k)))⟩] := fun e => by
    have l : (inQ (x, y, u, v) ps).length = k + 1 + (ps.length - k) := by rw [e]; simp; omega
    rw [l, e]
    exact ⟨some 6, ⟨rfl, rfl, rfl⟩, rfl, rfl, rfl⟩
  refine ⟨fun hlt => ⟨by omega, by omega, fun g => ?_, fun g => ?_⟩, fun hge => ?_⟩
  · have e : inQ (x, y, u, v) ps = ps := by
      have g : (ps.getD k z4 == (x, y, u, v)) = true := (eq_q4 (ps.getD k z4) (x, y, u, v)).symm.trans g
      rw [hi, if_pos ⟨by omega, beq_iff_eq.1 g⟩]
    rw [e]
    exact ⟨some 0, ⟨rfl, rfl, rfl⟩, rfl, rfl, rfl⟩
  · have e : inQ (x, y, u, v) ps = ps.take k ++ ((x, y, u, v) :: ps.drop k) := by
      rw [hi, if_neg]
      rintro ⟨_, e⟩
      have g : (ps.getD k z4 == (x, y, u, v)) = false := (eq_q4 (ps.getD k z4) (x, y, u, v)).symm.trans g
      exact beq_eq_false_iff_ne.1 g e
    exact ⟨by omega, by omega, by omega, by omega, by omega, by omega, by omega, by omega, by omega, fin e⟩
  · have e : inQ (x, y, u, v) ps = ps.take k ++ ((x, y, u, v) :: ps.drop k) := by
      rw [hi, if_neg]
      rintro ⟨h1, _⟩
      omega
    exact ⟨by omega, by omega, by omega, by omega, by omega, by omega, by omega, by omega, by omega, fin e⟩
/-- The list with a point more, of plain numbers. -/
def inZ (x y u v : Int) (n : Nat) (xs : List Int) : List Q4 := inQ (x, y, u, v) (q4A n xs)
/-- The model's addPoint: it takes over a list. -/
def adqS : OSpec := fun e sz l xs rest => match e, sz, rest with
  | 52, 4, [.agg ⟨[.int .i64 x, .int .i64 y, .int .i64 u, .int .i64 v]⟩] => some (.slice (some ⟨0, 0, none⟩) (inZ x y u v l xs).length (inZ x y u v l xs).length, ⟨.row 52 4, .ints (fl4 (inZ x y u v l xs))⟩, [xs.length = l * 4, l ≤ 1000, allV4 l xs, okB x y u v = true])
  | _, _, _ => none
set_option maxRecDepth 100000 in
theorem adqS_ok : OSpecOk Try.prog 81 adqS := by
  intro e sz l xs rest v b C h hC
  unfold adqS at h
  split at h
  rotate_left
  · cases h
  obtain ⟨rfl, rfl, rfl⟩ : _ ∧ _ ∧ _ := by simpa using h
  obtain ⟨h1, h2, h3, h4, _⟩ := hC
  obtain ⟨ps, rfl, rfl⟩ := four_fl4 h1
  unfold allV4 at h3
  unfold inZ
  rw [q4A_fl4] at h3 ⊢
  exact ⟨rfl, EAq, 30, 12, EAq_ok, adq_row ps _ _ _ _ h2 h3 h4⟩
end Go.Proofs.Ytolodncpegajkaa
