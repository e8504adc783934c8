/-
  Texts that the proof needs, merged. Written by an AI agent.
-/
import Derived.Orders
import Derived.Below
import Derived.OrdersIn
import Derived.Deep.LoopGhost
import Derived.WalkKit
import Derived.Laws.CopyRow
import Derived.Laws.AppendOwn
import Derived.Laws.Slices
import Derived.Laws.MakeOwn
import Derived.Test.YtbfoheblcoakiaaRows
import Derived.ProofKit
import Derived.OpenShut
import Derived.Carry
import Derived.IntWalk
import Derived.Test.YtbfoheblcoakiaaProg
import Derived.WalkSpells
import Derived.WalkLawsBesides
import Derived.Lib.Hide
import Derived.Deep.QuietTactic
import Derived.BigQuiet
import Derived.KernelRfl
import Derived.Deep.RegionHeld3
import Derived.LoopTactic
import Derived.Laws.StructEq
import Derived.Laws.Tables
import Derived.RangeFuncNested
import Derived.RangeFuncLeaves
import Derived.Deep.Slices
import Derived.Deep.Fields
import Derived.ChangeSame
import Derived.Deep.DeepCutAuto
import Derived.Shelf.SlSortCmp.WholeK
import Derived.Sort.Grow
import Derived.Shelf.SlSortCmp.NoneTotal
import Derived.Test.YtbfoheblcoakiaaZHullsApart10
set_option linter.all false
namespace Go.Proofs.Ytbfoheblcoakiaa
open Go.RowKit
def edR (ps : List Pt) (i k : Nat) : Int := relV (ps.getD i (0, 0)).1 (ps.getD i (0, 0)).2 (nxP ps i).1 (nxP ps i).2 (ps.getD k (0, 0)).1 (ps.getD k (0, 0)).2 (nxP ps k).1 (nxP ps k).2
def nbQ (ps : List Pt) (i k : Nat) : Bool := decide (k = i + 1) || decide ((k + 1) % ps.length = i)
def okE (ps : List Pt) (i k : Nat) : Bool := !(decide (i < k)) || (edR ps i k == (bif nbQ ps i k then 1 else 0))
def rowQ (ps : List Pt) (i : Nat) : Bool := allQ (okE ps i) 0 ps.length
def simQ (ps : List Pt) : Bool := allQ (rowQ ps) 0 ps.length
theorem allQ_all {P : Nat → Bool} : ∀ (m i : Nat), (∀ j, i ≤ j → j < i + m → P j = true) → allQ P i m = true
  | 0, _, _ => rfl
  | m + 1, i, h => by
    simp only [allQ, Bool.and_eq_true]
    exact ⟨h i (Nat.le_refl _) (by omega), allQ_all m (i + 1) fun j h1 h2 => h j (by omega) (by omega)⟩
theorem allQ_no {P : Nat → Bool} {n j : Nat} (hj : j < n) (h : P j = false) : allQ P 0 n = false := by
  rw [Bool.eq_false_iff]
  intro hh
  have := allQ_get n 0 hh j (by omega) (by omega)
  rw [h] at this
  cases this
def TIs : Tab := orT T3 TRb
theorem TIs_ok : TabOk Try.prog TIs := orT_ok T3_ok TRb_ok
def EIs : Env := mkE TIs RCe (fun _ => noL)
theorem EIs_ok : EnvOk Try.prog EIs := mkEOk TIs_ok RCe_ok (fun _ _ _ => noL_good)
noncomputable def gcIss : Code := (rangesOf (codeOf Try.f82)).getD 0 .skip
noncomputable def gc_isI : Code := (rangesOf (bodOf gcIss)).getD 0 .skip
def k_isI : Ex → List Nat := keeps [1, 2, 3, 4, 26] [] [2]
def s_isI (ps : List Pt) (j : Nat) : Nat → St := fun i => ⟨(topV :: .pointer (some ⟨1, 0, none⟩) :: .pointer (some ⟨2, 0, none⟩) :: .pointer (some ⟨4, 0, none⟩) :: .pointer (some ⟨5, 0, none⟩) :: ω21 .func (.func 84) #[] #[.pointer (some ⟨6, 0, none⟩)] :: ω25 []), [some ⟨.view, .ints (flat ps)⟩, some ⟨.box, .vals [ß 0 ps.length ps.length]⟩, some ⟨.box, .vals [.bool false]⟩, some ⟨.view, .vals [ß 0 ps.length ps.length]⟩, some ⟨.box, .vals [.int .i64 j]⟩, some ⟨.box, .vals [.int .i64 (ps.getD j (0, 0)).1, .int .i64 (ps.getD j (0, 0)).2, .int .i64 (nxP ps j).1, .int .i64 (nxP ps j).2]⟩, some ⟨.view, .vals [ß 0 ps.length ps.length]⟩]⟩
def g_isI (ps : List Pt) (j : Nat) : Nat → Prop := fun i => i ≤ ps.length ∧ ∀ k, k < i → okE ps j k = true
def re_isI (ps : List Pt) (j : Nat) : Ex := bif rowQ ps j then .normal else .ret
def rs_isI (ps : List Pt) (j : Nat) : St := bif rowQ ps j then ⟨(topV :: topV :: .pointer (some ⟨2, 0, none⟩) :: ω49 []), [some ⟨.view, .ints (flat ps)⟩, some ⟨.box, .vals [ß 0 ps.length ps.length]⟩, some ⟨.box, .vals [.bool false]⟩, some ⟨.view, .vals [ß 0 ps.length ps.length]⟩, some ⟨.box, .vals [.int .i64 j]⟩, some ⟨.box, .vals [.int .i64 (ps.getD j (0, 0)).1, .int .i64 (ps.getD j (0, 0)).2, .int .i64 (nxP ps j).1, .int .i64 (nxP ps j).2]⟩, some ⟨.view, .vals [ß 0 ps.length ps.length]⟩]⟩ else ⟨(topV :: topV :: .pointer (some ⟨2, 0, none⟩) :: ω49 []), [some ⟨.view, .ints (flat ps)⟩, some ⟨.box, .vals [ß 0 ps.length ps.length]⟩, some ⟨.box, .vals [.bool false]⟩, some ⟨.view, .vals [ß 0 ps.length ps.length]⟩, some ⟨.box, .vals [.int .i64 j]⟩, some ⟨.box, .vals [.int .i64 (ps.getD j (0, 0)).1, .int .i64 (ps.getD j (0, 0)).2, .int .i64 (nxP ps j).1, .int .i64 (nxP ps j).2]⟩, some ⟨.view, .vals [ß 0 ps.length ps.length]⟩]⟩
set_option maxRecDepth 100000 in
theorem tr_isI (ps : List Pt) (j : Nat) (i : Nat) : bodyR Try.prog EIs 30 12 noL noR (asgOf gc_isI) (bodOf gc_isI) ([27, 28].zip (encE ps i)) k_isI 7 (s_isI ps j i) = brT ((↑i : Int) == ŵ ((↑j : Int) + 1)) (brT (decide ((↑j : Int) < (↑i : Int))) (brT (!relV (ps.getD j (0, 0)).1 (ps.getD j (0, 0)).2 (nxP ps j).1 (nxP ps j).2 (ps.getD i (0, 0)).1 (ps.getD i (0, 0)).2 (ps.getD ((i + 1) % ps.length) (0, 0)).1 (ps.getD ((i + 1) % ps.length) (0, 0)).2 == 1) (.leaf .ret ⟨(topV :: topV :: .pointer (some ⟨2, 0, none⟩) :: ω49 []), [some ⟨.view, .ints (flat ps)⟩, some ⟨.box, .vals [ß 0 (ps.length) (ps.length)]⟩, some ⟨.box, .vals [.bool (false)]⟩, some ⟨.view, .vals [ß 0 (ps.length) (ps.length)]⟩, some ⟨.box, .vals [.int .i64 ((↑j : Int))]⟩, some ⟨.box, .vals [.int .i64 ((ps.getD j (0, 0)).1), .int .i64 ((ps.getD j (0, 0)).2), .int .i64 ((nxP ps j).1), .int .i64 ((nxP ps j).2)]⟩, some ⟨.view, .vals [ß 0 (ps.length) (ps.length)]⟩]⟩) (.leaf .normal ⟨(topV :: .pointer (some ⟨1, 0, none⟩) :: .pointer (some ⟨2, 0, none⟩) :: .pointer (some ⟨4, 0, none⟩) :: .pointer (some ⟨5, 0, none⟩) :: ω21 .func (Fn.func 84) #[] #[.pointer (some ⟨6, 0, none⟩)] :: ω25 []), [some ⟨.view, .ints (flat ps)⟩, some ⟨.box, .vals [ß 0 (ps.length) (ps.length)]⟩, some ⟨.box, .vals [.bool (false)]⟩, some ⟨.view, .vals [ß 0 (ps.length) (ps.length)]⟩, some ⟨.box, .vals [.int .i64 ((↑j : Int))]⟩, some ⟨.box, .vals [.int .i64 ((ps.getD j (0, 0)).1), .int .i64 ((ps.getD j (0, 0)).2), .int .i64 ((nxP ps j).1), .int .i64 ((nxP ps j).2)]⟩, some ⟨.view, .vals [ß 0 (ps.length) (ps.length)]⟩]⟩)) (.leaf .normal ⟨(topV :: .pointer (some ⟨1, 0, none⟩) :: .pointer (some ⟨2, 0, none⟩) :: .pointer (some ⟨4, 0, none⟩) :: .pointer (some ⟨5, 0, none⟩) :: ω21 .func (Fn.func 84) #[] #[.pointer (some ⟨6, 0, none⟩)] :: ω25 []), [some ⟨.view, .ints (flat ps)⟩, some ⟨.box, .vals [ß 0 (ps.length) (ps.length)]⟩, some ⟨.box, .vals [.bool (false)]⟩, some ⟨.view, .vals [ß 0 (ps.length) (ps.length)]⟩, some ⟨.box, .vals [.int .i64 ((↑j : Int))]⟩, some ⟨.box, .vals [.int .i64 ((ps.getD j (0, 0)).1), .int .i64 ((ps.getD j (0, 0)).2), .int .i64 ((nxP ps j).1), .int .i64 ((nxP ps j).2)]⟩, some ⟨.view, .vals [ß 0 (ps.length) (ps.length)]⟩]⟩)) (.need (¬(↑ps.length : Int) = (0 : Int)) (brT ((ŵ ((↑i : Int) + 1)).tmod (↑ps.length : Int) == (↑j : Int)) (brT (decide ((↑j : Int) < (↑i : Int))) (brT (!relV (ps.getD j (0, 0)).1 (ps.getD j (0, 0)).2 (nxP ps j).1 (nxP ps j).2 (ps.getD i (0, 0)).1 (ps.getD i (0, 0)).2 (ps.getD ((i + 1) % ps.length) (0, 0)).1 (ps.getD ((i + 1) % ps.length) (0, 0)).2 == 1) (.leaf .ret ⟨(topV :: topV :: .pointer (some ⟨2, 0, none⟩) :: ω49 []), [some ⟨.view, .ints (flat ps)⟩, some ⟨.box, .vals [ß 0 (ps.length) (ps.length)]⟩, some ⟨.box, .vals [.bool (false)]⟩, some ⟨.view, .vals [ß 0 (ps.length) (ps.length)]⟩, some ⟨.box, .vals [.int .i64 ((↑j : Int))]⟩, some ⟨.box, .vals [.int .i64 ((ps.getD j (0, 0)).1), .int .i64 ((ps.getD j (0, 0)).2), .int .i64 ((nxP ps j).1), .int .i64 ((nxP ps j).2)]⟩, some ⟨.view, .vals [ß 0 (ps.length) (ps.length)]⟩]⟩) (.leaf .normal ⟨(topV :: .pointer (some ⟨1, 0, none⟩) :: .pointer (some ⟨2, 0, none⟩) :: .pointer (some ⟨4, 0, none⟩) :: .pointer (some ⟨5, 0, none⟩) :: ω21 .func (Fn.func 84) #[] #[.pointer (some ⟨6, 0, none⟩)] :: ω25 []), [some ⟨.view, .ints (flat ps)⟩, some ⟨.box, .vals [ß 0 (ps.length) (ps.length)]⟩, some ⟨.box, .vals [.bool (false)]⟩, some ⟨.view, .vals [ß 0 (ps.length) (ps.length)]⟩, some ⟨.box, .vals [.int .i64 ((↑j : Int))]⟩, some ⟨.box, .vals [.int .i64 ((ps.getD j (0, 0)).1), .int .i64 ((ps.getD j (0, 0)).2), .int .i64 ((nxP ps j).1), .int .i64 ((nxP ps j).2)]⟩, some ⟨.view, .vals [ß 0 (ps.length) (ps.length)]⟩]⟩)) (.leaf .normal ⟨(topV :: .pointer (some ⟨1, 0, none⟩) :: .pointer (some ⟨2, 0, none⟩) :: .pointer (some ⟨4, 0, none⟩) :: .pointer (some ⟨5, 0, none⟩) :: ω21 .func (Fn.func 84) #[] #[.pointer (some ⟨6, 0, none⟩)] :: ω25 []), [some ⟨.view, .ints (flat ps)⟩, some ⟨.box, .vals [ß 0 (ps.length) (ps.length)]⟩, some ⟨.box, .vals [.bool (false)]⟩, some ⟨.view, .vals [ß 0 (ps.length) (ps.length)]⟩, some ⟨.box, .vals [.int .i64 ((↑j : Int))]⟩, some ⟨.box, .vals [.int .i64 ((ps.getD j (0, 0)).1), .int .i64 ((ps.getD j (0, 0)).2), .int .i64 ((nxP ps j).1), .int .i64 ((nxP ps j).2)]⟩, some ⟨.view, .vals [ß 0 (ps.length) (ps.length)]⟩]⟩)) (brT (decide ((↑j : Int) < (↑i : Int))) (brT (!relV (ps.getD j (0, 0)).1 (ps.getD j (0, 0)).2 (nxP ps j).1 (nxP ps j).2 (ps.getD i (0, 0)).1 (ps.getD i (0, 0)).2 (ps.getD ((i + 1) % ps.length) (0, 0)).1 (ps.getD ((i + 1) % ps.length) (0, 0)).2 == 0) (.leaf .ret ⟨(topV :: topV :: .pointer (some ⟨2, 0, none⟩) :: ω49 []), [some ⟨.view, .ints (flat ps)⟩, some ⟨.box, .vals [ß 0 (ps.length) (ps.length)]⟩, some ⟨.box, .vals [.bool (false)]⟩, some ⟨.view, .vals [ß 0 (ps.length) (ps.length)]⟩, some ⟨.box, .vals [.int .i64 ((↑j : Int))]⟩, some ⟨.box, .vals [.int .i64 ((ps.getD j (0, 0)).1), .int .i64 ((ps.getD j (0, 0)).2), .int .i64 ((nxP ps j).1), .int .i64 ((nxP ps j).2)]⟩, some ⟨.view, .vals [ß 0 (ps.length) (ps.length)]⟩]⟩) (.leaf .normal ⟨(topV :: .pointer (some ⟨1, 0, none⟩) :: .pointer (some ⟨2, 0, none⟩) :: .pointer (some ⟨4, 0, none⟩) :: .pointer (some ⟨5, 0, none⟩) :: ω21 .func (Fn.func 84) #[] #[.pointer (some ⟨6, 0, none⟩)] :: ω25 []), [some ⟨.view, .ints (flat ps)⟩, some ⟨.box, .vals [ß 0 (ps.length) (ps.length)]⟩, some ⟨.box, .vals [.bool (false)]⟩, some ⟨.view, .vals [ß 0 (ps.length) (ps.length)]⟩, some ⟨.box, .vals [.int .i64 ((↑j : Int))]⟩, some ⟨.box, .vals [.int .i64 ((ps.getD j (0, 0)).1), .int .i64 ((ps.getD j (0, 0)).2), .int .i64 ((nxP ps j).1), .int .i64 ((nxP ps j).2)]⟩, some ⟨.view, .vals [ß 0 (ps.length) (ps.length)]⟩]⟩)) (.leaf .normal ⟨(topV :: .pointer (some ⟨1, 0, none⟩) :: .pointer (some ⟨2, 0, none⟩) :: .pointer (some ⟨4, 0, none⟩) :: .pointer (some ⟨5, 0, none⟩) :: ω21 .func (Fn.func 84) #[] #[.pointer (some ⟨6, 0, none⟩)] :: ω25 []), [some ⟨.view, .ints (flat ps)⟩, some ⟨.box, .vals [ß 0 (ps.length) (ps.length)]⟩, some ⟨.box, .vals [.bool (false)]⟩, some ⟨.view, .vals [ß 0 (ps.length) (ps.length)]⟩, some ⟨.box, .vals [.int .i64 ((↑j : Int))]⟩, some ⟨.box, .vals [.int .i64 ((ps.getD j (0, 0)).1), .int .i64 ((ps.getD j (0, 0)).2), .int .i64 ((nxP ps j).1), .int .i64 ((nxP ps j).2)]⟩, some ⟨.view, .vals [ß 0 (ps.length) (ps.length)]⟩]⟩)))) := by kernel_rfl
def Round_isI (ps : List Pt) (j : Nat) : Prop := ∀ i : Nat, g_isI ps j i → i < (ps).length → (bodyR Try.prog EIs 30 12 noL noR (asgOf gc_isI) (bodOf gc_isI) ([27, 28].zip (encE ps i)) k_isI 7 (s_isI ps j i)).ok (RoundEndR 7 (s_isI ps j) (g_isI ps j) (re_isI ps j) (rs_isI ps j) i) (fun _ _ => False)
set_option maxRecDepth 100000 in
theorem gcode_isI : gc_isI = .rangeFunc (.tmp 26) ([27, 28] : List Nat).toArray (asgOf gc_isI) (bodOf gc_isI) := by kernel_rfl
def e_isI (s : St) (k : Ex → St → Tree) : Option Tree := match Nat.beq s.tmps.length 52, pickL s.tmps [1, 2, 3, 4, 26], s.mem with
  | true, [.pointer (some ⟨1, 0, none⟩), .pointer (some ⟨2, 0, none⟩), .pointer (some ⟨4, 0, none⟩), .pointer (some ⟨5, 0, none⟩), .func (.func 84) ⟨[]⟩ ⟨[.pointer (some ⟨6, 0, none⟩)]⟩], [some ⟨.view, .ints xs⟩, some ⟨.box, .vals [ß 0 n _]⟩, some ⟨.box, .vals [.bool false]⟩, some ⟨.view, .vals [ß 0 n1 _]⟩, some ⟨.box, .vals [.int .i64 jj]⟩, some ⟨.box, .vals [.int .i64 a, .int .i64 b, .int .i64 c, .int .i64 d]⟩, some ⟨.box, .vals [ß 0 n2 _]⟩] => some (needs [n1 = n, n2 = n, 0 ≤ jj, xs.length = n * 2, n ≤ 20, jj < n, a = ((ptsA n xs).getD jj.toNat (0, 0)).1 ∧ b = ((ptsA n xs).getD jj.toNat (0, 0)).2 ∧ c = (nxP (ptsA n xs) jj.toNat).1 ∧ d = (nxP (ptsA n xs) jj.toNat).2] (brT (rowQ (ptsA n xs) jj.toNat) (k .normal ⟨(topV :: topV :: .pointer (some ⟨2, 0, none⟩) :: ω49 []), [some ⟨.view, .ints xs⟩, some ⟨.box, .vals [ß 0 n n]⟩, some ⟨.box, .vals [.bool false]⟩, some ⟨.view, .vals [ß 0 n n]⟩, some ⟨.box, .vals [.int .i64 jj]⟩, some ⟨.box, .vals [.int .i64 a, .int .i64 b, .int .i64 c, .int .i64 d]⟩, some ⟨.view, .vals [ß 0 n n]⟩]⟩) (k .ret ⟨(topV :: topV :: .pointer (some ⟨2, 0, none⟩) :: ω49 []), [some ⟨.view, .ints xs⟩, some ⟨.box, .vals [ß 0 n n]⟩, some ⟨.box, .vals [.bool false]⟩, some ⟨.view, .vals [ß 0 n n]⟩, some ⟨.box, .vals [.int .i64 jj]⟩, some ⟨.box, .vals [.int .i64 a, .int .i64 b, .int .i64 c, .int .i64 d]⟩, some ⟨.view, .vals [ß 0 n n]⟩]⟩)))
  | _, _, _ => none
set_option maxRecDepth 100000 in
theorem round_isI (ps : List Pt) (j : Nat) (h : ps.length ≤ 20) (hj : j < ps.length) : Round_isI ps j := by
  rintro i ⟨_, hg⟩ hi
  rw [tr_isI]
  have e1 : ŵ ((j : Int) + 1) = (j : Int) + 1 := by rw [wsucc hj (by omega)]; omega
  have c1 : ((i : Int) == (j : Int) + 1) = decide (i = j + 1) := by rw [Bool.eq_iff_iff]; simp; omega
  have c2 : decide ((j : Int) < (i : Int)) = decide (j < i) := decide_eq_decide.2 (by omega)
  have c3 : ((((i + 1) % ps.length : Nat) : Int) == (j : Int)) = decide ((i + 1) % ps.length = j) := by
    generalize (i + 1) % ps.length = m
    rw [Bool.eq_iff_iff]
    simp
    omega
  have hR : relV (ps.getD j (0, 0)).1 (ps.getD j (0, 0)).2 (nxP ps j).1 (nxP ps j).2 (ps.getD i (0, 0)).1 (ps.getD i (0, 0)).2 (ps.getD ((i + 1) % ps.length) (0, 0)).1 (ps.getD ((i + 1) % ps.length) (0, 0)).2 = edR ps j i := rfl
  have nxt : okE ps j i = true → g_isI ps j (i + 1) := fun ho => ⟨by omega, fun k hk => by
    rcases Nat.lt_or_ge k i with h1 | h1
    · exact hg k h1
    · obtain rfl : k = i := by omega
      exact ho⟩
  have stp : okE ps j i = false → rowQ ps j = false := allQ_no hi
  have n0 : ¬ (ps.length : Int) = 0 := by omega
  simp only [e1, c1, c2, c3, hR, nx_mod hi (by omega)]
  rcases q1 : decide (i = j + 1) with _ | _ <;> rcases q2 : decide (j < i) with _ | _ <;> rcases q3 : decide ((i + 1) % ps.length = j) with _ | _ <;> rcases q4 : (edR ps j i == 1) with _ | _ <;> rcases q5 : (edR ps j i == 0) with _ | _
  all_goals
    simp only [brT_t, brT_f, Bool.not_true, Bool.not_false, Tree.ok, RoundEndR]
    try refine ⟨n0, ?_⟩
    first
      | (have ho : okE ps j i = true := by unfold okE nbQ; rw [q1, q2, q3]; simp [q4, q5]
         refine ⟨nxt ho, [], ?_⟩
         refine ⟨rfl, rfl, ?_, ?_⟩ <;> repeat' (first | exact True.intro | exact rfl | exact wv_top _ _ | exact fun _ => rfl | refine And.intro ?_ ?_))
      | (have ho : okE ps j i = false := by unfold okE nbQ; rw [q1, q2, q3]; simp [q4, q5]
         have hq := stp ho
         refine ⟨by unfold re_isI; rw [hq]; rfl, [], ?_⟩
         unfold rs_isI
         rw [hq]
         refine ⟨rfl, rfl, ?_, ?_⟩ <;> repeat' (first | exact True.intro | exact rfl | exact wv_top _ _ | exact fun _ => rfl | refine And.intro ?_ ?_))
set_option maxRecDepth 100000 in
theorem lg_isI : RangeE Try.prog e_isI gc_isI := by
  intro s k t F H hlt ht
  unfold e_isI at hlt
  split at hlt
  rotate_left
  · cases hlt
  rename_i hlen hpick hmem
  obtain ⟨tmps, mem⟩ := s
  simp only at hlen hpick hmem
  subst hmem
  obtain rfl := Option.some.inj hlt
  obtain ⟨⟨rfl, rfl, h4, h1, h3, h5, h6, _⟩, ht2⟩ := needs_ok ht
  clear ht hlt
  obtain ⟨ps, rfl, rfl⟩ := even_flat h1
  obtain ⟨j, rfl⟩ := Int.eq_ofNat_of_zero_le h4
  rw [ptsA_flat] at ht2 h6
  simp only [Int.toNat_natCast] at ht2 h6
  obtain ⟨rfl, rfl, rfl, rfl⟩ := h6
  refine ⟨re_isI ps j, rs_isI ps j, pick2k ht2, ?_⟩
  rw [gcode_isI]
  refine range_det (enc := encE ps) (len := (ps).length) (St_of := s_isI ps j) (Good := g_isI ps j) (N := 7) (M := 7) (Kn := [0, 6]) (cap := [.pointer (some ⟨6, 0, none⟩)]) (kf := (k_isI .normal)) (π := []) (fun _ => rfl) (fun _ => rfl) (fun i hg hlt => bodyR_ok mixed EIs_ok (noL_good) (noR_good) (round_isI ps j h3 (by omega) i hg hlt)) (entersB_res (by kernel_rfl)).1 rfl ?_ (fun ρ0 ρ B w lb h1 h2 => ed_iter ps (by omega) (s := (s_isI ps j 0).fs) (nb := 6) (nr := 0) (c := (ps).length) (Kn := [0, 6]) rfl rfl (by decide) (by decide) ρ0 ρ B w lb h1 h2) ?_ rfl (by decide) ?_ ⟨Nat.zero_le _, fun k hk => by omega⟩
  · intro n hn b hb
    simp only [List.mem_cons, List.not_mem_nil, or_false] at hn
    rcases hn with rfl | rfl <;> (obtain rfl := Option.some.inj hb; rfl)
  · rintro ⟨_, hg⟩
    have hq : rowQ ps j = true := allQ_all _ _ fun k _ h2 => hg k (by omega)
    refine ⟨by unfold re_isI; rw [hq]; rfl, [], ?_⟩
    unfold rs_isI
    rw [hq]
    refine ⟨rfl, rfl, ?_, ?_⟩ <;> repeat' (first | exact True.intro | exact rfl | exact wv_top _ _ | exact fun _ => rfl | refine And.intro ?_ ?_)
  · refine ⟨rfl, rfl, ?_, wvs_spread' [1, 2, 3, 4, 26] hlen rfl ?_⟩
    · repeat' (first | exact True.intro | exact rfl | exact wv_top _ _ | exact fun _ => rfl | assumption | exact Eq.symm (by assumption) | exact vI0 rfl | refine And.intro ?_ ?_)
    · rw [show pickL (viewS [0, 6] ⟨tmps, _⟩).tmps [1, 2, 3, 4, 26] = pickL tmps [1, 2, 3, 4, 26] from rfl, hpick]
      repeat' (first | exact True.intro | exact rfl | exact wv_top _ _ | exact fun _ => rfl | assumption | exact Eq.symm (by assumption) | exact vI0 rfl | refine And.intro ?_ ?_)
noncomputable def gc_isO : Code := gcIss
def k_isO : Ex → List Nat := keeps [1, 2, 22] [] [2]
def s_isO (ps : List Pt) : Nat → St := fun i => ⟨(topV :: .pointer (some ⟨1, 0, none⟩) :: .pointer (some ⟨2, 0, none⟩) :: ω19 .func (.func 84) #[] #[.pointer (some ⟨3, 0, none⟩)] :: ω29 []), [some ⟨.view, .ints (flat ps)⟩, some ⟨.box, .vals [ß 0 ps.length ps.length]⟩, some ⟨.box, .vals [.bool false]⟩, some ⟨.view, .vals [ß 0 ps.length ps.length]⟩]⟩
def g_isO (ps : List Pt) : Nat → Prop := fun i => i ≤ ps.length ∧ ∀ k, k < i → rowQ ps k = true
def re_isO (ps : List Pt) : Ex := bif simQ ps then .normal else .ret
def rs_isO (ps : List Pt) : St := bif simQ ps then ⟨(topV :: topV :: .pointer (some ⟨2, 0, none⟩) :: ω49 []), [some ⟨.view, .ints (flat ps)⟩, some ⟨.box, .vals [ß 0 ps.length ps.length]⟩, some ⟨.box, .vals [.bool false]⟩, some ⟨.view, .vals [ß 0 ps.length ps.length]⟩]⟩ else ⟨(topV :: topV :: .pointer (some ⟨2, 0, none⟩) :: ω49 []), [some ⟨.view, .ints (flat ps)⟩, some ⟨.box, .vals [ß 0 ps.length ps.length]⟩, some ⟨.box, .vals [.bool false]⟩, some ⟨.view, .vals [ß 0 ps.length ps.length]⟩]⟩
set_option maxRecDepth 100000 in
theorem tr_isO (ps : List Pt) (i : Nat) : bodyR Try.prog EIs 30 12 noL (rt1 26 e_isI) (asgOf gc_isO) (bodOf gc_isO) ([23, 24].zip (encE ps i)) k_isO 4 (s_isO ps i) = .need (ps.length = ps.length) (.need (ps.length = ps.length) (.need ((0 : Int) ≤ (↑i : Int)) (.need ((flat ps).length = ps.length * (2 : Nat)) (.need (ps.length ≤ (20 : Nat)) (.need ((↑i : Int) < (↑ps.length : Int)) (.need ((ps.getD i ((0 : Int), (0 : Int))).1 = ((ptsA ps.length (flat ps)).getD (↑i : Int).toNat ((0 : Int), (0 : Int))).1 ∧ (ps.getD i ((0 : Int), (0 : Int))).2 = ((ptsA ps.length (flat ps)).getD (↑i : Int).toNat ((0 : Int), (0 : Int))).2 ∧ (ps.getD ((i + (1 : Nat)) % ps.length) ((0 : Int), (0 : Int))).1 = (nxP (ptsA ps.length (flat ps)) (↑i : Int).toNat).1 ∧ (ps.getD ((i + (1 : Nat)) % ps.length) ((0 : Int), (0 : Int))).2 = (nxP (ptsA ps.length (flat ps)) (↑i : Int).toNat).2) (brT (rowQ (ptsA ps.length (flat ps)) (↑i : Int).toNat) (.leaf .normal ⟨(topV :: .pointer (some ⟨1, 0, none⟩) :: .pointer (some ⟨2, 0, none⟩) :: ω19 .func (Fn.func 84) #[] #[.pointer (some ⟨3, 0, none⟩)] :: ω29 []), [some ⟨.view, .ints (flat ps)⟩, some ⟨.box, .vals [ß 0 (ps.length) (ps.length)]⟩, some ⟨.box, .vals [.bool (false)]⟩, some ⟨.view, .vals [ß 0 (ps.length) (ps.length)]⟩]⟩) (.leaf .ret ⟨(topV :: topV :: .pointer (some ⟨2, 0, none⟩) :: ω49 []), [some ⟨.view, .ints (flat ps)⟩, some ⟨.box, .vals [ß 0 (ps.length) (ps.length)]⟩, some ⟨.box, .vals [.bool (false)]⟩, some ⟨.view, .vals [ß 0 (ps.length) (ps.length)]⟩]⟩)))))))) := by kernel_rfl
def Round_isO (ps : List Pt) : Prop := ∀ i : Nat, g_isO ps i → i < (ps).length → (bodyR Try.prog EIs 30 12 noL (rt1 26 e_isI) (asgOf gc_isO) (bodOf gc_isO) ([23, 24].zip (encE ps i)) k_isO 4 (s_isO ps i)).ok (RoundEndR 4 (s_isO ps) (g_isO ps) (re_isO ps) (rs_isO ps) i) (fun _ _ => False)
set_option maxRecDepth 100000 in
theorem gcode_isO : gc_isO = .rangeFunc (.tmp 22) ([23, 24] : List Nat).toArray (asgOf gc_isO) (bodOf gc_isO) := by kernel_rfl
def e_isO (s : St) (k : Ex → St → Tree) : Option Tree := match Nat.beq s.tmps.length 52, pickL s.tmps [1, 2, 22], s.mem with
  | true, [.pointer (some ⟨1, 0, none⟩), .pointer (some ⟨2, 0, none⟩), .func (.func 84) ⟨[]⟩ ⟨[.pointer (some ⟨3, 0, none⟩)]⟩], [some ⟨.view, .ints xs⟩, some ⟨.box, .vals [ß 0 n _]⟩, some ⟨.box, .vals [.bool false]⟩, some ⟨.box, .vals [ß 0 n1 _]⟩] => some (needs [n1 = n, xs.length = n * 2, n ≤ 20] (brT (simQ (ptsA n xs)) (k .normal ⟨(topV :: topV :: .pointer (some ⟨2, 0, none⟩) :: ω49 []), [some ⟨.view, .ints xs⟩, some ⟨.box, .vals [ß 0 n n]⟩, some ⟨.box, .vals [.bool false]⟩, some ⟨.view, .vals [ß 0 n n]⟩]⟩) (k .ret ⟨(topV :: topV :: .pointer (some ⟨2, 0, none⟩) :: ω49 []), [some ⟨.view, .ints xs⟩, some ⟨.box, .vals [ß 0 n n]⟩, some ⟨.box, .vals [.bool false]⟩, some ⟨.view, .vals [ß 0 n n]⟩]⟩)))
  | _, _, _ => none
set_option maxRecDepth 100000 in
theorem round_isO (ps : List Pt) (h : ps.length ≤ 20) : Round_isO ps := by
  rintro i ⟨_, hg⟩ hi
  rw [tr_isO]
  simp only [ptsA_flat, Int.toNat_natCast]
  refine ⟨by first | exact True.intro | rfl, by first | exact True.intro | rfl, by omega, flat_length ps, h, by omega, ⟨by first | exact True.intro | rfl, by first | exact True.intro | rfl, rfl, rfl⟩, ?_⟩
  refine brT_ok.2 ⟨fun hq => ?_, fun hq => ?_⟩
  · refine ⟨⟨by omega, fun k hk => ?_⟩, [], ?_⟩
    · rcases Nat.lt_or_ge k i with h1 | h1
      · exact hg k h1
      · obtain rfl : k = i := by omega
        exact hq
    · refine ⟨rfl, rfl, ?_, ?_⟩ <;> repeat' (first | exact True.intro | exact rfl | exact wv_top _ _ | exact fun _ => rfl | refine And.intro ?_ ?_)
  · have hs : simQ ps = false := allQ_no hi hq
    refine ⟨by unfold re_isO; rw [hs]; rfl, [], ?_⟩
    unfold rs_isO
    rw [hs]
    refine ⟨rfl, rfl, ?_, ?_⟩ <;> repeat' (first | exact True.intro | exact rfl | exact wv_top _ _ | exact fun _ => rfl | refine And.intro ?_ ?_)
set_option maxRecDepth 100000 in
theorem lg_isO : RangeE Try.prog e_isO gc_isO := by
  intro s k t F H hlt ht
  unfold e_isO at hlt
  split at hlt
  rotate_left
  · cases hlt
  rename_i hlen hpick hmem
  obtain ⟨tmps, mem⟩ := s
  simp only at hlen hpick hmem
  subst hmem
  obtain rfl := Option.some.inj hlt
  obtain ⟨⟨rfl, h1, h3, _⟩, ht2⟩ := needs_ok ht
  clear ht hlt
  obtain ⟨ps, rfl, rfl⟩ := even_flat h1
  rw [ptsA_flat] at ht2
  refine ⟨re_isO ps, rs_isO ps, pick2k ht2, ?_⟩
  rw [gcode_isO]
  refine range_det (enc := encE ps) (len := (ps).length) (St_of := s_isO ps) (Good := g_isO ps) (N := 4) (M := 4) (Kn := [0, 3]) (cap := [.pointer (some ⟨3, 0, none⟩)]) (kf := (k_isO .normal)) (π := []) (fun _ => rfl) (fun _ => rfl) (fun i hg hlt => bodyR_ok mixed EIs_ok (noL_good) (rt1_good (by kernel_rfl) lg_isI) (round_isO ps h3 i hg hlt)) (entersB_res (by kernel_rfl)).1 rfl ?_ (fun ρ0 ρ B w lb h1 h2 => ed_iter ps (by omega) (s := (s_isO ps 0).fs) (nb := 3) (nr := 0) (c := (ps).length) (Kn := [0, 3]) rfl rfl (by decide) (by decide) ρ0 ρ B w lb h1 h2) ?_ rfl (by decide) ?_ ⟨Nat.zero_le _, fun k hk => by omega⟩
  · intro n hn b hb
    simp only [List.mem_cons, List.not_mem_nil, or_false] at hn
    rcases hn with rfl | rfl <;> (obtain rfl := Option.some.inj hb; rfl)
  · rintro ⟨_, hg⟩
    have hq : simQ ps = true := allQ_all _ _ fun k _ h2 => hg k (by omega)
    refine ⟨by unfold re_isO; rw [hq]; rfl, [], ?_⟩
    unfold rs_isO
    rw [hq]
    refine ⟨rfl, rfl, ?_, ?_⟩ <;> repeat' (first | exact True.intro | exact rfl | exact wv_top _ _ | exact fun _ => rfl | refine And.intro ?_ ?_)
  · refine ⟨rfl, rfl, ?_, wvs_spread' [1, 2, 22] hlen rfl ?_⟩
    · repeat' (first | exact True.intro | exact rfl | exact wv_top _ _ | exact fun _ => rfl | assumption | exact Eq.symm (by assumption) | exact vI0 rfl | refine And.intro ?_ ?_)
    · rw [show pickL (viewS [0, 3] ⟨tmps, _⟩).tmps [1, 2, 22] = pickL tmps [1, 2, 22] from rfl, hpick]
      repeat' (first | exact True.intro | exact rfl | exact wv_top _ _ | exact fun _ => rfl | assumption | exact Eq.symm (by assumption) | exact vI0 rfl | refine And.intro ?_ ?_)
theorem Gr_isO {fn : Func} (hf : Try.prog.funcs[82]? = some fn) : RangesGood Try.prog (rt1 22 e_isO) (codeOf fn) := by
  obtain rfl := fn_is Try.func82 hf
  exact rt1_good (by kernel_rfl) lg_isO
def GIs : FuncId → RT := fun f => match f with
  | 82 => rt1 22 e_isO
  | _ => noR
def EIo : Env := withG EIs GIs
theorem EIo_ok : EnvOk Try.prog EIo := withG_ok EIs_ok (by
  intro f fn hf
  unfold GIs
  split
  all_goals first | with_reducible exact Gr_isO hf | exact noR_good)
set_option maxRecDepth 100000 in
theorem tr_iIss (ps : List Pt) : bodyV Try.prog EIo 30 12 82 [.row ps.length (.ints (flat ps))] = brT (decide ((↑ps.length : Int) < 3)) (.fin (.bool (false)) []) (brT (decide (20 < (↑ps.length : Int))) (.fin (.bool (false)) []) (brT (decide ((↑ps.length : Int) ≤ 20)) (.need (ps.length * (2 : Nat) ≤ (List.drop 0 (flat ps)).length) (.need (ps.length ≤ (1000000000 : Nat)) (brT (!allV (ptsA ps.length (List.drop 0 (flat ps)))) (.fin (.bool (false)) []) (.need (ps.length = ps.length) (.need ((flat ps).length = ps.length * (2 : Nat)) (.need (ps.length ≤ (20 : Nat)) (brT (simQ (ptsA ps.length (flat ps))) (.fin (.bool (true)) []) (.fin (.bool (false)) [])))))))) (.fin (.bool (false)) []))) := by kernel_rfl
def issI (ps : List Pt) : Bool := decide (3 ≤ ps.length) && okL ps && simQ ps
theorem res_iIss (ps : List Pt) (h : Big ps) : Res Try.prog 82 [.row ps.length (.ints (flat ps))] (.bool (issI ps)) := by
  refine bodyV_res mixed EIo_ok (m := 30) (n := 12) rfl ?_
  rw [tr_iIss]
  unfold Big at h
  simp only [List.drop_zero, ptsA_flat, flat_length]
  unfold issI okL
  by_cases h1 : 3 ≤ ps.length
  · by_cases h2 : ps.length ≤ 20
    · have a1 : ¬ (ps.length : Int) < 3 := by omega
      have a2 : ¬ (20 : Int) < ps.length := by omega
      have a3 : (ps.length : Int) ≤ 20 := by omega
      rcases hv : allV ps with _ | _ <;> rcases hs : simQ ps with _ | _ <;> simp [brT_ok, Tree.ok, h1, h2, a1, a2, a3, h]
    · have a1 : ¬ (ps.length : Int) < 3 := by omega
      have a2 : (20 : Int) < ps.length := by omega
      simp [brT_ok, Tree.ok, h2, a1, a2]
  · have a1 : (ps.length : Int) < 3 := by omega
    simp [brT_ok, Tree.ok, h1, a1]
def TIt : Tab := fun f ds => match f with
  | f => TIs f ds
theorem TIt_ok : TabOk Try.prog TIt := by
  intro f ds v C h hC
  unfold TIt at h
  (try split at h)
  all_goals first | with_reducible exact pRng_ok h hC | exact TIs_ok _ _ _ _ h hC
def edX (ps : List Pt) (i k : Nat) : Int := relA (ps.getD i (0, 0)).1 (ps.getD i (0, 0)).2 (nxP ps i).1 (nxP ps i).2 (ps.getD k (0, 0)).1 (ps.getD k (0, 0)).2 (nxP ps k).1 (nxP ps k).2
theorem pt_get {ps : List Pt} (h : allV ps = true) {j : Nat} (hj : j < ps.length) : ptB (ps.getD j (0, 0)).1 (ps.getD j (0, 0)).2 = true := List.all_eq_true.1 h (ps.getD j (0, 0)) (by simp [hj])
def sgQ (ps : List Pt) (i : Nat) : Bool := segB (ps.getD i (0, 0)).1 (ps.getD i (0, 0)).2 (nxP ps i).1 (nxP ps i).2
theorem edR_is (ps : List Pt) (i k : Nat) : edR ps i k = bif sgQ ps i && sgQ ps k then edX ps i k else -1 := rfl
theorem sgQ_iff {ps : List Pt} (h : allV ps = true) {i : Nat} (hi : i < ps.length) : sgQ ps i = true ↔ ps.getD i (0, 0) ≠ nxP ps i := by
  unfold sgQ segB
  have h1 := pt_get h hi
  have h2 : ptB (nxP ps i).1 (nxP ps i).2 = true := pt_get h (nx_lt hi)
  rw [h1, h2]
  simp only [eqB, Bool.true_and, Bool.not_eq_true', ne_eq]
  generalize ps.getD i (0, 0) = p
  generalize nxP ps i = q
  obtain ⟨a, b⟩ := p
  obtain ⟨c, d⟩ := q
  simp
def pIss : List DArg → Option (Value × List Prop)
  | [.row m (.ints xs)] => some (.bool (issI (ptsA m xs)), [m * 2 ≤ xs.length, m ≤ 1000000000])
  | _ => none
theorem pIss_i {ds : List DArg} {v : Value} {C : List Prop} (h : pIss ds = some (v, C)) (hC : AllP C) : Res Try.prog 82 ds v := by
  unfold pIss at h
  split at h
  · rename_i m xs
    obtain ⟨rfl, rfl⟩ : _ ∧ _ := by simpa using h
    obtain ⟨_, h2⟩ := ptsA_spec hC.1
    exact res_pts1 (pre := []) (post := []) hC.1 (res_iIss (ptsA m xs) (by unfold Big; rw [h2]; exact hC.2.1))
  · cases h
def TSm : Tab := fun f ds => match f with
  | 82 => pIss ds
  | f => TIt f ds
theorem TSm_ok : TabOk Try.prog TSm := by
  intro f ds v C h hC
  unfold TSm at h
  (try split at h)
  all_goals first | with_reducible exact pIss_i h hC | with_reducible exact pIss_s h hC | exact TIt_ok _ _ _ _ h hC
def nx2 (ps : List Pt) (j : Nat) : Pt := ps.getD ((j + 2) % ps.length) (0, 0)
def cvE (ps : List Pt) (j : Nat) : Bool := decide (0 < crossI (ps.getD j (0, 0)).1 (ps.getD j (0, 0)).2 (nxP ps j).1 (nxP ps j).2 (nx2 ps j).1 (nx2 ps j).2)
def cvA (ps : List Pt) : Bool := allQ (cvE ps) 0 ps.length
def cvxI (ps : List Pt) : Bool := issI ps && cvA ps
def ECv : Env := mkE TSm R4 (fun _ => noL)
theorem ECv_ok : EnvOk Try.prog ECv := mkEOk TSm_ok R4_ok (fun _ _ _ => noL_good)
noncomputable def gc_cvx : Code := (rangesOf (codeOf Try.f53)).getD 0 .skip
def k_cvx : Ex → List Nat := keeps [1, 2, 9] [] [2]
def s_cvx (ps : List Pt) : Nat → St := fun i => ⟨(topV :: .pointer (some ⟨1, 0, none⟩) :: .pointer (some ⟨2, 0, none⟩) :: ω6 .func (.func 84) #[] #[.pointer (some ⟨3, 0, none⟩)] :: ω16 []), [some ⟨.view, .ints (flat ps)⟩, some ⟨.box, .vals [ß 0 ps.length ps.length]⟩, some ⟨.box, .vals [.bool false]⟩, some ⟨.view, .vals [ß 0 ps.length ps.length]⟩]⟩
def g_cvx (ps : List Pt) : Nat → Prop := fun i => i ≤ ps.length ∧ ∀ k, k < i → cvE ps k = true
def re_cvx (ps : List Pt) : Ex := bif cvA ps then .normal else .ret
def rs_cvx (ps : List Pt) : St := bif cvA ps then ⟨(topV :: topV :: .pointer (some ⟨2, 0, none⟩) :: ω23 []), [some ⟨.view, .ints (flat ps)⟩, some ⟨.box, .vals [ß 0 ps.length ps.length]⟩, some ⟨.box, .vals [.bool false]⟩, some ⟨.view, .vals [ß 0 ps.length ps.length]⟩]⟩ else ⟨(topV :: topV :: .pointer (some ⟨2, 0, none⟩) :: ω23 []), [some ⟨.view, .ints (flat ps)⟩, some ⟨.box, .vals [ß 0 ps.length ps.length]⟩, some ⟨.box, .vals [.bool false]⟩, some ⟨.view, .vals [ß 0 ps.length ps.length]⟩]⟩
set_option maxRecDepth 100000 in
theorem tr_cvx (ps : List Pt) (i : Nat) : bodyR Try.prog ECv 30 12 noL noR (asgOf gc_cvx) (bodOf gc_cvx) ([10, 11].zip (encE ps i)) k_cvx 4 (s_cvx ps i) = .need (ptB (ps.getD i ((0 : Int), (0 : Int))).1 (ps.getD i ((0 : Int), (0 : Int))).2 = true) (.need (ptB (ps.getD ((i + (1 : Nat)) % ps.length) ((0 : Int), (0 : Int))).1 (ps.getD ((i + (1 : Nat)) % ps.length) ((0 : Int), (0 : Int))).2 = true) (.need (ptB ((flat ps).getD ((0 : Nat) + ((ŵ ((↑i : Int) + (2 : Int))).tmod (↑ps.length : Int)).toNat * (2 : Nat)) (0 : Int)) ((flat ps).getD ((0 : Nat) + ((ŵ ((↑i : Int) + (2 : Int))).tmod (↑ps.length : Int)).toNat * (2 : Nat) + (1 : Nat)) (0 : Int)) = true) (.need (¬(↑ps.length : Int) = (0 : Int)) (.need ((0 : Int) ≤ (ŵ ((↑i : Int) + (2 : Int))).tmod (↑ps.length : Int) ∧ (ŵ ((↑i : Int) + (2 : Int))).tmod (↑ps.length : Int) < (↑ps.length : Int)) (.need ((0 : Nat) + ((ŵ ((↑i : Int) + (2 : Int))).tmod (↑ps.length : Int)).toNat * (2 : Nat) + (2 : Nat) ≤ (flat ps).length) (brT (decide (crossI (ps.getD i (0, 0)).1 (ps.getD i (0, 0)).2 (ps.getD ((i + 1) % ps.length) (0, 0)).1 (ps.getD ((i + 1) % ps.length) (0, 0)).2 ((flat ps).getD (0 + ((ŵ ((↑i : Int) + 2)).tmod (↑ps.length : Int)).toNat * 2) 0) ((flat ps).getD (0 + ((ŵ ((↑i : Int) + 2)).tmod (↑ps.length : Int)).toNat * 2 + 1) 0) ≤ 0)) (.leaf .ret ⟨(topV :: topV :: .pointer (some ⟨2, 0, none⟩) :: ω23 []), [some ⟨.view, .ints (flat ps)⟩, some ⟨.box, .vals [ß 0 (ps.length) (ps.length)]⟩, some ⟨.box, .vals [.bool (false)]⟩, some ⟨.view, .vals [ß 0 (ps.length) (ps.length)]⟩]⟩) (.leaf .normal ⟨(topV :: .pointer (some ⟨1, 0, none⟩) :: .pointer (some ⟨2, 0, none⟩) :: ω6 .func (Fn.func 84) #[] #[.pointer (some ⟨3, 0, none⟩)] :: ω16 []), [some ⟨.view, .ints (flat ps)⟩, some ⟨.box, .vals [ß 0 (ps.length) (ps.length)]⟩, some ⟨.box, .vals [.bool (false)]⟩, some ⟨.view, .vals [ß 0 (ps.length) (ps.length)]⟩]⟩))))))) := by kernel_rfl
def Round_cvx (ps : List Pt) : Prop := ∀ i : Nat, g_cvx ps i → i < (ps).length → (bodyR Try.prog ECv 30 12 noL noR (asgOf gc_cvx) (bodOf gc_cvx) ([10, 11].zip (encE ps i)) k_cvx 4 (s_cvx ps i)).ok (RoundEndR 4 (s_cvx ps) (g_cvx ps) (re_cvx ps) (rs_cvx ps) i) (fun _ _ => False)
set_option maxRecDepth 100000 in
theorem gcode_cvx : gc_cvx = .rangeFunc (.tmp 9) ([10, 11] : List Nat).toArray (asgOf gc_cvx) (bodOf gc_cvx) := by kernel_rfl
def e_cvx (s : St) (k : Ex → St → Tree) : Option Tree := match Nat.beq s.tmps.length 26, pickL s.tmps [1, 2, 9], s.mem with
  | true, [.pointer (some ⟨1, 0, none⟩), .pointer (some ⟨2, 0, none⟩), .func (.func 84) ⟨[]⟩ ⟨[.pointer (some ⟨3, 0, none⟩)]⟩], [some ⟨.view, .ints xs⟩, some ⟨.box, .vals [ß 0 n _]⟩, some ⟨.box, .vals [.bool false]⟩, some ⟨.box, .vals [ß 0 n1 _]⟩] => some (needs [n1 = n, xs.length = n * 2, allV (ptsA n xs) = true, n ≤ 20] (brT (cvA (ptsA n xs)) (k .normal ⟨(topV :: topV :: .pointer (some ⟨2, 0, none⟩) :: ω23 []), [some ⟨.view, .ints xs⟩, some ⟨.box, .vals [ß 0 n n]⟩, some ⟨.box, .vals [.bool false]⟩, some ⟨.view, .vals [ß 0 n n]⟩]⟩) (k .ret ⟨(topV :: topV :: .pointer (some ⟨2, 0, none⟩) :: ω23 []), [some ⟨.view, .ints xs⟩, some ⟨.box, .vals [ß 0 n n]⟩, some ⟨.box, .vals [.bool false]⟩, some ⟨.view, .vals [ß 0 n n]⟩]⟩)))
  | _, _, _ => none
set_option maxRecDepth 100000 in
theorem round_cvx (ps : List Pt) (hv : allV ps = true) (h : ps.length ≤ 20) : Round_cvx ps := by
  rintro i ⟨_, hg⟩ hi
  rw [tr_cvx]
  have hm := nx_lt hi
  have e2 : (ŵ ((i : Int) + 2)).tmod (ps.length : Int) = (((i + 2) % ps.length : Nat) : Int) := by
    rw [show (i : Int) + 2 = ((i + 2 : Nat) : Int) by omega, wr (by omega), Int.tmod_eq_emod_of_nonneg (by omega)]
    omega
  have h2 : (i + 2) % ps.length < ps.length := Nat.mod_lt _ (by omega)
  rw [e2]
  simp only [Int.toNat_natCast, Nat.zero_add, flat_get0, flat_get1, flat_length]
  refine ⟨pt_get hv hi, pt_get hv hm, pt_get hv h2, by omega, by omega, by omega, brT_ok.2 ⟨fun q => ?_, fun q => ?_⟩⟩
  · have q : crossI (ps.getD i (0, 0)).1 (ps.getD i (0, 0)).2 (nxP ps i).1 (nxP ps i).2 (nx2 ps i).1 (nx2 ps i).2 ≤ 0 := of_decide_eq_true q
    have hs : cvA ps = false := allQ_no hi (by unfold cvE; exact decide_eq_false (by omega))
    refine ⟨by unfold re_cvx; rw [hs]; rfl, [], ?_⟩
    unfold rs_cvx
    rw [hs]
    refine ⟨rfl, rfl, ?_, ?_⟩ <;> repeat' (first | exact True.intro | exact rfl | exact wv_top _ _ | exact fun _ => rfl | refine And.intro ?_ ?_)
  · have q : ¬ crossI (ps.getD i (0, 0)).1 (ps.getD i (0, 0)).2 (nxP ps i).1 (nxP ps i).2 (nx2 ps i).1 (nx2 ps i).2 ≤ 0 := of_decide_eq_false q
    have ho : cvE ps i = true := decide_eq_true (by omega)
    refine ⟨⟨by omega, fun k hk => ?_⟩, [], ?_⟩
    · rcases Nat.lt_or_ge k i with h1 | h1
      · exact hg k h1
      · obtain rfl : k = i := by omega
        exact ho
    · refine ⟨rfl, rfl, ?_, ?_⟩ <;> repeat' (first | exact True.intro | exact rfl | exact wv_top _ _ | exact fun _ => rfl | refine And.intro ?_ ?_)
attribute [local irreducible] bodyR
set_option maxRecDepth 100000 in
theorem lg_cvx : RangeE Try.prog e_cvx gc_cvx := by
  intro s k t F H hlt ht
  unfold e_cvx at hlt
  split at hlt
  rotate_left
  · cases hlt
  rename_i hlen hpick hmem
  obtain ⟨tmps, mem⟩ := s
  simp only at hlen hpick hmem
  subst hmem
  obtain rfl := Option.some.inj hlt
  obtain ⟨⟨rfl, h1, h2, h3, _⟩, ht2⟩ := needs_ok ht
  clear ht hlt
  obtain ⟨ps, rfl, rfl⟩ := even_flat h1
  rw [ptsA_flat] at ht2 h2
  refine ⟨re_cvx ps, rs_cvx ps, pick2k ht2, ?_⟩
  rw [gcode_cvx]
  refine range_det (enc := encE ps) (len := (ps).length) (St_of := s_cvx ps) (Good := g_cvx ps) (N := 4) (M := 4) (Kn := [0, 3]) (cap := [.pointer (some ⟨3, 0, none⟩)]) (kf := (k_cvx .normal)) (π := []) (fun _ => rfl) (fun _ => rfl) (fun i hg hlt => bodyR_ok mixed ECv_ok (noL_good) (noR_good) (round_cvx ps h2 h3 i hg hlt)) (entersB_res (by kernel_rfl)).1 rfl ?_ (fun ρ0 ρ B w lb h1 h2 => ed_iter ps (by omega) (s := (s_cvx ps 0).fs) (nb := 3) (nr := 0) (c := (ps).length) (Kn := [0, 3]) rfl rfl (by decide) (by decide) ρ0 ρ B w lb h1 h2) ?_ rfl (by decide) ?_ ⟨Nat.zero_le _, fun k hk => by omega⟩
  · intro n hn b hb
    simp only [List.mem_cons, List.not_mem_nil, or_false] at hn
    rcases hn with rfl | rfl <;> (obtain rfl := Option.some.inj hb; rfl)
  · rintro ⟨_, hg⟩
    have hq : cvA ps = true := allQ_all _ _ fun k _ h2 => hg k (by omega)
    refine ⟨by unfold re_cvx; rw [hq]; rfl, [], ?_⟩
    unfold rs_cvx
    rw [hq]
    refine ⟨rfl, rfl, ?_, ?_⟩ <;> repeat' (first | exact True.intro | exact rfl | exact wv_top _ _ | exact fun _ => rfl | refine And.intro ?_ ?_)
  · refine ⟨rfl, rfl, ?_, wvs_spread' [1, 2, 9] hlen rfl ?_⟩
    · repeat' (first | exact True.intro | exact rfl | exact wv_top _ _ | exact fun _ => rfl | assumption | exact Eq.symm (by assumption) | exact vI0 rfl | refine And.intro ?_ ?_)
    · rw [show pickL (viewS [0, 3] ⟨tmps, _⟩).tmps [1, 2, 9] = pickL tmps [1, 2, 9] from rfl, hpick]
      repeat' (first | exact True.intro | exact rfl | exact wv_top _ _ | exact fun _ => rfl | assumption | exact Eq.symm (by assumption) | exact vI0 rfl | refine And.intro ?_ ?_)
theorem Gr_cvx {fn : Func} (hf : Try.prog.funcs[53]? = some fn) : RangesGood Try.prog (rt1 9 e_cvx) (codeOf fn) := by
  obtain rfl := fn_is Try.func53 hf
  exact rt1_good (by kernel_rfl) lg_cvx
def GCv : FuncId → RT := fun f => match f with
  | 53 => rt1 9 e_cvx
  | _ => noR
def ECg : Env := withG ECv GCv
theorem ECg_ok : EnvOk Try.prog ECg := withG_ok ECv_ok (by
  intro f fn hf
  unfold GCv
  split
  all_goals first | with_reducible exact Gr_cvx hf | exact noR_good)
set_option maxRecDepth 100000 in
theorem tr_iCvx (ps : List Pt) : bodyV Try.prog ECg 30 12 53 [.row ps.length (.ints (flat ps))] = .need (ps.length * (2 : Nat) ≤ (List.drop 0 (flat ps)).length) (.need (ps.length ≤ (1000000000 : Nat)) (brT (!issI (ptsA ps.length (List.drop 0 (flat ps)))) (.fin (.bool (false)) []) (.need (ps.length = ps.length) (.need ((flat ps).length = ps.length * (2 : Nat)) (.need (allV (ptsA ps.length (flat ps)) = true) (.need (ps.length ≤ (20 : Nat)) (brT (cvA (ptsA ps.length (flat ps))) (.fin (.bool (true)) []) (.fin (.bool (false)) [])))))))) := by kernel_rfl
theorem cv_ok2 {ps : List Pt} (h : issI ps = true) : allV ps = true ∧ ps.length ≤ 20 := by
  unfold issI okL at h
  simp only [Bool.and_eq_true, decide_eq_true_eq] at h
  exact ⟨h.1.2.1, h.1.2.2⟩
theorem res_iCvx (ps : List Pt) (h : Big ps) : Res Try.prog 53 [.row ps.length (.ints (flat ps))] (.bool (cvxI ps)) := by
  refine bodyV_res mixed ECg_ok (m := 30) (n := 12) rfl ?_
  rw [tr_iCvx]
  unfold Big at h
  simp only [List.drop_zero, ptsA_flat, flat_length]
  unfold cvxI
  rcases hs : issI ps with _ | _
  · simp [brT_ok, Tree.ok, h]
  · obtain ⟨h1, h2⟩ := cv_ok2 hs
    rcases hc : cvA ps with _ | _ <;> simp [brT_ok, Tree.ok, h, h1, h2]
def pCvx : List DArg → Option (Value × List Prop)
  | [.row m (.ints xs)] => some (.bool (cvxI (ptsA m xs)), [m * 2 ≤ xs.length, m ≤ 1000000000])
  | _ => none
theorem pCvx_ok {f : FuncId} (H : ∀ ps : List Pt, Big ps → Res Try.prog f [.row ps.length (.ints (flat ps))] (.bool (cvxI ps))) {ds : List DArg} {v : Value} {C : List Prop} (h : pCvx ds = some (v, C)) (hC : AllP C) : Res Try.prog f ds v := by
  unfold pCvx at h
  split at h
  · rename_i m xs
    obtain ⟨rfl, rfl⟩ : _ ∧ _ := by simpa using h
    obtain ⟨_, h2⟩ := ptsA_spec hC.1
    exact res_pts1 (pre := []) (post := []) hC.1 (H (ptsA m xs) (by unfold Big; rw [h2]; exact hC.2.1))
  · cases h
def TCv : Tab := fun f ds => match f with
  | 53 => pCvx ds
  | f => TSm f ds
theorem TCv_ok : TabOk Try.prog TCv := by
  intro f ds v C h hC
  unfold TCv at h
  (try split at h)
  all_goals first | with_reducible exact pCvx_ok res_iCvx h hC | with_reducible exact pCvx_ok res_sCvx h hC | exact TSm_ok _ _ _ _ h hC
def TCx : Tab := fun f ds => match f with
  | f => TCv f ds
theorem TCx_ok : TabOk Try.prog TCx := by
  intro f ds v C h hC
  unfold TCx at h
  (try split at h)
  all_goals first | with_reducible exact pCvx_ok res_SCvx h hC | exact TCv_ok _ _ _ _ h hC
end Go.Proofs.Ytbfoheblcoakiaa
namespace Go.Proofs.Ytbfoheblcoakiaa
open Go.RowKit
def lvE (ps : List Pt) (x y : Int) (j : Nat) : Int := cmpI (crossI (ps.getD j (0, 0)).1 (ps.getD j (0, 0)).2 (nxP ps j).1 (nxP ps j).2 x y) 0
def lvA (ps : List Pt) (x y : Int) : Nat → Int
  | 0 => 1
  | i + 1 => if lvE ps x y i < lvA ps x y i then lvE ps x y i else lvA ps x y i
def ECl : Env := mkE TCx R4 (fun _ => noL)
theorem ECl_ok : EnvOk Try.prog ECl := mkEOk TCx_ok R4_ok (fun _ _ _ => noL_good)
noncomputable def gc_lcv : Code := (rangesOf (codeOf Try.f29)).getD 0 .skip
def k_lcv : Ex → List Nat := keeps [3, 5, 17] [] []
def s_lcv (ps : List Pt) (x y : Int) : Nat → St := fun i => ⟨(ω3 .pointer (some ⟨2, 0, none⟩) :: topV :: .pointer (some ⟨3, 0, none⟩) :: ω11 .func (.func 84) #[] #[.pointer (some ⟨4, 0, none⟩)] :: ω12 []), [some ⟨.view, .ints (flat ps)⟩, none, some ⟨.box, .vals [.int .i64 x, .int .i64 y]⟩, some ⟨.box, .vals [.int .i64 (lvA ps x y i)]⟩, some ⟨.view, .vals [ß 0 ps.length ps.length]⟩]⟩
def g_lcv (ps : List Pt) (x y : Int) : Nat → Prop := fun i => i ≤ ps.length
def re_lcv (ps : List Pt) (x y : Int) : Ex := .normal
def rs_lcv (ps : List Pt) (x y : Int) : St := ⟨(ω3 .pointer (some ⟨2, 0, none⟩) :: topV :: .pointer (some ⟨3, 0, none⟩) :: ω24 []), [some ⟨.view, .ints (flat ps)⟩, none, some ⟨.box, .vals [.int .i64 x, .int .i64 y]⟩, some ⟨.box, .vals [.int .i64 (lvA ps x y ps.length)]⟩, some ⟨.view, .vals [ß 0 ps.length ps.length]⟩]⟩
set_option maxRecDepth 100000 in
theorem tr_lcv (ps : List Pt) (x y : Int) (i : Nat) : bodyR Try.prog ECl 30 12 noL noR (asgOf gc_lcv) (bodOf gc_lcv) ([18, 19].zip (encE ps i)) k_lcv 5 (s_lcv ps x y i) = .need (ptB (ps.getD i ((0 : Int), (0 : Int))).1 (ps.getD i ((0 : Int), (0 : Int))).2 = true) (.need (ptB (ps.getD ((i + (1 : Nat)) % ps.length) ((0 : Int), (0 : Int))).1 (ps.getD ((i + (1 : Nat)) % ps.length) ((0 : Int), (0 : Int))).2 = true) (.need (ptB x y = true) (.leaf .normal ⟨(ω3 .pointer (some ⟨2, 0, none⟩) :: topV :: .pointer (some ⟨3, 0, none⟩) :: ω11 .func (Fn.func 84) #[] #[.pointer (some ⟨4, 0, none⟩)] :: ω12 []), [some ⟨.view, .ints (flat ps)⟩, none, some ⟨.box, .vals [.int .i64 (x), .int .i64 (y)]⟩, some ⟨.box, .vals [.int .i64 (if cmpI (crossI (ps.getD i (0, 0)).1 (ps.getD i (0, 0)).2 (ps.getD ((i + 1) % ps.length) (0, 0)).1 (ps.getD ((i + 1) % ps.length) (0, 0)).2 x y) 0 < lvA ps x y i then cmpI (crossI (ps.getD i (0, 0)).1 (ps.getD i (0, 0)).2 (ps.getD ((i + 1) % ps.length) (0, 0)).1 (ps.getD ((i + 1) % ps.length) (0, 0)).2 x y) 0 else lvA ps x y i)]⟩, some ⟨.view, .vals [ß 0 (ps.length) (ps.length)]⟩]⟩))) := by kernel_rfl
def Round_lcv (ps : List Pt) (x y : Int) : Prop := ∀ i : Nat, g_lcv ps x y i → i < (ps).length → (bodyR Try.prog ECl 30 12 noL noR (asgOf gc_lcv) (bodOf gc_lcv) ([18, 19].zip (encE ps i)) k_lcv 5 (s_lcv ps x y i)).ok (RoundEndR 5 (s_lcv ps x y) (g_lcv ps x y) (re_lcv ps x y) (rs_lcv ps x y) i) (fun _ _ => False)
set_option maxRecDepth 100000 in
theorem gcode_lcv : gc_lcv = .rangeFunc (.tmp 17) ([18, 19] : List Nat).toArray (asgOf gc_lcv) (bodOf gc_lcv) := by kernel_rfl
def e_lcv (s : St) (k : Ex → St → Tree) : Option Tree := match Nat.beq s.tmps.length 30, pickL s.tmps [3, 5, 17], s.mem with
  | true, [.pointer (some ⟨2, 0, none⟩), .pointer (some ⟨3, 0, none⟩), .func (.func 84) ⟨[]⟩ ⟨[.pointer (some ⟨4, 0, none⟩)]⟩], [some ⟨.view, .ints xs⟩, none, some ⟨.box, .vals [.int .i64 x, .int .i64 y]⟩, some ⟨.box, .vals [.int .i64 a0]⟩, some ⟨.box, .vals [ß 0 n _]⟩] => some (needs [a0 = 1, xs.length = n * 2, allV (ptsA n xs) = true, n ≤ 20, ptB x y = true] (k .normal ⟨(ω3 .pointer (some ⟨2, 0, none⟩) :: topV :: .pointer (some ⟨3, 0, none⟩) :: ω24 []), [some ⟨.view, .ints xs⟩, none, some ⟨.box, .vals [.int .i64 x, .int .i64 y]⟩, some ⟨.box, .vals [.int .i64 (lvA (ptsA n xs) x y n)]⟩, some ⟨.view, .vals [ß 0 n n]⟩]⟩))
  | _, _, _ => none
set_option maxRecDepth 100000 in
theorem round_lcv (ps : List Pt) (x y : Int) (hv : allV ps = true) (h : ps.length ≤ 20) (hp : ptB x y = true) : Round_lcv ps x y := by
  intro i hg hi
  rw [tr_lcv]
  have hm := nx_lt hi
  refine ⟨pt_get hv hi, pt_get hv hm, hp, ?_⟩
  refine ⟨by show i + 1 ≤ ps.length; omega, [], ?_⟩
  refine ⟨rfl, rfl, ?_, ?_⟩ <;> repeat' (first | exact True.intro | exact rfl | exact wv_top _ _ | exact fun _ => rfl | refine And.intro ?_ ?_)
attribute [local irreducible] bodyR
set_option maxRecDepth 100000 in
theorem lg_lcv : RangeE Try.prog e_lcv gc_lcv := by
  intro s k t F H hlt ht
  unfold e_lcv at hlt
  split at hlt
  rotate_left
  · cases hlt
  rename_i hlen hpick hmem
  obtain ⟨tmps, mem⟩ := s
  simp only at hlen hpick hmem
  subst hmem
  obtain rfl := Option.some.inj hlt
  obtain ⟨⟨rfl, h1, h2, h3, h4, _⟩, ht2⟩ := needs_ok ht
  clear ht hlt
  obtain ⟨ps, rfl, rfl⟩ := even_flat h1
  rw [ptsA_flat] at ht2 h2
  rename_i px py cp0 rr
  refine ⟨re_lcv ps px py, rs_lcv ps px py, ht2, ?_⟩
  rw [gcode_lcv]
  refine range_det (enc := encE ps) (len := (ps).length) (St_of := s_lcv ps px py) (Good := g_lcv ps px py) (N := 5) (M := 5) (Kn := [0, 4]) (cap := [.pointer (some ⟨4, 0, none⟩)]) (kf := (k_lcv .normal)) (π := []) (fun _ => rfl) (fun _ => rfl) (fun i hg hlt => bodyR_ok mixed ECl_ok (noL_good) (noR_good) (round_lcv ps px py h2 h3 h4 i hg hlt)) (entersB_res (by kernel_rfl)).1 rfl ?_ (fun ρ0 ρ B w lb h1 h2 => ed_iter ps (by omega) (s := (s_lcv ps px py 0).fs) (nb := 4) (nr := 0) (c := (ps).length) (Kn := [0, 4]) rfl rfl (by decide) (by decide) ρ0 ρ B w lb h1 h2) ?_ rfl (by decide) ?_ (Nat.zero_le _)
  · intro n hn b hb
    simp only [List.mem_cons, List.not_mem_nil, or_false] at hn
    rcases hn with rfl | rfl <;> (obtain rfl := Option.some.inj hb; rfl)
  · exact fun _ => ⟨rfl, [], by refine ⟨rfl, rfl, ?_, ?_⟩ <;> repeat' (first | exact True.intro | exact rfl | exact wv_top _ _ | exact fun _ => rfl | refine And.intro ?_ ?_)⟩
  · refine ⟨rfl, rfl, ?_, wvs_spread' [3, 5, 17] hlen rfl ?_⟩
    · repeat' (first | exact True.intro | exact rfl | exact wv_top _ _ | exact fun _ => rfl | assumption | exact Eq.symm (by assumption) | exact vI0 rfl | refine And.intro ?_ ?_)
    · rw [show pickL (viewS [0, 4] ⟨tmps, _⟩).tmps [3, 5, 17] = pickL tmps [3, 5, 17] from rfl, hpick]
      repeat' (first | exact True.intro | exact rfl | exact wv_top _ _ | exact fun _ => rfl | assumption | exact Eq.symm (by assumption) | exact vI0 rfl | refine And.intro ?_ ?_)
theorem Gr_lcv {fn : Func} (hf : Try.prog.funcs[29]? = some fn) : RangesGood Try.prog (rt1 17 e_lcv) (codeOf fn) := by
  obtain rfl := fn_is Try.func29 hf
  exact rt1_good (by kernel_rfl) lg_lcv
def GCl : FuncId → RT := fun f => match f with
  | 29 => rt1 17 e_lcv
  | _ => noR
def EClg : Env := withG ECl GCl
theorem EClg_ok : EnvOk Try.prog EClg := withG_ok ECl_ok (by
  intro f fn hf
  unfold GCl
  split
  all_goals first | with_reducible exact Gr_lcv hf | exact noR_good)
def lcvV (ps : List Pt) (x y : Int) : Int := bif cvxI ps && ptB x y then lvA ps x y ps.length else 2
theorem cvx_ok {ps : List Pt} (h : cvxI ps = true) : allV ps = true ∧ ps.length ≤ 20 := by
  unfold cvxI at h
  rw [Bool.and_eq_true] at h
  exact cv_ok2 h.1
set_option maxRecDepth 100000 in
theorem tr_iLcv (ps : List Pt) (x y : Int) : bodyV Try.prog EClg 30 12 29 [.row ps.length (.ints (flat ps)), .v (.agg ⟨[.int .i64 x, .int .i64 y]⟩)] = .need (ps.length * (2 : Nat) ≤ (List.drop 0 (flat ps)).length) (.need (ps.length ≤ (1000000000 : Nat)) (brT (!cvxI (ptsA ps.length (List.drop 0 (flat ps)))) (.fin (.int .i64 (2)) []) (brT (!ptB x y) (.fin (.int .i64 (2)) []) (.need ((1 : Int) = (1 : Int)) (.need ((flat ps).length = ps.length * (2 : Nat)) (.need (allV (ptsA ps.length (flat ps)) = true) (.need (ps.length ≤ (20 : Nat)) (.need (ptB x y = true) (.fin (.int .i64 (lvA (ptsA ps.length (flat ps)) x y ps.length)) []))))))))) := by kernel_rfl
theorem res_iLcv (x y : Int) (ps : List Pt) (h : Big ps) : Res Try.prog 29 [.row ps.length (.ints (flat ps)), .v (.agg ⟨[.int .i64 x, .int .i64 y]⟩)] (.int .i64 (lcvV ps x y)) := by
  refine bodyV_res mixed EClg_ok (m := 30) (n := 12) rfl ?_
  rw [tr_iLcv]
  unfold Big at h
  simp only [List.drop_zero, ptsA_flat, flat_length]
  unfold lcvV
  rcases hs : cvxI ps with _ | _
  · simp [brT_ok, Tree.ok, h]
  · obtain ⟨h1, h2⟩ := cvx_ok hs
    rcases hc : ptB x y with _ | _ <;> simp [brT_ok, Tree.ok, h, h1, h2]
def pLcv : List DArg → Option (Value × List Prop)
  | [.row m (.ints xs), .v (.agg ⟨[.int .i64 x, .int .i64 y]⟩)] => some (.int .i64 (lcvV (ptsA m xs) x y), [m * 2 ≤ xs.length, m ≤ 1000000000])
  | _ => none
theorem pLcv_ok {f : FuncId} (H : ∀ (x y : Int) (ps : List Pt), Big ps → Res Try.prog f [.row ps.length (.ints (flat ps)), .v (.agg ⟨[.int .i64 x, .int .i64 y]⟩)] (.int .i64 (lcvV ps x y))) {ds : List DArg} {v : Value} {C : List Prop} (h : pLcv ds = some (v, C)) (hC : AllP C) : Res Try.prog f ds v := by
  unfold pLcv at h
  split at h
  · rename_i m xs x y
    obtain ⟨rfl, rfl⟩ : _ ∧ _ := by simpa using h
    obtain ⟨_, h2⟩ := ptsA_spec hC.1
    exact res_pts1 (pre := []) (post := [.v (.agg ⟨[.int .i64 x, .int .i64 y]⟩)]) hC.1 (H x y (ptsA m xs) (by unfold Big; rw [h2]; exact hC.2.1))
  · cases h
end Go.Proofs.Ytbfoheblcoakiaa
namespace Go.Proofs.Ytbfoheblcoakiaa
open Go.RowKit
theorem no_on {a b v : Pt} (h : 0 < crP a b v) : hasB a.1 a.2 b.1 b.2 v.1 v.2 = false := by
  refine hasB_no ?_
  rw [beq_eq_false_iff_ne]
  have e : (a.1 - v.1) * (b.2 - v.2) - (a.2 - v.2) * (b.1 - v.1) = crP a b v := by unfold crP crossI; grind
  omega
theorem no_dv {a b c d e f g h : Int} (h1 : 0 ≤ crossI a b c d e f) (h2 : 0 ≤ crossI a b c d g h) : dvB a b c d e f g h = false := by
  unfold dvB
  have k : ∀ x : Int, 0 ≤ x → cmpI x 0 = 0 ∨ cmpI x 0 = 1 := fun x hx => by
    unfold cmpI
    split
    · omega
    · split <;> simp
  rcases k _ h1 with k1 | k1 <;> rcases k _ h2 with k2 | k2 <;> rw [k1, k2] <;> decide
theorem asc_one {l : List Pt} {p : Pt} (ha : Asc l) (h : ∀ z ∈ l, z = p) (hp : p ∈ l) : l.length = 1 := by
  match l, ha, h, hp with
  | [_], _, _, _ => rfl
  | x :: y :: r, ha, h, _ =>
    have h1 := (List.pairwise_cons.1 ha).1 y (by simp)
    rw [h x (by simp), h y (by simp)] at h1
    exact (oP_irr h1).elim
def relP (a b c d : Pt) : Int := relA a.1 a.2 b.1 b.2 c.1 c.2 d.1 d.2
theorem rel_apart {a b c d : Pt} (h1 : 0 < crP a b c) (h2 : 0 < crP a b d) (h3 : 0 < crP c d a) (h4 : 0 < crP c d b) : relP a b c d = 0 := by
  unfold relP relA
  have e : ceS a.1 a.2 b.1 b.2 c.1 c.2 d.1 d.2 = [] := by
    rw [List.eq_nil_iff_forall_not_mem]
    intro z hz
    obtain ⟨q1, q2⟩ := ce_mem.1 hz
    unfold onB at q1
    simp only [Bool.and_eq_true] at q1
    rcases q2 with rfl | rfl | rfl | rfl
    · rw [show hasB c.1 c.2 d.1 d.2 a.1 a.2 = false from no_on h3] at q1; exact absurd q1.2 (by decide)
    · rw [show hasB c.1 c.2 d.1 d.2 b.1 b.2 = false from no_on h4] at q1; exact absurd q1.2 (by decide)
    · rw [show hasB a.1 a.2 b.1 b.2 c.1 c.2 = false from no_on h1] at q1; exact absurd q1.1 (by decide)
    · rw [show hasB a.1 a.2 b.1 b.2 d.1 d.2 = false from no_on h2] at q1; exact absurd q1.1 (by decide)
  rw [e, no_dv (Int.le_of_lt h1) (Int.le_of_lt h2)]
  rfl
theorem rel_touch {a b d : Pt} (h1 : 0 < crP a b d) : relP a b b d = 1 := by
  unfold relP relA
  have h2 : 0 < crP b d a := by
    have : crP b d a = crP a b d := by unfold crP crossI; grind
    omega
  have e : (ceS a.1 a.2 b.1 b.2 b.1 b.2 d.1 d.2).length = 1 := by
    refine asc_one (p := b) (ce_asc ..) (fun z hz => ?_) (ce_mem.2 ⟨by unfold onB; rw [hasB_b, hasB_a]; rfl, .inr (.inl rfl)⟩)
    obtain ⟨q1, q2⟩ := ce_mem.1 hz
    unfold onB at q1
    simp only [Bool.and_eq_true] at q1
    rcases q2 with rfl | rfl | rfl | rfl
    · rw [show hasB b.1 b.2 d.1 d.2 a.1 a.2 = false from no_on h2] at q1; exact absurd q1.2 (by decide)
    · rfl
    · rfl
    · rw [show hasB a.1 a.2 b.1 b.2 d.1 d.2 = false from no_on h1] at q1; exact absurd q1.1 (by decide)
  rw [e]
  rfl
theorem edR_P {h : List Pt} {i k : Nat} (hs : sgQ h i = true) (hk : sgQ h k = true) : edR h i k = relP (h.getD i (0, 0)) (nxP h i) (h.getD k (0, 0)) (nxP h k) := by
  rw [edR_is, hs, hk]
  rfl
theorem cvh_simple {h : List Pt} (H : CvH h) (ho : okL h = true) : issI h = true := by
  unfold issI
  rw [ho, decide_eq_true H.three]
  simp only [Bool.true_and]
  have hv : allV h = true := by
    unfold okL at ho
    simp only [Bool.and_eq_true] at ho
    exact ho.1
  have sg : ∀ i, i < h.length → sgQ h i = true := fun i hi => (sgQ_iff hv hi).2 fun e => (nx_ne H hi).1 (nd_inj H.nodup hi (nx_lt hi) e).symm
  refine allQ_all _ _ fun i _ hi => allQ_all _ _ fun k _ hk => ?_
  have hi : i < h.length := by omega
  have hk : k < h.length := by omega
  unfold okE
  by_cases hlt : i < k
  rotate_left
  · rw [decide_eq_false hlt]; rfl
  rw [decide_eq_true hlt, edR_P (sg i hi) (sg k hk)]
  simp only [Bool.not_true, Bool.false_or, beq_iff_eq]
  obtain ⟨p1, p2, p3⟩ := nx_ne H hi
  obtain ⟨r1, r2, r3⟩ := nx_ne H hk
  have mi := nx_lt hi
  have mk := nx_lt hk
  have ei : nxP h i = h.getD ((i + 1) % h.length) (0, 0) := rfl
  have ek : nxP h k = h.getD ((k + 1) % h.length) (0, 0) := rfl
  unfold nbQ
  by_cases c1 : k = i + 1
  · rw [decide_eq_true c1]
    have e1 : (i + 1) % h.length = k := by rw [← c1, Nat.mod_eq_of_lt hk]
    have e2 : (k + 1) % h.length = (i + 2) % h.length := by rw [c1]
    have l := cvh_left H hi mk (by rw [e2]; exact p2) (by rw [e2]; exact p3)
    rw [← ek] at l
    have e3 : h.getD k (0, 0) = nxP h i := by rw [ei, e1]
    rw [e3]
    exact rel_touch l
  · rw [decide_eq_false c1]
    by_cases c2 : (k + 1) % h.length = i
    · rw [decide_eq_true c2]
      have e1 : (i + 1) % h.length = (k + 2) % h.length := by
        rw [← c2, Nat.mod_add_mod]
      have l := cvh_left H hk mi (by rw [e1]; exact r2) (by rw [e1]; exact r3)
      rw [← ei] at l
      have e3 : nxP h k = h.getD i (0, 0) := by rw [ek, c2]
      rw [e3] at l ⊢
      have := rel_touch l
      unfold relP at this ⊢
      rw [relA_comm]
      exact this
    · rw [decide_eq_false c2]
      have e0 : (i + 1) % h.length = i + 1 := Nat.mod_eq_of_lt (by omega)
      have n1 : k ≠ (i + 1) % h.length := by omega
      have n2 : (k + 1) % h.length ≠ (i + 1) % h.length := by
        intro e
        have hk1 : (k + 1) % h.length = if k + 1 = h.length then 0 else k + 1 := by
          split
          · rename_i q; rw [q, Nat.mod_self]
          · exact Nat.mod_eq_of_lt (by omega)
        rw [e0, hk1] at e
        split at e <;> omega
      have l1 := cvh_left H hi hk (by omega) n1
      have l2 := cvh_left H hi mk c2 n2
      have l3 := cvh_left H hk hi (by omega) (by omega)
      have l4 := cvh_left H hk mi (by omega) (fun e => n2 e.symm)
      rw [← ek] at l2
      rw [← ei] at l4
      exact rel_apart l1 l2 l3 l4
theorem cvx_hulD {h : List Pt} (H : CvH h) (ho : okL h = true) : cvxI h = true := by
  unfold cvxI
  rw [cvh_simple H ho, Bool.true_and]
  have key : ∀ (m i : Nat), i + m ≤ h.length → allQ (cvE h) i m = true := by
    intro m
    induction m with
    | zero => intro i _; rfl
    | succ m ih =>
      intro i hi
      simp only [allQ, Bool.and_eq_true]
      refine ⟨?_, ih (i + 1) (by omega)⟩
      obtain ⟨n1, n2, n3⟩ := nx_ne H (i := i) (by omega)
      unfold cvE
      rw [decide_eq_true_eq]
      exact cvh_left H (j := i) (k := (i + 2) % h.length) (by omega) (Nat.mod_lt _ (by omega)) n2 n3
  exact key _ _ (by omega)
theorem lvA_all {h : List Pt} {x y : Int} : ∀ i, 0 ≤ lvA h x y i → ∀ j, j < i → 0 ≤ lvE h x y j
  | 0, _, j, hj => absurd hj (by omega)
  | i + 1, hl, j, hj => by
    simp only [lvA] at hl
    have h2 : 0 ≤ lvA h x y i ∧ 0 ≤ lvE h x y i := by split at hl <;> omega
    rcases Nat.lt_or_ge j i with h3 | h3
    · exact lvA_all i h2.1 j h3
    · obtain rfl : j = i := by omega
      exact h2.2
theorem apart_out {us vs : List Pt} (ho : okL us = true) (hv : okL vs = true) (h3 : 3 ≤ (hulV vs).length) (hm : hmB us vs = false) {q : Pt} (hq : q ∈ us) : lcvV (hulV vs) q.1 q.2 < 0 := by
  have H : CvH (hulV vs) := by
    rw [hulV_yes hv] at h3 ⊢
    exact hul_cvh (srtL_asc vs) h3
  have hp : ptB q.1 q.2 = true := List.all_eq_true.1 (okL_20 ho).1 q hq
  by_cases hl : lcvV (hulV vs) q.1 q.2 < 0
  · exact hl
  · exfalso
    unfold lcvV at hl
    rw [cvx_hulD H (okL_hul hv), hp] at hl
    simp only [Bool.and_self, cond_true] at hl
    have ha := lvA_all (h := hulV vs) (x := q.1) (y := q.2) (hulV vs).length (by omega)
    have hw : witP (hulV vs) q := (wit_left H).2 fun j hj => by
      have := ha j hj
      unfold lvE cmpI at this
      unfold crP
      split at this
      · exact absurd this (by decide)
      · omega
    rw [hmB_wit ho hv hq hw] at hm
    cases hm
def RMk : TabR := fun f ds => match f, ds with
  | 15, [.row m (.ints xs), .row n (.ints ys)] => some (rowBK (mkwB (ptsA m xs) (ptsA n ys)) (mkwV (ptsA m xs) (ptsA n ys)), ⟨.row 32 2, .ints (flat (mkwV (ptsA m xs) (ptsA n ys)))⟩, [m * 2 ≤ xs.length, n * 2 ≤ ys.length, m ≤ 1000000000, n ≤ 1000000000])
  | 14, [.row m (.ints xs), .row n (.ints ys)] => some (rowBK (mkwB (ptsA m xs) (ptsA n ys)) (mkwV (ptsA m xs) (ptsA n ys)), ⟨.row 32 2, .ints (flat (mkwV (ptsA m xs) (ptsA n ys)))⟩, [m * 2 ≤ xs.length, n * 2 ≤ ys.length, m ≤ 1000000000, n ≤ 1000000000])
  | f, ds => RHv f ds
theorem RMk_ok : TabROk Try.prog RMk := by
  intro f ds v b C h hC
  unfold RMk at h
  split at h
  · obtain ⟨rfl, rfl, rfl⟩ : _ ∧ _ ∧ _ := by simpa using h
    obtain ⟨_, h2⟩ := ptsA_spec hC.1
    obtain ⟨_, h3⟩ := ptsA_spec hC.2.1
    exact resR_two hC.1 hC.2.1 (resR_sMs _ _ (by unfold Big; rw [h2]; exact hC.2.2.1) (by unfold Big; rw [h3]; exact hC.2.2.2.1))
  · obtain ⟨rfl, rfl, rfl⟩ : _ ∧ _ ∧ _ := by simpa using h
    obtain ⟨_, h2⟩ := ptsA_spec hC.1
    obtain ⟨_, h3⟩ := ptsA_spec hC.2.1
    exact resR_two hC.1 hC.2.1 (resR_iMs _ _ (by unfold Big; rw [h2]; exact hC.2.2.1) (by unfold Big; rw [h3]; exact hC.2.2.2.1))
  · exact RHv_ok _ _ _ _ _ h hC
theorem negT_ (b : Bool) : negB true b = !b := by cases b <;> rfl
theorem negF_ (b : Bool) : negB false b = b := by cases b <;> rfl
noncomputable def c_eqQ : Code := ((loopsOf (codeOf Try.f16))[0]?).getD .skip
def k_eqQ : Ex → List Nat := keeps [0, 1, 5] [(0, [])] [4]
def s_eqQ (ps : List Pt) : Nat → St := fun i => ⟨(ß 0 ps.length ps.length :: ß 1 ps.length ps.length :: ω3 .int .i64 i :: ω20 []), [some ⟨.view, .ints (flat ps)⟩, some ⟨.view, .ints (flat ps)⟩]⟩
def re_eqQ : Nat → Ex := fun _ => .exit 0
def rs_eqQ (ps : List Pt) : Nat → St := fun i => ⟨(ω26 []), [some ⟨.view, .ints (flat ps)⟩, some ⟨.view, .ints (flat ps)⟩]⟩
set_option maxRecDepth 100000 in
theorem tr_eqQ (ps : List Pt) (i : Nat) : bodyL Try.prog EM 30 12 noL 1 c_eqQ k_eqQ 2 (s_eqQ ps i) = brT (decide ((↑i : Int) < (↑ps.length : Int))) (.need ((0 : Int) ≤ (↑i : Int) ∧ (↑i : Int) < (↑ps.length : Int)) (.need ((0 : Nat) + (↑i : Int).toNat * (2 : Nat) + (2 : Nat) ≤ (flat ps).length) (.need ((0 : Int) ≤ (↑i : Int) ∧ (↑i : Int) < (↑ps.length : Int)) (.need ((0 : Nat) + (↑i : Int).toNat * (2 : Nat) + (2 : Nat) ≤ (flat ps).length) (brT (negB true ((flat ps).getD (0 + (↑i : Int).toNat * 2) 0 == (flat ps).getD (0 + (↑i : Int).toNat * 2) 0 && ((flat ps).getD (0 + (↑i : Int).toNat * 2 + 1) 0 == (flat ps).getD (0 + (↑i : Int).toNat * 2 + 1) 0 && true))) (.leaf .ret ⟨(ω4 .bool (false) :: ω21 []), [some ⟨.view, .ints (flat ps)⟩, some ⟨.view, .ints (flat ps)⟩]⟩) (.leaf .normal ⟨(ß 0 (ps.length) (ps.length) :: ß 1 (ps.length) (ps.length) :: ω3 .int .i64 (ŵ ((↑i : Int) + 1)) :: ω20 []), [some ⟨.view, .ints (flat ps)⟩, some ⟨.view, .ints (flat ps)⟩]⟩)))))) (.leaf (.exit 0) ⟨(ω26 []), [some ⟨.view, .ints (flat ps)⟩, some ⟨.view, .ints (flat ps)⟩]⟩) := by kernel_rfl
set_option maxRecDepth 100000 in
theorem nl_eqQ : loopsOf c_eqQ = [] := by kernel_rfl
def inv_eqQ (ps : List Pt) : Nat → Prop := fun i => i ≤ ps.length
def me_eqQ (ps : List Pt) : Nat → Nat := fun i => ps.length - i
def Round_eqQ (ps : List Pt) : Prop := ∀ xx : Nat, inv_eqQ ps xx → (bodyL Try.prog EM 30 12 noL 1 c_eqQ k_eqQ 2 (s_eqQ ps xx)).ok (RoundEnd 2 (s_eqQ ps) (inv_eqQ ps) (me_eqQ ps) re_eqQ (rs_eqQ ps) xx) (fun _ _ => False)
def e_eqQ (s : St) (k : Ex → St → Tree) : Option Tree := match Nat.beq s.tmps.length 26, pickL s.tmps [0, 1, 5], s.mem with
  | true, [ß 0 n _, ß 1 m _, .int .i64 i], [some ⟨.view, .ints xs⟩, some ⟨.view, .ints ys⟩] => some (needs [i = 0, m = n, ys = xs, xs.length = n * 2, n ≤ 1000000000] (k (.exit 0) ⟨(ω26 []), [some ⟨.view, .ints xs⟩, some ⟨.view, .ints xs⟩]⟩))
  | _, _, _ => none
set_option maxRecDepth 100000 in
theorem round_eqQ (ps : List Pt) (h : ps.length ≤ 1000000000) : Round_eqQ ps := by
  intro i h1
  have h1 : i ≤ ps.length := h1
  rw [tr_eqQ]
  simp only [brT_ok, Tree.ok, decide_eq_true_eq, decide_eq_false_iff_not, Int.toNat_natCast, Nat.zero_add, flat_length, flat_get0, flat_get1, Bool.not_eq_true', Bool.not_eq_false', beq_iff_eq, beq_eq_false_iff_ne, negT_, negF_, Bool.and_true, Bool.and_eq_true, Bool.and_eq_false_iff, beq_self_eq_true, Bool.and_self, Bool.not_true, Bool.false_eq_true]
  refine ⟨fun hlt => ?_, fun hge => ?_⟩
  · rw [wsucc (n := ps.length) (by omega) h]
    refine ⟨by omega, by omega, by omega, by omega, fun hc => hc.elim, fun _ => ⟨i + 1, [], ?_, ?_, rfl, rfl, ?_⟩⟩
    · show i + 1 ≤ ps.length; omega
    · show ps.length - (i + 1) < ps.length - i; omega
    · repeat' (first | exact True.intro | exact rfl | exact fun _ => rfl | refine And.intro ?_ ?_)
  · refine ⟨rfl, [], ?_⟩
    repeat' (first | exact True.intro | exact rfl | exact fun _ => rfl | refine And.intro ?_ ?_)
set_option maxRecDepth 100000 in
theorem lg_eqQ : LoopE Try.prog e_eqQ c_eqQ := by
  intro s k t F H hlt ht
  unfold e_eqQ at hlt
  split at hlt
  rotate_left
  · cases hlt
  rename_i hlen hpick hmem
  obtain ⟨tmps, mem⟩ := s
  simp only at hlen hpick hmem
  subst hmem
  obtain rfl := Option.some.inj hlt
  obtain ⟨⟨rfl, rfl, rfl, h1, h2, _⟩, ht2⟩ := needs_ok ht
  clear ht hlt
  obtain ⟨ps, rfl, rfl⟩ := even_flat h1
  refine ⟨_, _, ht2, loop_run mixed EM_ok (s_eqQ _) (inv_eqQ _) (me_eqQ _) re_eqQ (rs_eqQ _) k_eqQ (fun _ => rfl) (noLoops nl_eqQ) (round_eqQ _ h2) (x := 0) (Nat.zero_le _) (π := []) rfl ?_⟩
  refine ⟨rfl, rfl, ?_, wvs_spread' [0, 1, 5] hlen rfl ?_⟩
  · repeat' (first | exact True.intro | exact rfl | exact wv_top _ _ | exact fun _ => rfl | assumption | exact Eq.symm (by assumption) | exact vI0 rfl | refine And.intro ?_ ?_)
  · rw [hpick]
    repeat' (first | exact True.intro | exact rfl | exact wv_top _ _ | exact fun _ => rfl | assumption | exact Eq.symm (by assumption) | exact vI0 rfl | refine And.intro ?_ ?_)
theorem Lr_eqQ {fn : Func} (hf : Try.prog.funcs[16]? = some fn) : LoopsGood Try.prog (lt1 e_eqQ) 0 (codeOf fn) := by
  obtain rfl := fn_is Try.func16 hf
  exact lt1_good lg_eqQ
def LEp : FuncId → LT := fun f => match f with
  | 16 => lt1 e_eqQ
  | _ => noL
def EEp : Env := mkE B0 (fun _ _ => none) LEp
theorem EEp_ok : EnvOk Try.prog EEp := mkEOk B0_ok (fun _ _ _ _ _ h => (by cases h)) (by
  intro f fn hf
  unfold LEp
  split
  all_goals first | with_reducible exact Lr_eqQ hf | exact noL_good)
set_option maxRecDepth 100000 in
theorem tr_eqPF (n m : Nat) (xs ys : List Int) : bodyV Try.prog EEp 30 12 16 [.row n (.ints xs), .row m (.ints ys)] = brT (!(↑n : Int) == (↑m : Int)) (.fin (.bool (false)) []) (.need ((0 : Int) = (0 : Int)) (.need (m = n) (.need (ys = xs) (.need (xs.length = n * (2 : Nat)) (.need (n ≤ (1000000000 : Nat)) (.fin (.bool (true)) [])))))) := by kernel_rfl
theorem res_eqP (n : Nat) (xs : List Int) (h : xs.length = n * 2) (hn : n ≤ 1000000000) : Res Try.prog 16 [.row n (.ints xs), .row n (.ints xs)] (.bool true) := by
  refine bodyV_res mixed EEp_ok (m := 30) (n := 12) rfl ?_
  rw [tr_eqPF]
  simp [brT_ok, Tree.ok, h, hn]
def pEqP : List DArg → Option (Value × List Prop)
  | [.row n (.ints xs), .row m (.ints ys)] => some (.bool true, [n = m, xs = ys, xs.length = n * 2, n ≤ 1000000000])
  | _ => none
theorem pEqP_ok {ds : List DArg} {v : Value} {C : List Prop} (h : pEqP ds = some (v, C)) (hC : AllP C) : Res Try.prog 16 ds v := by
  unfold pEqP at h
  split at h
  · obtain ⟨rfl, rfl⟩ : _ ∧ _ := by simpa using h
    obtain ⟨rfl, rfl, h1, h2, _⟩ := hC
    exact res_eqP _ _ h1 h2
  · cases h
def TEp : Tab := fun f ds => match f with
  | 16 => pEqP ds
  | f => TMh f ds
theorem TEp_ok : TabOk Try.prog TEp := by
  intro f ds v C h hC
  unfold TEp at h
  (try split at h)
  all_goals first | with_reducible exact pEqP_ok h hC | exact TMh_ok _ _ _ _ h hC
def ag (f : Pt → Int) (ps : List Pt) : Nat → Nat → Nat → Nat
  | 0, _, b => b
  | n + 1, i, b => ag f ps n (i + 1) (if f (ps.getD b (0, 0)) < f (ps.getD i (0, 0)) then i else b)
theorem ag_step {f : Pt → Int} {ps : List Pt} {i : Nat} (h : i < ps.length) (b : Nat) : ag f ps (ps.length - i) i b = ag f ps (ps.length - (i + 1)) (i + 1) (if f (ps.getD b (0, 0)) < f (ps.getD i (0, 0)) then i else b) := by
  rw [show ps.length - i = (ps.length - (i + 1)) + 1 by omega]
  rfl
theorem ag_end {f : Pt → Int} {ps : List Pt} {i : Nat} (h : ps.length ≤ i) (b : Nat) : ag f ps (ps.length - i) i b = b := by
  rw [show ps.length - i = 0 by omega]
  rfl
def fl (f : Pt → Int) (ps : List Pt) (i : Nat) (b : Int) : Int :=
  if b < 0 then (if ps.length ≤ i then -1 else (ag f ps (ps.length - (i + 1)) (i + 1) i : Nat)) else (ag f ps (ps.length - i) i b.toNat : Nat)
theorem fl_first {f : Pt → Int} {ps : List Pt} {i : Nat} (h : i < ps.length) {b : Int} (hb : b < 0) : fl f ps i b = fl f ps (i + 1) i := by
  unfold fl
  rw [if_pos hb, if_neg (by omega), if_neg (by omega), Int.toNat_natCast]
theorem fl_yes {f : Pt → Int} {ps : List Pt} {i : Nat} (h : i < ps.length) {b : Int} (hb : 0 ≤ b) (hm : f (ps.getD b.toNat (0, 0)) < f (ps.getD i (0, 0))) : fl f ps i b = fl f ps (i + 1) i := by
  unfold fl
  rw [if_neg (by omega), if_neg (by omega), Int.toNat_natCast, ag_step h, if_pos hm]
theorem fl_no {f : Pt → Int} {ps : List Pt} {i : Nat} (h : i < ps.length) {b : Int} (hb : 0 ≤ b) (hm : ¬ f (ps.getD b.toNat (0, 0)) < f (ps.getD i (0, 0))) : fl f ps i b = fl f ps (i + 1) b := by
  unfold fl
  rw [if_neg (by omega), if_neg (by omega), ag_step h, if_neg hm]
theorem fl_end {f : Pt → Int} {ps : List Pt} {i : Nat} (h : ps.length ≤ i) {b : Int} (hb : b = -1 ∨ 0 ≤ b) : fl f ps i b = b := by
  unfold fl
  rcases hb with rfl | hb
  · rw [if_pos (by omega), if_pos h]
  · rw [if_neg (by omega), ag_end h]; omega
def fE (d p : Pt) : Int := p.1 * d.1 + p.2 * d.2
noncomputable def c_flExt : Code := ((loopsOf (codeOf Try.f58))[0]?).getD .skip
def k_flExt : Ex → List Nat := keeps [1, 5, 6, 10, 11, 12] [(0, [5])] [4]
def s_flExt (ps : List Pt) (x y : Int) : Nat × Int × Int → St := fun (i, b, m) => ⟨(topV :: .func (.func 45) #[.agg #[.int .i64 x, .int .i64 y]] #[] :: ω3 .int .i64 b :: .int .i64 m :: ω3 ß 0 ps.length ps.length :: .int .i64 ps.length :: .int .i64 i :: ω18 []), [some ⟨.view, .ints (flat ps)⟩, none, some ⟨.box, .vals [.int .i64 x, .int .i64 y]⟩]⟩
def re_flExt : Nat × Int × Int → Ex := fun _ => .exit 0
def rs_flExt (ps : List Pt) (x y : Int) : Nat × Int × Int → St := fun (i, b, m) => ⟨(ω5 .int .i64 (fl (fE (x, y)) ps i b) :: ω25 []), [some ⟨.view, .ints (flat ps)⟩, none, some ⟨.box, .vals [.int .i64 x, .int .i64 y]⟩]⟩
set_option maxRecDepth 100000 in
theorem tr_flExt (ps : List Pt) (x y : Int) (i : Nat) (b m : Int) : bodyL Try.prog E3 30 12 noL 1 c_flExt k_flExt 3 (s_flExt ps x y (i, b, m)) = brT (decide ((↑i : Int) < (↑ps.length : Int))) (.need ((0 : Int) ≤ (↑i : Int) ∧ (↑i : Int) < (↑ps.length : Int)) (.need ((0 : Nat) + (↑i : Int).toNat * (2 : Nat) + (2 : Nat) ≤ (flat ps).length) (brT (decide (b < 0)) (.leaf .normal ⟨(topV :: .func (Fn.func 45) #[.agg #[.int .i64 (x), .int .i64 (y)]] #[] :: ω3 .int .i64 ((↑i : Int)) :: .int .i64 (ŵ (ŵ (x * (flat ps).getD (0 + (↑i : Int).toNat * 2) 0) + ŵ (y * (flat ps).getD (0 + (↑i : Int).toNat * 2 + 1) 0))) :: ω3 ß 0 (ps.length) (ps.length) :: .int .i64 ((↑ps.length : Int)) :: .int .i64 (ŵ ((↑i : Int) + 1)) :: ω18 []), [some ⟨.view, .ints (flat ps)⟩, none, some ⟨.box, .vals [.int .i64 (x), .int .i64 (y)]⟩]⟩) (brT (decide (m < ŵ (ŵ (x * (flat ps).getD (0 + (↑i : Int).toNat * 2) 0) + ŵ (y * (flat ps).getD (0 + (↑i : Int).toNat * 2 + 1) 0)))) (.leaf .normal ⟨(topV :: .func (Fn.func 45) #[.agg #[.int .i64 (x), .int .i64 (y)]] #[] :: ω3 .int .i64 ((↑i : Int)) :: .int .i64 (ŵ (ŵ (x * (flat ps).getD (0 + (↑i : Int).toNat * 2) 0) + ŵ (y * (flat ps).getD (0 + (↑i : Int).toNat * 2 + 1) 0))) :: ω3 ß 0 (ps.length) (ps.length) :: .int .i64 ((↑ps.length : Int)) :: .int .i64 (ŵ ((↑i : Int) + 1)) :: ω18 []), [some ⟨.view, .ints (flat ps)⟩, none, some ⟨.box, .vals [.int .i64 (x), .int .i64 (y)]⟩]⟩) (.leaf .normal ⟨(topV :: .func (Fn.func 45) #[.agg #[.int .i64 (x), .int .i64 (y)]] #[] :: ω3 .int .i64 (b) :: .int .i64 (m) :: ω3 ß 0 (ps.length) (ps.length) :: .int .i64 ((↑ps.length : Int)) :: .int .i64 (ŵ ((↑i : Int) + 1)) :: ω18 []), [some ⟨.view, .ints (flat ps)⟩, none, some ⟨.box, .vals [.int .i64 (x), .int .i64 (y)]⟩]⟩))))) (.leaf (.exit 0) ⟨(ω5 .int .i64 (b) :: ω25 []), [some ⟨.view, .ints (flat ps)⟩, none, some ⟨.box, .vals [.int .i64 (x), .int .i64 (y)]⟩]⟩) := by kernel_rfl
set_option maxRecDepth 100000 in
theorem nl_flExt : loopsOf c_flExt = [] := by kernel_rfl
def inv_flExt (ps : List Pt) (x y : Int) : Nat × Int × Int → Prop := fun (i, b, m) => i ≤ ps.length ∧ (b = -1 ∨ 0 ≤ b ∧ b < i ∧ m = fE (x, y) (ps.getD b.toNat (0, 0)))
def me_flExt (ps : List Pt) (x y : Int) : Nat × Int × Int → Nat := fun (i, b, m) => ps.length - i
def Round_flExt (ps : List Pt) (x y : Int) : Prop := ∀ xx : Nat × Int × Int, inv_flExt ps x y xx → (bodyL Try.prog E3 30 12 noL 1 c_flExt k_flExt 3 (s_flExt ps x y xx)).ok (RoundEnd 3 (s_flExt ps x y) (inv_flExt ps x y) (me_flExt ps x y) re_flExt (rs_flExt ps x y) xx) (fun _ _ => False)
def e_flExt (s : St) (k : Ex → St → Tree) : Option Tree := match Nat.beq s.tmps.length 31, pickL s.tmps [1, 5, 6, 10, 11, 12], s.mem with
  | true, [.func (.func 45) ⟨[.agg ⟨[.int .i64 x, .int .i64 y]⟩]⟩ ⟨[]⟩, .int .i64 b, .int .i64 mm, ß 0 m _, .int .i64 l, .int .i64 i], [some ⟨.view, .ints xs⟩, none, some ⟨.box, .vals [.int .i64 x2, .int .i64 y2]⟩] => some (needs [i = 0, b = -1, mm = 0, l = m, xs.length = m * 2, m ≤ 20, allV (ptsA m xs) = true, ptB x y = true, x2 = x, y2 = y] (k (.exit 0) ⟨(ω5 .int .i64 (fl (fE (x, y)) (ptsA m xs) 0 (-1)) :: ω25 []), [some ⟨.view, .ints xs⟩, none, some ⟨.box, .vals [.int .i64 x2, .int .i64 y2]⟩]⟩))
  | _, _, _ => none
set_option maxRecDepth 100000 in
theorem round_flExt (ps : List Pt) (x y : Int) (h : ps.length ≤ 20) (hv : allV ps = true) (hq : ptB x y = true) : Round_flExt ps x y := by
  rintro ⟨i, b, m⟩ ⟨h1, h2⟩
  rw [tr_flExt]
  have bb := allV_get hv i
  have hq2 : -1000 ≤ x ∧ x ≤ 1000 ∧ -1000 ≤ y ∧ y ≤ 1000 := by simpa [ptB] using hq
  have m1 := mul_bd (x := x) (y := (ps.getD i (0, 0)).1) 1000 1000 (by omega) (by omega)
  have m2 := mul_bd (x := y) (y := (ps.getD i (0, 0)).2) 1000 1000 (by omega) (by omega)
  simp only [Int.toNat_natCast, Nat.zero_add, flat_length, flat_get0, flat_get1]
  simp only [brT_ok, Tree.ok, decide_eq_true_eq, decide_eq_false_iff_not]
  refine ⟨fun hlt => ⟨by omega, by omega, ?_⟩, fun hge => ?_⟩
  · rw [wsucc (n := ps.length) (by omega) (by omega)]
    simp (disch := omega) only [wr]
    have hf : fE (x, y) (ps.getD i (0, 0)) = x * (ps.getD i (0, 0)).1 + y * (ps.getD i (0, 0)).2 := by
      unfold fE
      rw [Int.mul_comm, Int.mul_comm (ps.getD i (0, 0)).2]
    rw [← hf]
    have new : fl (fE (x, y)) ps i b = fl (fE (x, y)) ps (i + 1) i → RoundEnd 3 (s_flExt ps x y) (inv_flExt ps x y) (me_flExt ps x y) re_flExt (rs_flExt ps x y) (i, b, m) .normal (s_flExt ps x y (i + 1, i, fE (x, y) (ps.getD i (0, 0)))) := fun e => by
      refine ⟨(i + 1, i, fE (x, y) (ps.getD i (0, 0))), [], ⟨by omega, .inr ⟨by omega, by omega, by rw [Int.toNat_natCast]⟩⟩, ?_, rfl, by simp only [rs_flExt]; rw [e], ?_⟩
      · show ps.length - (i + 1) < ps.length - i; omega
      · repeat' (first | exact True.intro | exact rfl | exact fun _ => rfl | refine And.intro ?_ ?_)
    refine ⟨fun hb => new (fl_first (by omega) hb), fun hb => ?_⟩
    obtain ⟨g1, g2, g3⟩ := h2.resolve_left (by omega)
    refine ⟨fun hle => new (fl_yes (by omega) g1 (by rw [← g3]; exact hle)), fun hle => ?_⟩
    refine ⟨(i + 1, b, m), [], ⟨by omega, .inr ⟨by omega, by omega, g3⟩⟩, ?_, rfl, by simp only [rs_flExt]; rw [fl_no (i := i) (by omega) g1 (by rw [← g3]; exact hle)], ?_⟩
    · show ps.length - (i + 1) < ps.length - i; omega
    · repeat' (first | exact True.intro | exact rfl | exact fun _ => rfl | refine And.intro ?_ ?_)
  · refine ⟨rfl, [], ?_⟩
    simp only [rs_flExt, fl_end (f := fE (x, y)) (ps := ps) (i := i) (by omega) (b := b) (h2.imp id fun h => h.1)]
    repeat' (first | exact True.intro | exact rfl | exact fun _ => rfl | refine And.intro ?_ ?_)
set_option maxRecDepth 100000 in
theorem lg_flExt : LoopE Try.prog e_flExt c_flExt := by
  intro s k t F H hlt ht
  unfold e_flExt at hlt
  split at hlt
  rotate_left
  · cases hlt
  rename_i hlen hpick hmem
  obtain ⟨tmps, mem⟩ := s
  simp only at hlen hpick hmem
  subst hmem
  obtain rfl := Option.some.inj hlt
  obtain ⟨⟨rfl, rfl, rfl, rfl, h1, h3, h4, h5, rfl, rfl, _⟩, ht2⟩ := needs_ok ht
  clear ht hlt
  obtain ⟨ps, rfl, rfl⟩ := even_flat h1
  rw [ptsA_flat] at ht2 h4
  refine ⟨_, _, ht2, loop_run mixed E3_ok (s_flExt ps _ _) (inv_flExt ps _ _) (me_flExt ps _ _) re_flExt (rs_flExt ps _ _) k_flExt (fun _ => rfl) (noLoops nl_flExt) (round_flExt ps _ _ h3 h4 h5) (x := (0, -1, 0)) ⟨Nat.zero_le _, .inl rfl⟩ (π := []) rfl ?_⟩
  refine ⟨rfl, rfl, ?_, wvs_spread' [1, 5, 6, 10, 11, 12] hlen rfl ?_⟩
  · repeat' (first | exact True.intro | exact rfl | exact wv_top _ _ | exact fun _ => rfl | assumption | exact Eq.symm (by assumption) | exact vI0 rfl | refine And.intro ?_ ?_)
  · rw [hpick]
    repeat' (first | exact True.intro | exact rfl | exact wv_top _ _ | exact fun _ => rfl | assumption | exact Eq.symm (by assumption) | exact vI0 rfl | refine And.intro ?_ ?_)
theorem Lr_flE {fn : Func} (hf : Try.prog.funcs[58]? = some fn) : LoopsGood Try.prog (lt1 e_flExt) 0 (codeOf fn) := by
  obtain rfl := code_of Try.func58 hf
  exact lt1_good lg_flExt
def L6 : FuncId → LT := fun f => match f with
  | 58 => lt1 e_flExt
  | _ => noL
def E6 : Env := mkE (T3) (R4) (L6)
theorem E6_ok : EnvOk Try.prog E6 := by
  refine mkEOk T3_ok (R4_ok) fun f fn hf => ?_
  show LoopsGood Try.prog (L6 f) 0 (codeOf fn)
  unfold L6
  split
  all_goals first | with_reducible exact Lr_sE hf | with_reducible exact Lr_flE hf | exact noL_good
set_option maxRecDepth 100000 in
theorem tr_implExtF (ps : List Pt) (x y : Int) : bodyX Try.prog E6 30 12 30 [.row ps.length (.ints (flat ps)), .v (.agg #[iv x, iv y])] = brT (decide ((↑ps.length : Int) ≤ 20)) (.need (ps.length * (2 : Nat) ≤ (List.drop 0 (flat ps)).length) (.need (ps.length ≤ (1000000000 : Nat)) (brT (!allV (ptsA ps.length (List.drop 0 (flat ps)))) (.fin (.int .i64 (-1)) [some ⟨.view, .ints (flat ps)⟩, none, some ⟨.box, .vals [.int .i64 (x), .int .i64 (y)]⟩]) (brT (!ptB x y) (.fin (.int .i64 (-1)) [some ⟨.view, .ints (flat ps)⟩, none, some ⟨.box, .vals [.int .i64 (x), .int .i64 (y)]⟩]) (.need ((0 : Int) = (0 : Int)) (.need ((-1 : Int) = (-1 : Int)) (.need ((0 : Int) = (0 : Int)) (.need ((↑ps.length : Int) = (↑ps.length : Int)) (.need ((flat ps).length = ps.length * (2 : Nat)) (.need (ps.length ≤ (20 : Nat)) (.need (allV (ptsA ps.length (flat ps)) = true) (.need (ptB x y = true) (.need (x = x) (.need (y = y) (.fin (.int .i64 (fl (fE (x, y)) (ptsA ps.length (flat ps)) 0 (-1))) [some ⟨.view, .ints (flat ps)⟩, none, some ⟨.box, .vals [.int .i64 (x), .int .i64 (y)]⟩]))))))))))))))) (.fin (.int .i64 (-1)) [some ⟨.view, .ints (flat ps)⟩, none, some ⟨.box, .vals [.int .i64 (x), .int .i64 (y)]⟩]) := by kernel_rfl
def flV (f : Pt → Int) (ps : List Pt) (x y : Int) : Int := bif okL ps && ptB x y then fl f ps 0 (-1) else -1
theorem fl_ag {f : Pt → Int} {ps : List Pt} (h : 0 < ps.length) : fl f ps 0 (-1) = (ag f ps ps.length 0 0 : Nat) := by
  have e := ag_step (f := f) h 0
  rw [Nat.sub_zero, if_neg (Int.lt_irrefl _)] at e
  unfold fl
  rw [if_pos (by omega), if_neg (by omega), e]
theorem fl_nil {f : Pt → Int} {ps : List Pt} (h : ps.length = 0) : fl f ps 0 (-1) = -1 := by
  unfold fl
  rw [if_pos (by omega), if_pos (by omega)]
theorem impl_ext (ps : List Pt) (x y : Int) (h : Big ps) : Res Try.prog 30 [.row ps.length (.ints (flat ps)), .v (.agg #[iv x, iv y])] (iv (flV (fE (x, y)) ps x y)) := by
  refine bodyX_res mixed E6_ok (m := 30) (n := 12) rfl ?_
  rw [tr_implExtF]
  unfold Big at h
  simp only [List.drop_zero, ptsA_flat, flat_length]
  unfold flV okL
  by_cases hl : ps.length ≤ 20
  · have hl2 : (ps.length : Int) ≤ 20 := by omega
    cases hk : allV ps <;> cases hq : ptB x y <;> simp [Tree.ok, brT, h, hl, hl2]
  · have hl2 : ¬ (ps.length : Int) ≤ 20 := by omega
    simp [Tree.ok, brT, hl, hl2]
def pPP (g : List Pt → Int → Int → Int) : List DArg → Option (Value × List Prop)
  | [.row m (.ints xs), .v (.agg ⟨[.int .i64 x, .int .i64 y]⟩)] => some (iv (g (ptsA m xs) x y), [m * 2 ≤ xs.length, m ≤ 1000000000])
  | _ => none
theorem pPP_ok {f : FuncId} {g : List Pt → Int → Int → Int} (h : ∀ (ps : List Pt) (x y : Int), Big ps → Res Try.prog f [.row ps.length (.ints (flat ps)), .v (.agg #[iv x, iv y])] (iv (g ps x y))) {ds : List DArg} {v : Value} {C : List Prop} (hd : pPP g ds = some (v, C)) (hC : AllP C) : Res Try.prog f ds v := by
  unfold pPP at hd
  split at hd
  · rename_i m xs x y
    obtain ⟨rfl, rfl⟩ : _ ∧ _ := by simpa using hd
    obtain ⟨_, h2⟩ := ptsA_spec hC.1
    exact res_pts1 (pre := []) (post := [_]) hC.1 (h (ptsA m xs) x y (by unfold Big; rw [h2]; exact hC.2.1))
  · cases hd
def extV (ps : List Pt) (x y : Int) : Int := flV (fE (x, y)) ps x y
theorem impl_extV (ps : List Pt) (x y : Int) (h : Big ps) : Res Try.prog 30 [.row ps.length (.ints (flat ps)), .v (.agg #[iv x, iv y])] (iv (extV ps x y)) := impl_ext ps x y h
def T4' : Tab := fun f ds => match f with
  | 30 => pPP extV ds
  | f => T3 f ds
theorem T4'_ok : TabOk Try.prog T4' := by
  intro f ds v C h hC
  unfold T4' at h
  (try split at h)
  all_goals first | with_reducible exact pPP_ok spec_extV h hC | with_reducible exact pPP_ok impl_extV h hC | exact T3_ok _ _ _ _ h hC
def E7 : Env := mkE (T4') (R4) (fun _ => noL)
theorem E7_ok : EnvOk Try.prog E7 := mkEOk (T4'_ok) (R4_ok) (fun _ _ _ => noL_good)
theorem ag_lt {f : Pt → Int} {ps : List Pt} : ∀ (n i b : Nat), b < ps.length → i + n ≤ ps.length → ag f ps n i b < ps.length
  | 0, _, _, h, _ => h
  | n + 1, i, b, h, h2 => ag_lt n (i + 1) _ (by split <;> omega) (by omega)
theorem ext_part (ps : List Pt) (x y : Int) : extV ps x y = -1 ∨ (okL ps = true ∧ ptB x y = true ∧ ∃ k : Nat, k < ps.length ∧ extV ps x y = k) := by
  unfold extV flV
  rcases h : (okL ps && ptB x y) with _ | _
  · exact .inl rfl
  · simp only [Bool.and_eq_true] at h
    rcases Nat.eq_zero_or_pos ps.length with h0 | h0
    · exact .inl (fl_nil h0)
    · exact .inr ⟨h.1, h.2, _, ag_lt ps.length 0 0 h0 (by omega), fl_ag h0⟩
theorem ok_get {ps : List Pt} (h : okL ps = true) {k : Nat} (hk : k < ps.length) : ptB (ps.getD k (0, 0)).1 (ps.getD k (0, 0)).2 = true ∧ ps.length ≤ 20 := by
  simp only [okL, Bool.and_eq_true, decide_eq_true_eq] at h
  refine ⟨?_, h.2⟩
  have := List.all_eq_true.1 h.1 (ps.getD k (0, 0)) (by simp [hk])
  exact this
def supV (ps : List Pt) (x y : Int) : Int := if extV ps x y < 0 then 0 else fE (x, y) (ps.getD (extV ps x y).toNat (0, 0))
set_option maxRecDepth 100000 in
theorem tr_iSup (ps : List Pt) (x y : Int) : bodyV Try.prog E7 30 12 18 [.row ps.length (.ints (flat ps)), .v (.agg #[iv x, iv y])] = .need (ps.length * (2 : Nat) ≤ (List.drop 0 (flat ps)).length) (.need (ps.length ≤ (1000000000 : Nat)) (brT (decide (extV (ptsA ps.length (List.drop 0 (flat ps))) x y < 0)) (.fin (.int .i64 (0)) []) (.need ((0 : Int) ≤ extV (ptsA ps.length (List.drop 0 (flat ps))) x y ∧ extV (ptsA ps.length (List.drop 0 (flat ps))) x y < (↑ps.length : Int)) (.need ((0 : Nat) + (extV (ptsA ps.length (List.drop 0 (flat ps))) x y).toNat * (2 : Nat) + (2 : Nat) ≤ (flat ps).length) (.fin (.int .i64 (ŵ (ŵ ((flat ps).getD (0 + (extV (ptsA ps.length (List.drop 0 (flat ps))) x y).toNat * 2) 0 * x) + ŵ ((flat ps).getD (0 + (extV (ptsA ps.length (List.drop 0 (flat ps))) x y).toNat * 2 + 1) 0 * y)))) []))))) := by kernel_rfl
theorem sup_bd {ps : List Pt} {x y : Int} (h1 : okL ps = true) (h2 : ptB x y = true) {k : Nat} (hk : k < ps.length) : (-(1000 * 1000) ≤ (ps.getD k (0, 0)).1 * x ∧ (ps.getD k (0, 0)).1 * x ≤ 1000 * 1000) ∧ (-(1000 * 1000) ≤ (ps.getD k (0, 0)).2 * y ∧ (ps.getD k (0, 0)).2 * y ≤ 1000 * 1000) := by
  have a1 := ptB_true (ok_get h1 hk).1
  have a2 := ptB_true h2
  exact ⟨mul_bd 1000 1000 (by omega) (by omega), mul_bd 1000 1000 (by omega) (by omega)⟩
theorem res_iSup (ps : List Pt) (x y : Int) (h : Big ps) : Res Try.prog 18 [.row ps.length (.ints (flat ps)), .v (.agg #[iv x, iv y])] (iv (supV ps x y)) := by
  refine bodyV_res mixed E7_ok (m := 30) (n := 12) rfl ?_
  rw [tr_iSup]
  unfold Big at h
  simp only [List.drop_zero, ptsA_flat, flat_length]
  unfold supV
  rcases ext_part ps x y with e | ⟨h1, h2, k, hk, e⟩
  · rw [e]
    simp [brT, Tree.ok, h]
  · obtain ⟨b1, b2⟩ := sup_bd h1 h2 hk
    have hn : ¬ (k : Int) < 0 := by omega
    rw [e, if_neg hn, decide_eq_false hn]
    simp only [Int.toNat_natCast, Nat.zero_add, Nat.add_zero, flat_get0, flat_get1, brT_f]
    simp (disch := omega) only [wr]
    simp only [Tree.ok]
    repeat' (first | exact True.intro | exact rfl | assumption | omega | refine And.intro ?_ ?_)
def TSmu : Tab := fun f ds => match f with
  | 18 => pPP supV ds
  | f => TEp f ds
theorem TSmu_ok : TabOk Try.prog TSmu := by
  intro f ds v C h hC
  unfold TSmu at h
  (try split at h)
  all_goals first | with_reducible exact pPP_ok res_iSup h hC | exact TEp_ok _ _ _ _ h hC
def pHm : List DArg → Option (Value × List Prop)
  | [.row m (.ints xs), .row n (.ints ys)] => some (.bool (hmB (ptsA m xs) (ptsA n ys)), [m * 2 ≤ xs.length, n * 2 ≤ ys.length, m ≤ 1000000000, n ≤ 100000, fitL (ptsA n ys)])
  | _ => none
theorem pHms_ok {ds : List DArg} {v : Value} {C : List Prop} (h : pHm ds = some (v, C)) (hC : AllP C) : Res Try.prog 23 ds v := by
  unfold pHm at h
  split at h
  · rename_i m xs n ys
    obtain ⟨rfl, rfl⟩ : _ ∧ _ := by simpa using h
    obtain ⟨_, h2⟩ := ptsA_spec hC.1
    obtain ⟨_, h3⟩ := ptsA_spec hC.2.1
    have h4 : n ≤ 100000 := hC.2.2.2.1
    exact res_pts1 (pre := []) (post := [_]) hC.1 (res_pts1 (pre := [_]) (post := []) hC.2.1 (res_sHm (ptsA m xs) (ptsA n ys) (by unfold Big; rw [h2]; exact hC.2.2.1) (by unfold Big; rw [h3]; omega)))
  · cases h
theorem pHmi_ok {ds : List DArg} {v : Value} {C : List Prop} (h : pHm ds = some (v, C)) (hC : AllP C) : Res Try.prog 25 ds v := by
  unfold pHm at h
  split at h
  · rename_i m xs n ys
    obtain ⟨rfl, rfl⟩ : _ ∧ _ := by simpa using h
    obtain ⟨_, h2⟩ := ptsA_spec hC.1
    obtain ⟨_, h3⟩ := ptsA_spec hC.2.1
    exact res_pts1 (pre := []) (post := [_]) hC.1 (res_pts1 (pre := [_]) (post := []) hC.2.1 (res_iHm (ptsA m xs) (ptsA n ys) (by unfold Big; rw [h2]; exact hC.2.2.1) (by rw [h3]; exact Nat.le_trans hC.2.2.2.1 (by decide)) hC.2.2.2.2.1))
  · cases h
def T2hm : TabR2 := fun ds => match ds with
  | [.row n (.bytes bs)] => some ([ß 0 (apsL bs (rdL n) 0 5).length (apsL bs (rdL n) 0 5).length, ß 1 (dmQ bs (rdL n)).length (dmQ bs (rdL n)).length], ⟨.row 32 2, .ints (flat (apsL bs (rdL n) 0 5))⟩, ⟨.row 32 2, .ints (flat (dmQ bs (rdL n)))⟩, [Bytes bs, n ≤ bs.length])
  | _ => none
theorem T2hm_ok : TabR2Ok Try.prog 27 T2hm := by
  intro ds vs b0 b1 C h hC
  unfold T2hm at h
  split at h
  · obtain ⟨rfl, rfl, rfl, rfl⟩ : _ ∧ _ ∧ _ ∧ _ := by simpa using h
    exact resR_dHm _ _ hC.1 hC.2.1
  · cases h
def JDh : TabJ := consR 27 (r2G T2hm) noJ
theorem JDh_ok : GSound Try.prog JDh.g := consR2_ok (failG_sound _) (entersB_res (by kernel_rfl)).1 T2hm_ok
theorem x_ext (ps : List Pt) (x y : Int) (h : Big ps) : Res Try.prog 30 [.row ps.length (.ints (flat ps)), .v (.agg #[iv x, iv y])] (iv (extV ps x y)) := impl_ext ps x y h
def THq : Tab := fun f ds => match f with
  | 23 => pHm ds
  | 25 => pHm ds
  | 30 => pPP extV ds
  | f => TSmu f ds
theorem THq_ok : TabOk Try.prog THq := by
  intro f ds v C h hC
  unfold THq at h
  split at h
  all_goals first | with_reducible exact pHms_ok h hC | with_reducible exact pHmi_ok h hC | with_reducible exact pPP_ok x_ext h hC | exact TSmu_ok _ _ _ _ h hC
def THa : Tab := orT TSb TMh
theorem THa_ok : TabOk Try.prog THa := orT_ok TSb_ok TMh_ok
def EHa : Env := mkE THa RHw (fun _ => noL)
theorem EHa_ok : EnvOk Try.prog EHa := mkEOk THa_ok RHw_ok (fun _ _ _ => noL_good)
set_option maxRecDepth 100000 in
theorem tr_iHa (ps : List Pt) : bodyV Try.prog EHa 30 12 21 [.row ps.length (.ints (flat ps))] = brT (decide ((↑ps.length : Int) ≤ 20)) (.need (ps.length * (2 : Nat) ≤ (List.drop 0 (flat ps)).length) (.need (ps.length ≤ (1000000000 : Nat)) (brT (!allV (ptsA ps.length (List.drop 0 (flat ps)))) (.fin (.int .i64 (-1)) []) (.need (ps.length * (2 : Nat) ≤ (List.drop 0 (flat ps)).length) (.need (ps.length ≤ (1000000000 : Nat)) (.need ((hulV (ptsA ps.length (List.drop 0 (flat ps)))).length * (2 : Nat) ≤ (List.drop 0 (flat (hulV (ptsA ps.length (List.drop 0 (flat ps)))))).length) (.need (allV (ptsA (hulV (ptsA ps.length (List.drop 0 (flat ps)))).length (List.drop 0 (flat (hulV (ptsA ps.length (List.drop 0 (flat ps))))))) = true) (.need ((hulV (ptsA ps.length (List.drop 0 (flat ps)))).length ≤ (1000 : Nat)) (.fin (.int .i64 (sgA (ptsA (hulV (ptsA ps.length (List.drop 0 (flat ps)))).length (List.drop 0 (flat (hulV (ptsA ps.length (List.drop 0 (flat ps))))))) (hulV (ptsA ps.length (List.drop 0 (flat ps)))).length)) []))))))))) (.fin (.int .i64 (-1)) []) := by kernel_rfl
def haV (ps : List Pt) : Int := bif okL ps then sgA (hulV ps) (hulV ps).length else -1
theorem okL_split {ps : List Pt} (h : okL ps = false) : ps.length ≤ 20 → allV ps = false := fun hl => by
  unfold okL at h
  simpa [hl] using h
theorem allV_hulV (ps : List Pt) : allV (hulV ps) = true := allV_hul (spV_all ps)
theorem res_iHa (ps : List Pt) (h : Big ps) : Res Try.prog 21 [.row ps.length (.ints (flat ps))] (iv (haV ps)) := by
  refine bodyV_res mixed EHa_ok (m := 30) (n := 12) rfl ?_
  rw [tr_iHa]
  unfold Big at h
  simp only [List.drop_zero, ptsA_flat, flat_length]
  have hV := hulV_len ps
  unfold haV
  rcases ho : okL ps with _ | _
  · refine brT_ok.2 ⟨fun hl => ⟨Nat.le_refl _, h, ?_⟩, fun _ => rfl⟩
    rw [okL_split ho (by have := of_decide_eq_true hl; omega)]
    exact rfl
  · obtain ⟨h1, h2⟩ := okL_20 ho
    refine brT_ok.2 ⟨fun hl => ⟨Nat.le_refl _, h, ?_⟩, fun hl => by have := of_decide_eq_false hl; omega⟩
    rw [h1]
    exact ⟨Nat.le_refl _, h, Nat.le_refl _, allV_hulV ps, by omega, rfl⟩
def pHa : List DArg → Option (Value × List Prop)
  | [.row m (.ints xs)] => some (iv (haV (ptsA m xs)), [m * 2 ≤ xs.length, m ≤ 1000000000])
  | _ => none
theorem pHa_i {ds : List DArg} {v : Value} {C : List Prop} (h : pHa ds = some (v, C)) (hC : AllP C) : Res Try.prog 21 ds v := by
  unfold pHa at h
  split at h
  · rename_i m xs
    obtain ⟨rfl, rfl⟩ : _ ∧ _ := by simpa using h
    obtain ⟨_, h2⟩ := ptsA_spec hC.1
    exact res_pts1 (pre := []) (post := []) hC.1 (res_iHa _ (by unfold Big; rw [h2]; exact hC.2.1))
  · cases h
def TLd : Tab := fun f ds => match f with
  | 29 => pLcv ds
  | 21 => pHa ds
  | f => THq f ds
theorem TLd_ok : TabOk Try.prog TLd := by
  intro f ds v C h hC
  unfold TLd at h
  split at h
  all_goals first | with_reducible exact pLcv_ok res_iLcv h hC | with_reducible exact pHa_i h hC | exact THq_ok _ _ _ _ h hC
def ELd0 : Env := ⟨TLd, RMk, fun _ => noL, JDh, fun _ => noR⟩
theorem ELd0_ok : EnvOk Try.prog ELd0 := ⟨TLd_ok, RMk_ok, fun _ _ _ => noL_good, JDh_ok, fun _ _ _ => noR_good⟩
noncomputable def c_lap : Code := ((loopsOf (codeOf Try.f10))[0]?).getD .skip
def k_lap : Ex → List Nat := keeps [3, 6, 7] [(0, [])] [2]
def s_lap (bs ys : List Int) (us hs : List Pt) : Nat → St := fun i => ⟨(ω3 ß 2 us.length us.length :: topV :: topV :: ß 3 hs.length hs.length :: .int .i64 i :: ω49 []), [some ⟨.view, .bytes bs⟩, some ⟨.row 32 2, .ints ys⟩, some ⟨.row 32 2, .ints (flat us)⟩, some ⟨.row 32 2, .ints (flat hs)⟩]⟩
def re_lap : Nat → Ex := fun _ => .exit 0
def rs_lap (bs ys : List Int) (us hs : List Pt) : Nat → St := fun i => ⟨(ω57 []), [some ⟨.view, .bytes bs⟩, some ⟨.row 32 2, .ints ys⟩, some ⟨.row 32 2, .ints (flat us)⟩, some ⟨.row 32 2, .ints (flat hs)⟩]⟩
set_option maxRecDepth 100000 in
theorem tr_lap (bs ys : List Int) (us hs : List Pt) (i : Nat) : bodyL Try.prog ELd0 30 12 noL 1 c_lap k_lap 4 (s_lap bs ys us hs i) = brT (decide ((↑i : Int) < (↑us.length : Int))) (.need ((0 : Int) ≤ (↑i : Int) ∧ (↑i : Int) < (↑us.length : Int)) (.need ((0 : Nat) + (↑i : Int).toNat * (2 : Nat) + (2 : Nat) ≤ (flat us).length) (.need (hs.length * (2 : Nat) ≤ (List.drop 0 (flat hs)).length) (.need (hs.length ≤ (1000000000 : Nat)) (brT (decide (0 ≤ lcvV (ptsA hs.length (List.drop 0 (flat hs))) ((flat us).getD (0 + (↑i : Int).toNat * 2) 0) ((flat us).getD (0 + (↑i : Int).toNat * 2 + 1) 0))) (.leaf .ret ⟨(topV :: topV :: .bool (false) :: ω54 []), [some ⟨.view, .bytes (bs)⟩, some ⟨.row 32 2, .ints (ys)⟩, some ⟨.row 32 2, .ints (flat us)⟩, some ⟨.row 32 2, .ints (flat hs)⟩]⟩) (.leaf .normal ⟨(ω3 ß 2 (us.length) (us.length) :: topV :: topV :: ß 3 (hs.length) (hs.length) :: .int .i64 (ŵ ((↑i : Int) + 1)) :: ω49 []), [some ⟨.view, .bytes (bs)⟩, some ⟨.row 32 2, .ints (ys)⟩, some ⟨.row 32 2, .ints (flat us)⟩, some ⟨.row 32 2, .ints (flat hs)⟩]⟩)))))) (.leaf (.exit 0) ⟨(ω57 []), [some ⟨.view, .bytes (bs)⟩, some ⟨.row 32 2, .ints (ys)⟩, some ⟨.row 32 2, .ints (flat us)⟩, some ⟨.row 32 2, .ints (flat hs)⟩]⟩) := by kernel_rfl
set_option maxRecDepth 100000 in
theorem nl_lap : loopsOf c_lap = [] := by kernel_rfl
def inv_lap (bs ys : List Int) (us hs : List Pt) : Nat → Prop := fun i => i ≤ us.length
def me_lap (bs ys : List Int) (us hs : List Pt) : Nat → Nat := fun i => us.length - i
def Round_lap (bs ys : List Int) (us hs : List Pt) : Prop := ∀ xx : Nat, inv_lap bs ys us hs xx → (bodyL Try.prog ELd0 30 12 noL 1 c_lap k_lap 4 (s_lap bs ys us hs xx)).ok (RoundEnd 4 (s_lap bs ys us hs) (inv_lap bs ys us hs) (me_lap bs ys us hs) re_lap (rs_lap bs ys us hs) xx) (fun _ _ => False)
def e_lap (s : St) (k : Ex → St → Tree) : Option Tree := match Nat.beq s.tmps.length 57, pickL s.tmps [3, 6, 7], s.mem with
  | true, [ß 2 m _, ß 3 r _, .int .i64 i0], [some ⟨.view, .bytes bs⟩, some ⟨.row 32 2, .ints ys⟩, some ⟨.row 32 2, .ints xs⟩, some ⟨.row 32 2, .ints zs⟩] => some (needs [i0 = 0, xs.length = m * 2, zs.length = r * 2, m ≤ 1000000000, r ≤ 1000000000, ∀ q ∈ ptsA m xs, lcvV (ptsA r zs) q.1 q.2 < 0] (k (.exit 0) ⟨(ω57 []), [some ⟨.view, .bytes bs⟩, some ⟨.row 32 2, .ints ys⟩, some ⟨.row 32 2, .ints xs⟩, some ⟨.row 32 2, .ints zs⟩]⟩))
  | _, _, _ => none
set_option maxRecDepth 100000 in
theorem round_lap (bs ys : List Int) (us hs : List Pt) (h : us.length ≤ 1000000000) (h2 : hs.length ≤ 1000000000) (h3 : ∀ q ∈ us, lcvV hs q.1 q.2 < 0) : Round_lap bs ys us hs := by
  intro i h1
  have h1 : i ≤ us.length := h1
  rw [tr_lap]
  simp only [brT_ok, Tree.ok, decide_eq_true_eq, decide_eq_false_iff_not, List.drop_zero, ptsA_flat, Int.toNat_natCast, Nat.zero_add, Nat.add_zero, flat_length, flat_get0, flat_get1]
  refine ⟨fun hlt => ?_, fun hge => ?_⟩
  · have hlt : i < us.length := by omega
    rw [wsucc (n := us.length) (by omega) h]
    have hq := h3 _ (getD_mem' hlt)
    refine ⟨by omega, by omega, by omega, by omega, fun hc => by omega, fun _ => ⟨i + 1, [], ?_, ?_, rfl, rfl, ?_⟩⟩
    · show i + 1 ≤ us.length; omega
    · show us.length - (i + 1) < us.length - i; omega
    · repeat' (first | exact True.intro | exact rfl | exact fun _ => rfl | refine And.intro ?_ ?_)
  · refine ⟨rfl, [], ?_⟩
    repeat' (first | exact True.intro | exact rfl | exact fun _ => rfl | refine And.intro ?_ ?_)
set_option maxRecDepth 100000 in
theorem lg_lap : LoopE Try.prog e_lap c_lap := by
  intro s k t F H hlt ht
  unfold e_lap at hlt
  split at hlt
  rotate_left
  · cases hlt
  rename_i hlen hpick hmem
  obtain ⟨tmps, mem⟩ := s
  simp only at hlen hpick hmem
  subst hmem
  obtain rfl := Option.some.inj hlt
  obtain ⟨⟨rfl, h1, g1, h2, g2, h3, _⟩, ht2⟩ := needs_ok ht
  clear ht hlt
  obtain ⟨us, rfl, rfl⟩ := even_flat h1
  obtain ⟨hs, rfl, rfl⟩ := even_flat g1
  simp only [ptsA_flat] at h3
  refine ⟨_, _, ht2, loop_run mixed ELd0_ok (s_lap _ _ _ _) (inv_lap _ _ _ _) (me_lap _ _ _ _) re_lap (rs_lap _ _ _ _) k_lap (fun _ => rfl) (noLoops nl_lap) (round_lap _ _ _ _ h2 g2 h3) (x := 0) (Nat.zero_le _) (π := []) rfl ?_⟩
  refine ⟨rfl, rfl, ?_, wvs_spread' [3, 6, 7] hlen rfl ?_⟩
  · repeat' (first | exact True.intro | exact rfl | exact wv_top _ _ | exact fun _ => rfl | assumption | exact Eq.symm (by assumption) | exact vI0 rfl | refine And.intro ?_ ?_)
  · rw [hpick]
    repeat' (first | exact True.intro | exact rfl | exact wv_top _ _ | exact fun _ => rfl | assumption | exact Eq.symm (by assumption) | exact vI0 rfl | refine And.intro ?_ ?_)
theorem Lr_lap {fn : Func} (hf : Try.prog.funcs[10]? = some fn) : LoopsGood Try.prog (lt1 e_lap) 0 (codeOf fn) := by
  obtain rfl := fn_is Try.func10 hf
  exact lt1_good lg_lap
def LLd : FuncId → LT := fun f => match f with
  | 10 => lt1 e_lap
  | _ => noL
def ELd : Env := ⟨TLd, RMk, LLd, JDh, fun _ => noR⟩
theorem ELd_ok : EnvOk Try.prog ELd := ⟨TLd_ok, RMk_ok, (by
  intro f fn hf
  show LoopsGood Try.prog (LLd f) 0 (codeOf fn)
  unfold LLd
  split
  all_goals first | with_reducible exact Lr_lap hf | exact noL_good), JDh_ok, fun _ _ _ => noR_good⟩
abbrev zlHp_0 (bs : List Int) := (dmQ (List.drop 0 bs) (rdL bs.length))
abbrev zlHp_1 (bs : List Int) := (hmB (ptsA (apsL (List.drop 0 bs) (rdL bs.length) 0 5).length (List.drop 0 (flat (apsL (List.drop 0 bs) (rdL bs.length) 0 5)))) (ptsA (dmQ (List.drop 0 bs) (rdL bs.length)).length (List.drop 0 (flat (dmQ (List.drop 0 bs) (rdL bs.length))))) == hmB (ptsA (apsL (List.drop 0 bs) (rdL bs.length) 0 5).length (List.drop 0 (flat (apsL (List.drop 0 bs) (rdL bs.length) 0 5)))) (ptsA (dmQ (List.drop 0 bs) (rdL bs.length)).length (List.drop 0 (flat (dmQ (List.drop 0 bs) (rdL bs.length))))))
abbrev zlHp_2 (bs : List Int) := (apsL (List.drop 0 bs) (rdL bs.length) (0 : Int) (5 : Int))
abbrev zlHp_3 (bs : List Int) := (ptsA (zlHp_0 bs).length (List.drop 0 (flat (zlHp_0 bs))))
set_option maxRecDepth 100000 in
theorem tr_lHp (bs : List Int) : bodyP Try.prog ELd 30 12 10 [.row bs.length (.bytes bs)] = brT (decide (1048576 < (↑bs.length : Int))) (.fin (.bool (true)) []) (.need (Bytes (List.drop 0 bs)) (.need (bs.length ≤ (List.drop 0 bs).length) (.need ((zlHp_2 bs).length * (2 : Nat) ≤ (List.drop 0 (flat (zlHp_2 bs))).length) (.need ((zlHp_0 bs).length * (2 : Nat) ≤ (List.drop 0 (flat (zlHp_0 bs))).length) (.need ((zlHp_2 bs).length ≤ (1000000000 : Nat)) (.need ((zlHp_0 bs).length ≤ (100000 : Nat)) (.need (fitL (zlHp_3 bs)) (.need ((zlHp_0 bs).length * (2 : Nat) ≤ (List.drop 0 (flat (zlHp_0 bs))).length) (.need ((zlHp_0 bs).length ≤ (1000000000 : Nat)) (.need ((zlHp_2 bs).length * (2 : Nat) ≤ (List.drop 0 (flat (zlHp_2 bs))).length) (.need ((zlHp_0 bs).length * (2 : Nat) ≤ (List.drop 0 (flat (zlHp_0 bs))).length) (.need ((zlHp_2 bs).length ≤ (1000000000 : Nat)) (.need ((zlHp_0 bs).length ≤ (100000 : Nat)) (.need (fitL (zlHp_3 bs)) (brT (!hmB (ptsA (apsL (List.drop 0 bs) (rdL bs.length) 0 5).length (List.drop 0 (flat (apsL (List.drop 0 bs) (rdL bs.length) 0 5)))) (ptsA (dmQ (List.drop 0 bs) (rdL bs.length)).length (List.drop 0 (flat (dmQ (List.drop 0 bs) (rdL bs.length))))) == hmB (ptsA (apsL (List.drop 0 bs) (rdL bs.length) 0 5).length (List.drop 0 (flat (apsL (List.drop 0 bs) (rdL bs.length) 0 5)))) (ptsA (dmQ (List.drop 0 bs) (rdL bs.length)).length (List.drop 0 (flat (dmQ (List.drop 0 bs) (rdL bs.length)))))) (.need ((zlHp_2 bs).length * (2 : Nat) ≤ (List.drop 0 (flat (zlHp_2 bs))).length) (.need ((zlHp_0 bs).length * (2 : Nat) ≤ (List.drop 0 (flat (zlHp_0 bs))).length) (.need ((zlHp_2 bs).length ≤ (1000000000 : Nat)) (.need ((zlHp_0 bs).length ≤ (100000 : Nat)) (.need (fitL (zlHp_3 bs)) (.fin (.bool (zlHp_1 bs)) [])))))) (brT (hmB (ptsA (apsL (List.drop 0 bs) (rdL bs.length) 0 5).length (List.drop 0 (flat (apsL (List.drop 0 bs) (rdL bs.length) 0 5)))) (ptsA (dmQ (List.drop 0 bs) (rdL bs.length)).length (List.drop 0 (flat (dmQ (List.drop 0 bs) (rdL bs.length)))))) (.need ((zlHp_2 bs).length * (2 : Nat) ≤ (List.drop 0 (flat (zlHp_2 bs))).length) (.need ((zlHp_0 bs).length * (2 : Nat) ≤ (List.drop 0 (flat (zlHp_0 bs))).length) (.need ((zlHp_2 bs).length ≤ (1000000000 : Nat)) (.need ((zlHp_0 bs).length ≤ (100000 : Nat)) (.need (fitL (zlHp_3 bs)) (.fin (.bool (zlHp_1 bs)) [])))))) (brT (decide ((↑(hulV (ptsA (dmQ (List.drop 0 bs) (rdL bs.length)).length (List.drop 0 (flat (dmQ (List.drop 0 bs) (rdL bs.length)))))).length : Int) < 3)) (.need ((zlHp_2 bs).length * (2 : Nat) ≤ (List.drop 0 (flat (zlHp_2 bs))).length) (.need ((zlHp_0 bs).length * (2 : Nat) ≤ (List.drop 0 (flat (zlHp_0 bs))).length) (.need ((zlHp_2 bs).length ≤ (1000000000 : Nat)) (.need ((zlHp_0 bs).length ≤ (100000 : Nat)) (.need (fitL (zlHp_3 bs)) (.fin (.bool (zlHp_1 bs)) [])))))) (.need ((zlHp_2 bs).length * (2 : Nat) ≤ (List.drop 0 (flat (zlHp_2 bs))).length) (.need ((zlHp_2 bs).length ≤ (1000000000 : Nat)) (brT (decide (haV (ptsA (apsL (List.drop 0 bs) (rdL bs.length) 0 5).length (List.drop 0 (flat (apsL (List.drop 0 bs) (rdL bs.length) 0 5)))) < 0)) (.need ((zlHp_2 bs).length * (2 : Nat) ≤ (List.drop 0 (flat (zlHp_2 bs))).length) (.need ((zlHp_0 bs).length * (2 : Nat) ≤ (List.drop 0 (flat (zlHp_0 bs))).length) (.need ((zlHp_2 bs).length ≤ (1000000000 : Nat)) (.need ((zlHp_0 bs).length ≤ (100000 : Nat)) (.need (fitL (zlHp_3 bs)) (.fin (.bool (zlHp_1 bs)) [])))))) (.need ((0 : Int) = (0 : Int)) (.need ((flat (zlHp_2 bs)).length = (zlHp_2 bs).length * (2 : Nat)) (.need ((flat (hulV (zlHp_3 bs))).length = (hulV (zlHp_3 bs)).length * (2 : Nat)) (.need ((zlHp_2 bs).length ≤ (1000000000 : Nat)) (.need ((hulV (zlHp_3 bs)).length ≤ (1000000000 : Nat)) (.need (∀ (q : Pt), q ∈ ptsA (zlHp_2 bs).length (flat (zlHp_2 bs)) → lcvV (ptsA (hulV (zlHp_3 bs)).length (flat (hulV (zlHp_3 bs)))) q.fst q.snd < (0 : Int)) (.fin (.bool (true)) []))))))))))))))))))))))))))) := by kernel_rfl
theorem haV_okL {ps : List Pt} (h : ¬ haV ps < 0) : okL ps = true := by
  unfold haV at h
  rcases ho : okL ps with _ | _
  · rw [ho] at h
    exact absurd (show (-1 : Int) < 0 by decide) h
  · rfl
theorem hul3_okL {vs : List Pt} (h : ¬ ((hulV vs).length : Int) < 3) : okL vs = true := by
  rcases ho : okL vs with _ | _
  · rw [hulV_no ho] at h
    exact absurd (show ((([] : List Pt).length : Nat) : Int) < 3 by decide) h
  · rfl
set_option maxRecDepth 100000 in
theorem law_hp (bs : List Int) (hb : Bytes bs) (_ : bs.length ≤ maxLen) : Res Try.prog 10 [.row bs.length (.bytes bs)] (.bool true) := by
  refine bodyP_res mixed ELd_ok (m := 30) (n := 12) rfl ?_
  rw [tr_lHp]
  try delta zB2 zB4 zR2 zI zlHp_0 zlHp_1 zlHp_2 zlHp_3
  simp only [List.drop_zero, ptsA_flat, flat_length]
  obtain ⟨_, _, _, _, k5, k6⟩ := dmKey hb (Nat.le_refl _) (l := rdL bs.length) (by unfold rdL; omega) (by unfold rdL; omega)
  rw [← dmQ_len] at k6
  have f1 := apsL_fit bs (rdL bs.length) 0 5
  have f2 := dmQ_fit bs (rdL bs.length)
  generalize apsL bs (rdL bs.length) 0 5 = us at *
  generalize dmQ bs (rdL bs.length) = vs at *
  simp only [beq_self_eq_true, Bool.not_true, brT_f, brT_t]
  have key : ¬ haV us < 0 → ¬ ((hulV vs).length : Int) < 3 → hmB us vs = false → ∀ q ∈ us, lcvV (hulV vs) q.1 q.2 < 0 := fun h0 h1 h2 q hq => apart_out (haV_okL h0) (hul3_okL h1) (by omega) h2 hq
  have hV := hulV_leK vs
  clear f1
  refine brT_ok.2 ⟨fun _ => rfl, fun _ => ?_⟩
  rcases hB : hmB us vs with _ | _
  · by_cases c2 : ((hulV vs).length : Int) < 3
    · simp only [brT_t, brT_f, decide_eq_true c2, Bool.not_true, Bool.not_false, beq_self_eq_true]
      repeat' (first | exact True.intro | assumption | omega | exact rfl | refine And.intro ?_ ?_)
    · by_cases c3 : haV us < 0
      · simp only [brT_t, brT_f, decide_eq_false c2, decide_eq_true c3, Bool.not_true, Bool.not_false, beq_self_eq_true]
        repeat' (first | exact True.intro | assumption | omega | exact rfl | refine And.intro ?_ ?_)
      · have q := key c3 c2 hB
        simp only [brT_t, brT_f, decide_eq_false c2, decide_eq_false c3, Bool.not_true, Bool.not_false, beq_self_eq_true]
        repeat' (first | exact True.intro | assumption | omega | exact rfl | refine And.intro ?_ ?_)
  · simp only [brT_t, brT_f, Bool.not_true, Bool.not_false, beq_self_eq_true]
    repeat' (first | exact True.intro | assumption | omega | exact rfl | refine And.intro ?_ ?_)
end Go.Proofs.Ytbfoheblcoakiaa
