/-
  Texts that the proof needs, merged. Written by an AI agent.
-/
import Derived.Orders
import Derived.Below
import Derived.OrdersIn
import Derived.Deep.LoopGhost
import Derived.WalkKit
import Derived.Laws.CopyRow
import Derived.Laws.AppendOwn
import Derived.Laws.Slices
import Derived.Laws.MakeOwn
import Derived.Test.YtnjmepbblcfnfaaRows
import Derived.ProofKit
import Derived.OpenShut
import Derived.Carry
import Derived.IntWalk
import Derived.Test.YtnjmepbblcfnfaaProg
import Derived.WalkSpells
import Derived.WalkLawsBesides
import Derived.Lib.Hide
import Derived.Deep.QuietTactic
import Derived.BigQuiet
import Derived.KernelRfl
import Derived.Deep.RegionHeld3
import Derived.LoopTactic
import Derived.Laws.StructEq
import Derived.Laws.Tables
import Derived.RangeFuncNested
import Derived.RangeFuncLeaves
import Derived.Deep.Slices
import Derived.Deep.Fields
import Derived.ChangeSame
import Derived.Test.YtnjmepbblcfnfaaZInRegion3
namespace Go.Proofs.Ytnjmepbblcfnfaa
set_option linter.all false
open Go.RowKit
noncomputable def c_lir : Code := ((loopsOf (codeOf Try.f12))[0]?).getD .skip
def k_lir : Ex → List Nat := keeps [3, 4, 5, 6, 7] [(0, [4, 5, 6])] [2]
def s_lir (bs xs : List Int) (n : Nat) (x y : Int) (is : Bool) : Nat × Bool → St := fun (i, b) => ⟨(topV :: topV :: topV :: .slice (some ⟨2, 0, none⟩) n n :: .pointer (some ⟨1, 0, none⟩) :: .bool is :: .bool b :: .int .i64 i :: topV :: topV :: topV :: topV :: topV :: topV :: topV :: topV :: topV :: topV :: topV :: topV :: topV :: topV :: topV :: topV :: topV :: topV :: topV :: topV :: topV :: topV :: topV :: topV :: topV :: topV :: topV :: topV :: topV :: topV :: topV :: topV :: topV :: topV :: topV :: topV :: topV :: topV :: topV :: topV :: topV :: topV :: topV :: topV :: topV :: topV :: topV :: topV :: topV :: topV :: topV :: topV :: topV :: topV :: topV :: []), [some ⟨.view, .bytes bs⟩, some ⟨.box, .vals [.int .i64 x, .int .i64 y]⟩, some ⟨.row 104 3, .ints xs⟩]⟩
def re_lir : Nat × Bool → Ex := fun _ => .exit 0
def rs_lir (bs xs : List Int) (n : Nat) (x y : Int) (is : Bool) : Nat × Bool → St := fun (i, b) => ⟨(topV :: topV :: topV :: topV :: .pointer (some ⟨1, 0, none⟩) :: .bool is :: .bool (b && allQ (inQ xs x y) i (n - i)) :: topV :: topV :: topV :: topV :: topV :: topV :: topV :: topV :: topV :: topV :: topV :: topV :: topV :: topV :: topV :: topV :: topV :: topV :: topV :: topV :: topV :: topV :: topV :: topV :: topV :: topV :: topV :: topV :: topV :: topV :: topV :: topV :: topV :: topV :: topV :: topV :: topV :: topV :: topV :: topV :: topV :: topV :: topV :: topV :: topV :: topV :: topV :: topV :: topV :: topV :: topV :: topV :: topV :: topV :: topV :: topV :: []), [some ⟨.view, .bytes bs⟩, some ⟨.box, .vals [.int .i64 x, .int .i64 y]⟩, some ⟨.row 104 3, .ints xs⟩]⟩
set_option maxRecDepth 100000 in
theorem tr_lir (bs xs : List Int) (n : Nat) (x y : Int) (is : Bool) (i : Nat) (b : Bool) : bodyL Try.prog ELi 30 12 noL 1 c_lir k_lir 3 (s_lir bs xs n x y is (i, b)) = brT (decide ((↑i : Int) < (↑n : Int))) (brT (b) (.need (((bndI (some (IntKind.i64, IntKind.i64.wrap ((↑i : Int) + (1 : Int)))) (↑n : Int)).toNat - (bndI (some (IntKind.i64, (↑i : Int))) (0 : Int)).toNat) * (3 : Nat) ≤ (List.drop ((0 : Nat) + (bndI (some (IntKind.i64, (↑i : Int))) (0 : Int)).toNat * (3 : Nat)) xs).length) (.need (Lim ((bndI (some (IntKind.i64, IntKind.i64.wrap ((↑i : Int) + (1 : Int)))) (↑n : Int)).toNat - (bndI (some (IntKind.i64, (↑i : Int))) (0 : Int)).toNat)) (.need ((0 : Int) ≤ bndI (some (IntKind.i64, (↑i : Int))) (0 : Int) ∧ bndI (some (IntKind.i64, (↑i : Int))) (0 : Int) ≤ bndI (some (IntKind.i64, IntKind.i64.wrap ((↑i : Int) + (1 : Int)))) (↑n : Int) ∧ bndI (some (IntKind.i64, IntKind.i64.wrap ((↑i : Int) + (1 : Int)))) (↑n : Int) ≤ (↑n : Int)) (.leaf .normal ⟨(topV :: topV :: topV :: .slice (some ⟨2, 0, none⟩) (n) (n) :: .pointer (some ⟨1, 0, none⟩) :: .bool (is) :: .bool (irB ((bndI (some (IntKind.i64, IntKind.i64.wrap ((↑i : Int) + 1))) (↑n : Int)).toNat - (bndI (some (IntKind.i64, (↑i : Int))) 0).toNat) (List.take (((bndI (some (IntKind.i64, IntKind.i64.wrap ((↑i : Int) + 1))) (↑n : Int)).toNat - (bndI (some (IntKind.i64, (↑i : Int))) 0).toNat) * 3) (List.drop (0 + (bndI (some (IntKind.i64, (↑i : Int))) 0).toNat * 3) xs)) x y) :: .int .i64 (IntKind.i64.wrap ((↑i : Int) + 1)) :: topV :: topV :: topV :: topV :: topV :: topV :: topV :: topV :: topV :: topV :: topV :: topV :: topV :: topV :: topV :: topV :: topV :: topV :: topV :: topV :: topV :: topV :: topV :: topV :: topV :: topV :: topV :: topV :: topV :: topV :: topV :: topV :: topV :: topV :: topV :: topV :: topV :: topV :: topV :: topV :: topV :: topV :: topV :: topV :: topV :: topV :: topV :: topV :: topV :: topV :: topV :: topV :: topV :: topV :: topV :: []), [some ⟨.view, .bytes (bs)⟩, some ⟨.box, .vals [.int .i64 (x), .int .i64 (y)]⟩, some ⟨.row 104 3, .ints (xs)⟩]⟩)))) (.leaf .normal ⟨(topV :: topV :: topV :: .slice (some ⟨2, 0, none⟩) (n) (n) :: .pointer (some ⟨1, 0, none⟩) :: .bool (is) :: .bool (false) :: .int .i64 (IntKind.i64.wrap ((↑i : Int) + 1)) :: topV :: topV :: topV :: topV :: topV :: topV :: topV :: topV :: topV :: topV :: topV :: topV :: topV :: topV :: topV :: topV :: topV :: topV :: topV :: topV :: topV :: topV :: topV :: topV :: topV :: topV :: topV :: topV :: topV :: topV :: topV :: topV :: topV :: topV :: topV :: topV :: topV :: topV :: topV :: topV :: topV :: topV :: topV :: topV :: topV :: topV :: topV :: topV :: topV :: topV :: topV :: topV :: topV :: topV :: topV :: []), [some ⟨.view, .bytes (bs)⟩, some ⟨.box, .vals [.int .i64 (x), .int .i64 (y)]⟩, some ⟨.row 104 3, .ints (xs)⟩]⟩)) (.leaf (.exit 0) ⟨(topV :: topV :: topV :: topV :: .pointer (some ⟨1, 0, none⟩) :: .bool (is) :: .bool (b) :: topV :: topV :: topV :: topV :: topV :: topV :: topV :: topV :: topV :: topV :: topV :: topV :: topV :: topV :: topV :: topV :: topV :: topV :: topV :: topV :: topV :: topV :: topV :: topV :: topV :: topV :: topV :: topV :: topV :: topV :: topV :: topV :: topV :: topV :: topV :: topV :: topV :: topV :: topV :: topV :: topV :: topV :: topV :: topV :: topV :: topV :: topV :: topV :: topV :: topV :: topV :: topV :: topV :: topV :: topV :: topV :: []), [some ⟨.view, .bytes (bs)⟩, some ⟨.box, .vals [.int .i64 (x), .int .i64 (y)]⟩, some ⟨.row 104 3, .ints (xs)⟩]⟩) := by kernel_rfl
set_option maxRecDepth 100000 in
theorem nl_lir : loopsOf c_lir = [] := by kernel_rfl
def inv_lir (bs xs : List Int) (n : Nat) (x y : Int) (is : Bool) : Nat × Bool → Prop := fun (i, b) => i ≤ n
def me_lir (bs xs : List Int) (n : Nat) (x y : Int) (is : Bool) : Nat × Bool → Nat := fun (i, b) => n - i
/-- A round of this loop. -/
def Round_lir (bs xs : List Int) (n : Nat) (x y : Int) (is : Bool) : Prop := ∀ xx : Nat × Bool, inv_lir bs xs n x y is xx → (bodyL Try.prog ELi 30 12 noL 1 c_lir k_lir 3 (s_lir bs xs n x y is xx)).ok (RoundEnd 3 (s_lir bs xs n x y is) (inv_lir bs xs n x y is) (me_lir bs xs n x y is) re_lir (rs_lir bs xs n x y is) xx) (fun _ _ => False)
def e_lir (s : St) (k : Ex → St → Tree) : Option Tree := match Nat.beq s.tmps.length 63, pickL s.tmps [3, 4, 5, 6, 7], s.mem with
  | true, [.slice (some ⟨2, 0, none⟩) n _, .pointer (some ⟨1, 0, none⟩), .bool is, .bool b, .int .i64 ii], [some ⟨.view, .bytes bs⟩, some ⟨.box, .vals [.int .i64 x, .int .i64 y]⟩, some ⟨.row 104 3, .ints xs⟩] => some (needs [ii = 0, b = true, xs.length = n * 3, n ≤ 1000, allQ (hfQ xs) 0 n = true, ptB x y = true] (k (.exit 0) ⟨(topV :: topV :: topV :: topV :: .pointer (some ⟨1, 0, none⟩) :: .bool is :: .bool (true && allQ (inQ xs x y) 0 n) :: topV :: topV :: topV :: topV :: topV :: topV :: topV :: topV :: topV :: topV :: topV :: topV :: topV :: topV :: topV :: topV :: topV :: topV :: topV :: topV :: topV :: topV :: topV :: topV :: topV :: topV :: topV :: topV :: topV :: topV :: topV :: topV :: topV :: topV :: topV :: topV :: topV :: topV :: topV :: topV :: topV :: topV :: topV :: topV :: topV :: topV :: topV :: topV :: topV :: topV :: topV :: topV :: topV :: topV :: topV :: topV :: []), [some ⟨.view, .bytes bs⟩, some ⟨.box, .vals [.int .i64 x, .int .i64 y]⟩, some ⟨.row 104 3, .ints xs⟩]⟩))
  | _, _, _ => none
theorem get3 {xs : List Int} {i m : Nat} (h : m < 3) (hx : i * 3 + 3 ≤ xs.length) : (List.take 3 (List.drop (i * 3) xs)).getD m 0 = xs.getD (i * 3 + m) 0 := by
  simp [List.getD_eq_getElem?_getD, List.getElem?_take, h]
theorem ir_one {xs : List Int} {n i : Nat} {x y : Int} (hx : xs.length = n * 3) (hi : i < n) (hv : allQ (hfQ xs) 0 n = true) (hp : ptB x y = true) : irB 1 (List.take 3 (List.drop (i * 3) xs)) x y = inQ xs x y i := by
  have bq := allQ_get n 0 hv i (by omega) (by omega)
  have e0 := get3 (xs := xs) (i := i) (m := 0) (by omega) (by omega)
  have e1 := get3 (xs := xs) (i := i) (m := 1) (by omega) (by omega)
  have e2 := get3 (xs := xs) (i := i) (m := 2) (by omega) (by omega)
  have h1 : hfQ (List.take 3 (List.drop (i * 3) xs)) 0 = true := by
    rw [← bq]
    unfold hfQ
    simp only [Nat.zero_mul, Nat.zero_add, e0, e1, e2, Nat.add_zero]
  have h2 : inQ (List.take 3 (List.drop (i * 3) xs)) x y 0 = inQ xs x y i := by
    unfold inQ
    simp only [Nat.zero_mul, Nat.zero_add, e0, e1, e2, Nat.add_zero]
  unfold irB vhB
  simp only [allQ, h1, h2, hp, Bool.and_true, Bool.true_and]
  rfl
set_option maxRecDepth 100000 in
theorem round_lir (bs xs : List Int) (n : Nat) (x y : Int) (is : Bool) (hx : xs.length = n * 3) (h : n ≤ 1000) (hv : allQ (hfQ xs) 0 n = true) (hp : ptB x y = true) : Round_lir bs xs n x y is := by
  rintro ⟨i, b⟩ h1
  have h1 : i ≤ n := h1
  rw [tr_lir]
  simp only [Int.toNat_natCast, Nat.zero_add, Nat.add_zero]
  refine brT_ok.2 ⟨fun hlt => ?_, fun hge => ?_⟩
  · have hlt := of_decide_eq_true hlt
    have hi : i < n := by omega
    have st := allQ_step (P := inQ xs x y) (i := i) (n := n) hi
    have ho := ir_one hx hi hv hp
    rw [wsucc (n := n) hi (by omega)]
    have new : ∀ c : Bool, c = (b && inQ xs x y i) → RoundEnd 3 (s_lir bs xs n x y is) (inv_lir bs xs n x y is) (me_lir bs xs n x y is) re_lir (rs_lir bs xs n x y is) (i, b) .normal (s_lir bs xs n x y is (i + 1, c)) := fun c e => by
      refine ⟨(i + 1, c), [], ?_, ?_, rfl, ?_, ?_⟩
      · show i + 1 ≤ n; omega
      · show n - (i + 1) < n - i; omega
      · simp only [rs_lir, st, e, Bool.and_assoc]
      · repeat' (first | exact True.intro | exact rfl | exact fun _ => rfl | refine And.intro ?_ ?_)
    have e1 : bndI (some (IntKind.i64, (i : Int))) 0 = i := rfl
    have e2 : bndI (some (IntKind.i64, ((i + 1 : Nat) : Int))) n = ((i + 1 : Nat) : Int) := rfl
    rcases b with _ | _
    · simp only [brT_f, Tree.ok]
      exact new false rfl
    · simp only [brT_t, Tree.ok, e1, e2, Int.toNat_natCast, show i + 1 - i = 1 by omega, Nat.one_mul, ho]
      refine ⟨by simp; omega, by unfold Lim; omega, ⟨by omega, by omega, by omega⟩, ?_⟩
      exact new _ rfl
  · have hge := of_decide_eq_false hge
    have e : allQ (inQ xs x y) i (n - i) = true := allQ_end (by omega)
    refine ⟨rfl, [], ?_⟩
    simp only [rs_lir, e, Bool.and_true]
    repeat' (first | exact True.intro | exact rfl | exact fun _ => rfl | refine And.intro ?_ ?_)
set_option maxRecDepth 100000 in
theorem lg_lir : LoopE Try.prog e_lir c_lir := by
  intro s k t F H hlt ht
  unfold e_lir at hlt
  split at hlt
  rotate_left
  · cases hlt
  rename_i hlen hpick hmem
  obtain ⟨tmps, mem⟩ := s
  simp only at hlen hpick hmem
  subst hmem
  obtain rfl := Option.some.inj hlt
  obtain ⟨⟨rfl, rfl, h1, h2, h3, h4, _⟩, ht2⟩ := needs_ok ht
  clear ht hlt
  refine ⟨_, _, ht2, loop_run mixed ELi_ok (s_lir _ _ _ _ _ _) (inv_lir _ _ _ _ _ _) (me_lir _ _ _ _ _ _) re_lir (rs_lir _ _ _ _ _ _) k_lir (fun _ => rfl) (noLoops nl_lir) (round_lir _ _ _ _ _ _ h1 h2 h3 h4) (x := (0, true)) (Nat.zero_le _) (π := []) rfl ?_⟩
  refine ⟨rfl, rfl, ?_, wvs_spread' [3, 4, 5, 6, 7] hlen rfl ?_⟩
  · repeat' (first | exact True.intro | exact rfl | exact wv_top _ _ | exact fun _ => rfl | assumption | exact Eq.symm (by assumption) | exact vI0 rfl | refine And.intro ?_ ?_)
  · rw [hpick]
    repeat' (first | exact True.intro | exact rfl | exact wv_top _ _ | exact fun _ => rfl | assumption | exact Eq.symm (by assumption) | exact vI0 rfl | refine And.intro ?_ ?_)
theorem Lr_lir {fn : Func} (hf : Try.prog.funcs[12]? = some fn) : LoopsGood Try.prog (lt1 e_lir) 0 (codeOf fn) := by
  obtain rfl := fn_is Try.func12 hf
  exact lt1_good lg_lir
def LLi : FuncId → LT := fun f => match f with
  | 12 => lt1 e_lir
  | _ => noL
def ELj : Env := mkE TLi RLi LLi
theorem ELj_ok : EnvOk Try.prog ELj := mkEOk TLi_ok RLi_ok (by
  intro f fn hf
  unfold LLi
  split
  all_goals first | with_reducible exact Lr_lir hf | exact noL_good)
set_option maxRecDepth 100000 in
theorem tr_lIr (bs : List Int) : bodyV Try.prog ELj 30 12 12 [.row bs.length (.bytes bs)] = brT (decide (1048576 < (↑bs.length : Int))) (.fin (.bool (true)) []) (.need (Bytes (List.drop (0 : Nat) bs)) (.need (bs.length ≤ (List.drop (0 : Nat) bs).length) (.need (ahN (List.drop (0 : Nat) bs) (rdL bs.length) (0 : Int) * (3 : Nat) ≤ (List.drop (0 : Nat) (ahL (List.drop (0 : Nat) bs) (rdL bs.length) (0 : Int))).length) (.need (Lim (ahN (List.drop (0 : Nat) bs) (rdL bs.length) (0 : Int))) (.need ((List.drop (0 : Nat) (ahL (List.drop (0 : Nat) bs) (rdL bs.length) (0 : Int))).length = ahN (List.drop (0 : Nat) bs) (rdL bs.length) (0 : Int) * (3 : Nat)) (.need (Lim (ahN (List.drop (0 : Nat) bs) (rdL bs.length) (0 : Int))) (brT (!irB (ahN (List.drop 0 bs) (rdL bs.length) 0) (List.take (ahN (List.drop 0 bs) (rdL bs.length) 0 * 3) (List.drop 0 (ahL (List.drop 0 bs) (rdL bs.length) 0))) (apX (List.drop 0 bs) (rdL bs.length) (ahP (List.drop 0 bs) (rdL bs.length) 0)) (apY (List.drop 0 bs) (rdL bs.length) (ahP (List.drop 0 bs) (rdL bs.length) 0)) == irB (ahN (List.drop 0 bs) (rdL bs.length) 0) (List.drop 0 (ahL (List.drop 0 bs) (rdL bs.length) 0)) (apX (List.drop 0 bs) (rdL bs.length) (ahP (List.drop 0 bs) (rdL bs.length) 0)) (apY (List.drop 0 bs) (rdL bs.length) (ahP (List.drop 0 bs) (rdL bs.length) 0))) (.need ((List.drop (0 : Nat) (ahL (List.drop (0 : Nat) bs) (rdL bs.length) (0 : Int))).length = ahN (List.drop (0 : Nat) bs) (rdL bs.length) (0 : Int) * (3 : Nat)) (.need (Lim (ahN (List.drop (0 : Nat) bs) (rdL bs.length) (0 : Int))) (.fin (.bool (irB (ahN (List.drop 0 bs) (rdL bs.length) 0) (List.take (ahN (List.drop 0 bs) (rdL bs.length) 0 * 3) (List.drop 0 (ahL (List.drop 0 bs) (rdL bs.length) 0))) (apX (List.drop 0 bs) (rdL bs.length) (ahP (List.drop 0 bs) (rdL bs.length) 0)) (apY (List.drop 0 bs) (rdL bs.length) (ahP (List.drop 0 bs) (rdL bs.length) 0)) == irB (ahN (List.drop 0 bs) (rdL bs.length) 0) (List.drop 0 (ahL (List.drop 0 bs) (rdL bs.length) 0)) (apX (List.drop 0 bs) (rdL bs.length) (ahP (List.drop 0 bs) (rdL bs.length) 0)) (apY (List.drop 0 bs) (rdL bs.length) (ahP (List.drop 0 bs) (rdL bs.length) 0)))) []))) (.need ((List.drop (0 : Nat) (ahL (List.drop (0 : Nat) bs) (rdL bs.length) (0 : Int))).length = ahN (List.drop (0 : Nat) bs) (rdL bs.length) (0 : Int) * (3 : Nat)) (.need (Lim (ahN (List.drop (0 : Nat) bs) (rdL bs.length) (0 : Int))) (brT (!vhB (ahN (List.drop 0 bs) (rdL bs.length) 0) (List.drop 0 (ahL (List.drop 0 bs) (rdL bs.length) 0))) (.need ((List.drop (0 : Nat) (ahL (List.drop (0 : Nat) bs) (rdL bs.length) (0 : Int))).length = ahN (List.drop (0 : Nat) bs) (rdL bs.length) (0 : Int) * (3 : Nat)) (.need (Lim (ahN (List.drop (0 : Nat) bs) (rdL bs.length) (0 : Int))) (.fin (.bool (irB (ahN (List.drop 0 bs) (rdL bs.length) 0) (List.take (ahN (List.drop 0 bs) (rdL bs.length) 0 * 3) (List.drop 0 (ahL (List.drop 0 bs) (rdL bs.length) 0))) (apX (List.drop 0 bs) (rdL bs.length) (ahP (List.drop 0 bs) (rdL bs.length) 0)) (apY (List.drop 0 bs) (rdL bs.length) (ahP (List.drop 0 bs) (rdL bs.length) 0)) == irB (ahN (List.drop 0 bs) (rdL bs.length) 0) (List.drop 0 (ahL (List.drop 0 bs) (rdL bs.length) 0)) (apX (List.drop 0 bs) (rdL bs.length) (ahP (List.drop 0 bs) (rdL bs.length) 0)) (apY (List.drop 0 bs) (rdL bs.length) (ahP (List.drop 0 bs) (rdL bs.length) 0)))) []))) (brT (!ptB (apX (List.drop 0 bs) (rdL bs.length) (ahP (List.drop 0 bs) (rdL bs.length) 0)) (apY (List.drop 0 bs) (rdL bs.length) (ahP (List.drop 0 bs) (rdL bs.length) 0))) (.need ((List.drop (0 : Nat) (ahL (List.drop (0 : Nat) bs) (rdL bs.length) (0 : Int))).length = ahN (List.drop (0 : Nat) bs) (rdL bs.length) (0 : Int) * (3 : Nat)) (.need (Lim (ahN (List.drop (0 : Nat) bs) (rdL bs.length) (0 : Int))) (.fin (.bool (irB (ahN (List.drop 0 bs) (rdL bs.length) 0) (List.take (ahN (List.drop 0 bs) (rdL bs.length) 0 * 3) (List.drop 0 (ahL (List.drop 0 bs) (rdL bs.length) 0))) (apX (List.drop 0 bs) (rdL bs.length) (ahP (List.drop 0 bs) (rdL bs.length) 0)) (apY (List.drop 0 bs) (rdL bs.length) (ahP (List.drop 0 bs) (rdL bs.length) 0)) == irB (ahN (List.drop 0 bs) (rdL bs.length) 0) (List.drop 0 (ahL (List.drop 0 bs) (rdL bs.length) 0)) (apX (List.drop 0 bs) (rdL bs.length) (ahP (List.drop 0 bs) (rdL bs.length) 0)) (apY (List.drop 0 bs) (rdL bs.length) (ahP (List.drop 0 bs) (rdL bs.length) 0)))) []))) (.need ((0 : Int) = (0 : Int)) (.need (true = true) (.need ((ahL (List.drop (0 : Nat) bs) (rdL bs.length) (0 : Int)).length = ahN (List.drop (0 : Nat) bs) (rdL bs.length) (0 : Int) * (3 : Nat)) (.need (ahN (List.drop (0 : Nat) bs) (rdL bs.length) (0 : Int) ≤ (1000 : Nat)) (.need (allQ (hfQ (ahL (List.drop (0 : Nat) bs) (rdL bs.length) (0 : Int))) (0 : Nat) (ahN (List.drop (0 : Nat) bs) (rdL bs.length) (0 : Int)) = true) (.need (ptB (apX (List.drop (0 : Nat) bs) (rdL bs.length) (ahP (List.drop (0 : Nat) bs) (rdL bs.length) (0 : Int))) (apY (List.drop (0 : Nat) bs) (rdL bs.length) (ahP (List.drop (0 : Nat) bs) (rdL bs.length) (0 : Int))) = true) (brT (irB (ahN (List.drop 0 bs) (rdL bs.length) 0) (List.take (ahN (List.drop 0 bs) (rdL bs.length) 0 * 3) (List.drop 0 (ahL (List.drop 0 bs) (rdL bs.length) 0))) (apX (List.drop 0 bs) (rdL bs.length) (ahP (List.drop 0 bs) (rdL bs.length) 0)) (apY (List.drop 0 bs) (rdL bs.length) (ahP (List.drop 0 bs) (rdL bs.length) 0)) == (true && allQ (inQ (ahL (List.drop 0 bs) (rdL bs.length) 0) (apX (List.drop 0 bs) (rdL bs.length) (ahP (List.drop 0 bs) (rdL bs.length) 0)) (apY (List.drop 0 bs) (rdL bs.length) (ahP (List.drop 0 bs) (rdL bs.length) 0))) 0 (ahN (List.drop 0 bs) (rdL bs.length) 0))) (brT (!ptB (apX (List.drop 0 bs) (rdL bs.length) (ahP (List.drop 0 bs) (rdL bs.length) 0)) (apY (List.drop 0 bs) (rdL bs.length) (ahP (List.drop 0 bs) (rdL bs.length) 0))) (.fin (.bool (false)) []) (.fin (.bool (true)) [])) (.fin (.bool (false)) []))))))))))))))))))) := by kernel_rfl
set_option maxRecDepth 100000 in
theorem law_ir (bs : List Int) (hb : Bytes bs) (_ : bs.length ≤ maxLen) : Res Try.prog 12 [.row bs.length (.bytes bs)] (.bool true) := by
  refine bodyV_res mixed ELj_ok (m := 30) (n := 12) rfl ?_
  rw [tr_lIr]
  simp only [List.drop_zero]
  have r0 : rdK bs (rdL bs.length) 0 := rdK0 hb (Nat.le_refl _) (by unfold rdL; omega) (by unfold rdL; omega) (by omega) (by omega)
  obtain ⟨hx, h9⟩ := ahL_len r0.1
  generalize apX bs (rdL bs.length) (ahP bs (rdL bs.length) 0) = x at *
  generalize apY bs (rdL bs.length) (ahP bs (rdL bs.length) 0) = y at *
  generalize ahL bs (rdL bs.length) 0 = xs at *
  generalize ahN bs (rdL bs.length) 0 = n at *
  have hL : Lim n := by unfold Lim; omega
  have ht : List.take (n * 3) xs = xs := List.take_of_length_le (by omega)
  have cl : decide ((1048576 : Int) < bs.length) = true ∨ decide ((1048576 : Int) < bs.length) = false := by cases decide ((1048576 : Int) < bs.length) <;> simp
  rcases cl with cl | cl
  · rw [cl]
    exact rfl
  rw [cl, ht]
  simp only [beq_self_eq_true, Bool.not_true, brT_t, brT_f, Tree.ok]
  rcases hv : vhB n xs with _ | _
  · simp only [Bool.not_false, brT_t, Tree.ok]
    repeat' (first | exact hb | exact hx | exact hL | exact rfl | exact True.intro | omega | refine And.intro ?_ ?_)
  rcases hp : ptB x y with _ | _
  · simp only [Bool.not_false, Bool.not_true, brT_t, brT_f, Tree.ok]
    repeat' (first | exact hb | exact hx | exact hL | exact rfl | exact True.intro | omega | refine And.intro ?_ ?_)
  have ha : allQ (hfQ xs) 0 n = true := by unfold vhB at hv; simp only [Bool.and_eq_true] at hv; exact hv.1
  have hi : irB n xs x y = (true && allQ (inQ xs x y) 0 n) := by
    unfold irB
    rw [hv, hp]
    rfl
  rw [hi]
  simp only [beq_self_eq_true, Bool.not_true, brT_t, brT_f, Tree.ok]
  repeat' (first | exact hb | exact hx | exact hL | exact ha | exact rfl | exact True.intro | omega | refine And.intro ?_ ?_)
end Go.Proofs.Ytnjmepbblcfnfaa
