/-
  Four drawn points. Written by an AI agent.
-/
import Derived.Test.YtblpldapmmoheabRdC
import Derived.Test.YtblpldapmmoheabBc
namespace Go.Proofs.Ytblpldapmmoheab
set_option linter.all false
open Go.RowKit
def EDp : Env := withJ (tabE T1) J3
theorem EDp_ok : EnvOk Try.prog EDp := withJ_ok mixed (tabE_ok T1_ok) J3_ok
set_option maxRecDepth 100000 in
theorem tr_dIc (bs : List Int) (n : Nat) : bodyV Try.prog EDp 30 12 39 [.row n (.bytes bs)] = brT (decide (2000 < (↑n : Int))) (.need ((0 : Int) ≤ bndI none (0 : Int) ∧ bndI none (0 : Int) ≤ bndI (some (IntKind.i64, (2000 : Int))) (↑n : Int) ∧ bndI (some (IntKind.i64, (2000 : Int))) (↑n : Int) ≤ (↑n : Int)) (.need (rdK bs (2000 : Nat) (0 : Int)) (.need (rdK bs (2000 : Nat) (apP bs (2000 : Nat) (0 : Int))) (.need (rdK bs (2000 : Nat) (apP bs (2000 : Nat) (apP bs (2000 : Nat) (0 : Int)))) (.need (rdC bs (2000 : Nat) (apP bs (2000 : Nat) (apP bs (2000 : Nat) (apP bs (2000 : Nat) (0 : Int))))) (brT (pickI bs 2000 (apP bs 2000 (apP bs 2000 (apP bs 2000 0))) 4 == 0) (.fin (.tuple #[.agg #[.int .i64 (apX bs 2000 0), .int .i64 (apY bs 2000 0)], .agg #[.int .i64 (apX bs 2000 (apP bs 2000 0)), .int .i64 (apY bs 2000 (apP bs 2000 0))], .agg #[.int .i64 (apX bs 2000 (apP bs 2000 (apP bs 2000 0))), .int .i64 (apY bs 2000 (apP bs 2000 (apP bs 2000 0)))], .agg #[.int .i64 (IntKind.i64.wrap (IntKind.i64.wrap (apX bs 2000 0 + apX bs 2000 (apP bs 2000 (apP bs 2000 0))) - apX bs 2000 (apP bs 2000 0))), .int .i64 (IntKind.i64.wrap (IntKind.i64.wrap (apY bs 2000 0 + apY bs 2000 (apP bs 2000 (apP bs 2000 0))) - apY bs 2000 (apP bs 2000 0)))]]) []) (.need (rdK bs (2000 : Nat) (apP bs (2000 : Nat) (apP bs (2000 : Nat) (apP bs (2000 : Nat) (0 : Int))) + (1 : Int))) (.fin (.tuple #[.agg #[.int .i64 (apX bs 2000 0), .int .i64 (apY bs 2000 0)], .agg #[.int .i64 (apX bs 2000 (apP bs 2000 0)), .int .i64 (apY bs 2000 (apP bs 2000 0))], .agg #[.int .i64 (apX bs 2000 (apP bs 2000 (apP bs 2000 0))), .int .i64 (apY bs 2000 (apP bs 2000 (apP bs 2000 0)))], .agg #[.int .i64 (apX bs 2000 (apP bs 2000 (apP bs 2000 (apP bs 2000 0)) + 1)), .int .i64 (apY bs 2000 (apP bs 2000 (apP bs 2000 (apP bs 2000 0)) + 1))]]) [])))))))) (.need (rdK bs n (0 : Int)) (.need (rdK bs n (apP bs n (0 : Int))) (.need (rdK bs n (apP bs n (apP bs n (0 : Int)))) (.need (rdC bs n (apP bs n (apP bs n (apP bs n (0 : Int))))) (brT (pickI bs n (apP bs n (apP bs n (apP bs n 0))) 4 == 0) (.fin (.tuple #[.agg #[.int .i64 (apX bs n 0), .int .i64 (apY bs n 0)], .agg #[.int .i64 (apX bs n (apP bs n 0)), .int .i64 (apY bs n (apP bs n 0))], .agg #[.int .i64 (apX bs n (apP bs n (apP bs n 0))), .int .i64 (apY bs n (apP bs n (apP bs n 0)))], .agg #[.int .i64 (IntKind.i64.wrap (IntKind.i64.wrap (apX bs n 0 + apX bs n (apP bs n (apP bs n 0))) - apX bs n (apP bs n 0))), .int .i64 (IntKind.i64.wrap (IntKind.i64.wrap (apY bs n 0 + apY bs n (apP bs n (apP bs n 0))) - apY bs n (apP bs n 0)))]]) []) (.need (rdK bs n (apP bs n (apP bs n (apP bs n (0 : Int))) + (1 : Int))) (.fin (.tuple #[.agg #[.int .i64 (apX bs n 0), .int .i64 (apY bs n 0)], .agg #[.int .i64 (apX bs n (apP bs n 0)), .int .i64 (apY bs n (apP bs n 0))], .agg #[.int .i64 (apX bs n (apP bs n (apP bs n 0))), .int .i64 (apY bs n (apP bs n (apP bs n 0)))], .agg #[.int .i64 (apX bs n (apP bs n (apP bs n (apP bs n 0)) + 1)), .int .i64 (apY bs n (apP bs n (apP bs n (apP bs n 0)) + 1))]]) []))))))) := by kernel_rfl
set_option maxRecDepth 100000 in
theorem tr_dIt (bs : List Int) (n : Nat) : bodyV Try.prog EDp 30 12 37 [.row n (.bytes bs)] = brT (decide (2000 < (↑n : Int))) (.need ((0 : Int) ≤ bndI none (0 : Int) ∧ bndI none (0 : Int) ≤ bndI (some (IntKind.i64, (2000 : Int))) (↑n : Int) ∧ bndI (some (IntKind.i64, (2000 : Int))) (↑n : Int) ≤ (↑n : Int)) (.need (rdK bs (2000 : Nat) (0 : Int)) (.need (rdK bs (2000 : Nat) (apP bs (2000 : Nat) (0 : Int))) (.need (rdK bs (2000 : Nat) (apP bs (2000 : Nat) (apP bs (2000 : Nat) (0 : Int)))) (.need (rdC bs (2000 : Nat) (apP bs (2000 : Nat) (apP bs (2000 : Nat) (apP bs (2000 : Nat) (0 : Int))))) (brT (pickI bs 2000 (apP bs 2000 (apP bs 2000 (apP bs 2000 0))) 6 == 0) (.need (rdC bs (2000 : Nat) (apP bs (2000 : Nat) (apP bs (2000 : Nat) (apP bs (2000 : Nat) (0 : Int))) + (1 : Int))) (brT (pickI bs 2000 (apP bs 2000 (apP bs 2000 (apP bs 2000 0)) + 1) 3 == 0) (.need (¬(2 : Int) = (0 : Int)) (.need (¬(2 : Int) = (0 : Int)) (.fin (.tuple #[.agg #[.int .i64 (apX bs 2000 0), .int .i64 (apY bs 2000 0)], .agg #[.int .i64 (apX bs 2000 (apP bs 2000 0)), .int .i64 (apY bs 2000 (apP bs 2000 0))], .agg #[.int .i64 (apX bs 2000 0), .int .i64 (apY bs 2000 0)], .agg #[.int .i64 (IntKind.i64.wrap ((IntKind.i64.wrap (apX bs 2000 0 + apX bs 2000 (apP bs 2000 0))).tdiv 2)), .int .i64 (IntKind.i64.wrap ((IntKind.i64.wrap (apY bs 2000 0 + apY bs 2000 (apP bs 2000 0))).tdiv 2))]]) []))) (.need (rdK bs (2000 : Nat) (apP bs (2000 : Nat) (apP bs (2000 : Nat) (apP bs (2000 : Nat) (0 : Int))) + (1 : Int) + (1 : Int))) (.fin (.tuple #[.agg #[.int .i64 (apX bs 2000 0), .int .i64 (apY bs 2000 0)], .agg #[.int .i64 (apX bs 2000 (apP bs 2000 0)), .int .i64 (apY bs 2000 (apP bs 2000 0))], .agg #[.int .i64 (apX bs 2000 0), .int .i64 (apY bs 2000 0)], .agg #[.int .i64 (apX bs 2000 (apP bs 2000 (apP bs 2000 (apP bs 2000 0)) + 1 + 1)), .int .i64 (apY bs 2000 (apP bs 2000 (apP bs 2000 (apP bs 2000 0)) + 1 + 1))]]) [])))) (brT (pickI bs 2000 (apP bs 2000 (apP bs 2000 (apP bs 2000 0))) 6 == 1) (.need (rdC bs (2000 : Nat) (apP bs (2000 : Nat) (apP bs (2000 : Nat) (apP bs (2000 : Nat) (0 : Int))) + (1 : Int))) (brT (pickI bs 2000 (apP bs 2000 (apP bs 2000 (apP bs 2000 0)) + 1) 3 == 0) (.need (¬(2 : Int) = (0 : Int)) (.need (¬(2 : Int) = (0 : Int)) (.fin (.tuple #[.agg #[.int .i64 (apX bs 2000 0), .int .i64 (apY bs 2000 0)], .agg #[.int .i64 (apX bs 2000 (apP bs 2000 0)), .int .i64 (apY bs 2000 (apP bs 2000 0))], .agg #[.int .i64 (IntKind.i64.wrap (IntKind.i64.wrap (2 * apX bs 2000 (apP bs 2000 0)) - apX bs 2000 0)), .int .i64 (IntKind.i64.wrap (IntKind.i64.wrap (2 * apY bs 2000 (apP bs 2000 0)) - apY bs 2000 0))], .agg #[.int .i64 (IntKind.i64.wrap ((IntKind.i64.wrap (apX bs 2000 0 + apX bs 2000 (apP bs 2000 0))).tdiv 2)), .int .i64 (IntKind.i64.wrap ((IntKind.i64.wrap (apY bs 2000 0 + apY bs 2000 (apP bs 2000 0))).tdiv 2))]]) []))) (.need (rdK bs (2000 : Nat) (apP bs (2000 : Nat) (apP bs (2000 : Nat) (apP bs (2000 : Nat) (0 : Int))) + (1 : Int) + (1 : Int))) (.fin (.tuple #[.agg #[.int .i64 (apX bs 2000 0), .int .i64 (apY bs 2000 0)], .agg #[.int .i64 (apX bs 2000 (apP bs 2000 0)), .int .i64 (apY bs 2000 (apP bs 2000 0))], .agg #[.int .i64 (IntKind.i64.wrap (IntKind.i64.wrap (2 * apX bs 2000 (apP bs 2000 0)) - apX bs 2000 0)), .int .i64 (IntKind.i64.wrap (IntKind.i64.wrap (2 * apY bs 2000 (apP bs 2000 0)) - apY bs 2000 0))], .agg #[.int .i64 (apX bs 2000 (apP bs 2000 (apP bs 2000 (apP bs 2000 0)) + 1 + 1)), .int .i64 (apY bs 2000 (apP bs 2000 (apP bs 2000 (apP bs 2000 0)) + 1 + 1))]]) [])))) (.need (rdC bs (2000 : Nat) (apP bs (2000 : Nat) (apP bs (2000 : Nat) (apP bs (2000 : Nat) (0 : Int))) + (1 : Int))) (brT (pickI bs 2000 (apP bs 2000 (apP bs 2000 (apP bs 2000 0)) + 1) 3 == 0) (.need (¬(2 : Int) = (0 : Int)) (.need (¬(2 : Int) = (0 : Int)) (.fin (.tuple #[.agg #[.int .i64 (apX bs 2000 0), .int .i64 (apY bs 2000 0)], .agg #[.int .i64 (apX bs 2000 (apP bs 2000 0)), .int .i64 (apY bs 2000 (apP bs 2000 0))], .agg #[.int .i64 (apX bs 2000 (apP bs 2000 (apP bs 2000 0))), .int .i64 (apY bs 2000 (apP bs 2000 (apP bs 2000 0)))], .agg #[.int .i64 (IntKind.i64.wrap ((IntKind.i64.wrap (apX bs 2000 0 + apX bs 2000 (apP bs 2000 0))).tdiv 2)), .int .i64 (IntKind.i64.wrap ((IntKind.i64.wrap (apY bs 2000 0 + apY bs 2000 (apP bs 2000 0))).tdiv 2))]]) []))) (.need (rdK bs (2000 : Nat) (apP bs (2000 : Nat) (apP bs (2000 : Nat) (apP bs (2000 : Nat) (0 : Int))) + (1 : Int) + (1 : Int))) (.fin (.tuple #[.agg #[.int .i64 (apX bs 2000 0), .int .i64 (apY bs 2000 0)], .agg #[.int .i64 (apX bs 2000 (apP bs 2000 0)), .int .i64 (apY bs 2000 (apP bs 2000 0))], .agg #[.int .i64 (apX bs 2000 (apP bs 2000 (apP bs 2000 0))), .int .i64 (apY bs 2000 (apP bs 2000 (apP bs 2000 0)))], .agg #[.int .i64 (apX bs 2000 (apP bs 2000 (apP bs 2000 (apP bs 2000 0)) + 1 + 1)), .int .i64 (apY bs 2000 (apP bs 2000 (apP bs 2000 (apP bs 2000 0)) + 1 + 1))]]) []))))))))))) (.need (rdK bs n (0 : Int)) (.need (rdK bs n (apP bs n (0 : Int))) (.need (rdK bs n (apP bs n (apP bs n (0 : Int)))) (.need (rdC bs n (apP bs n (apP bs n (apP bs n (0 : Int))))) (brT (pickI bs n (apP bs n (apP bs n (apP bs n 0))) 6 == 0) (.need (rdC bs n (apP bs n (apP bs n (apP bs n (0 : Int))) + (1 : Int))) (brT (pickI bs n (apP bs n (apP bs n (apP bs n 0)) + 1) 3 == 0) (.need (¬(2 : Int) = (0 : Int)) (.need (¬(2 : Int) = (0 : Int)) (.fin (.tuple #[.agg #[.int .i64 (apX bs n 0), .int .i64 (apY bs n 0)], .agg #[.int .i64 (apX bs n (apP bs n 0)), .int .i64 (apY bs n (apP bs n 0))], .agg #[.int .i64 (apX bs n 0), .int .i64 (apY bs n 0)], .agg #[.int .i64 (IntKind.i64.wrap ((IntKind.i64.wrap (apX bs n 0 + apX bs n (apP bs n 0))).tdiv 2)), .int .i64 (IntKind.i64.wrap ((IntKind.i64.wrap (apY bs n 0 + apY bs n (apP bs n 0))).tdiv 2))]]) []))) (.need (rdK bs n (apP bs n (apP bs n (apP bs n (0 : Int))) + (1 : Int) + (1 : Int))) (.fin (.tuple #[.agg #[.int .i64 (apX bs n 0), .int .i64 (apY bs n 0)], .agg #[.int .i64 (apX bs n (apP bs n 0)), .int .i64 (apY bs n (apP bs n 0))], .agg #[.int .i64 (apX bs n 0), .int .i64 (apY bs n 0)], .agg #[.int .i64 (apX bs n (apP bs n (apP bs n (apP bs n 0)) + 1 + 1)), .int .i64 (apY bs n (apP bs n (apP bs n (apP bs n 0)) + 1 + 1))]]) [])))) (brT (pickI bs n (apP bs n (apP bs n (apP bs n 0))) 6 == 1) (.need (rdC bs n (apP bs n (apP bs n (apP bs n (0 : Int))) + (1 : Int))) (brT (pickI bs n (apP bs n (apP bs n (apP bs n 0)) + 1) 3 == 0) (.need (¬(2 : Int) = (0 : Int)) (.need (¬(2 : Int) = (0 : Int)) (.fin (.tuple #[.agg #[.int .i64 (apX bs n 0), .int .i64 (apY bs n 0)], .agg #[.int .i64 (apX bs n (apP bs n 0)), .int .i64 (apY bs n (apP bs n 0))], .agg #[.int .i64 (IntKind.i64.wrap (IntKind.i64.wrap (2 * apX bs n (apP bs n 0)) - apX bs n 0)), .int .i64 (IntKind.i64.wrap (IntKind.i64.wrap (2 * apY bs n (apP bs n 0)) - apY bs n 0))], .agg #[.int .i64 (IntKind.i64.wrap ((IntKind.i64.wrap (apX bs n 0 + apX bs n (apP bs n 0))).tdiv 2)), .int .i64 (IntKind.i64.wrap ((IntKind.i64.wrap (apY bs n 0 + apY bs n (apP bs n 0))).tdiv 2))]]) []))) (.need (rdK bs n (apP bs n (apP bs n (apP bs n (0 : Int))) + (1 : Int) + (1 : Int))) (.fin (.tuple #[.agg #[.int .i64 (apX bs n 0), .int .i64 (apY bs n 0)], .agg #[.int .i64 (apX bs n (apP bs n 0)), .int .i64 (apY bs n (apP bs n 0))], .agg #[.int .i64 (IntKind.i64.wrap (IntKind.i64.wrap (2 * apX bs n (apP bs n 0)) - apX bs n 0)), .int .i64 (IntKind.i64.wrap (IntKind.i64.wrap (2 * apY bs n (apP bs n 0)) - apY bs n 0))], .agg #[.int .i64 (apX bs n (apP bs n (apP bs n (apP bs n 0)) + 1 + 1)), .int .i64 (apY bs n (apP bs n (apP bs n (apP bs n 0)) + 1 + 1))]]) [])))) (.need (rdC bs n (apP bs n (apP bs n (apP bs n (0 : Int))) + (1 : Int))) (brT (pickI bs n (apP bs n (apP bs n (apP bs n 0)) + 1) 3 == 0) (.need (¬(2 : Int) = (0 : Int)) (.need (¬(2 : Int) = (0 : Int)) (.fin (.tuple #[.agg #[.int .i64 (apX bs n 0), .int .i64 (apY bs n 0)], .agg #[.int .i64 (apX bs n (apP bs n 0)), .int .i64 (apY bs n (apP bs n 0))], .agg #[.int .i64 (apX bs n (apP bs n (apP bs n 0))), .int .i64 (apY bs n (apP bs n (apP bs n 0)))], .agg #[.int .i64 (IntKind.i64.wrap ((IntKind.i64.wrap (apX bs n 0 + apX bs n (apP bs n 0))).tdiv 2)), .int .i64 (IntKind.i64.wrap ((IntKind.i64.wrap (apY bs n 0 + apY bs n (apP bs n 0))).tdiv 2))]]) []))) (.need (rdK bs n (apP bs n (apP bs n (apP bs n (0 : Int))) + (1 : Int) + (1 : Int))) (.fin (.tuple #[.agg #[.int .i64 (apX bs n 0), .int .i64 (apY bs n 0)], .agg #[.int .i64 (apX bs n (apP bs n 0)), .int .i64 (apY bs n (apP bs n 0))], .agg #[.int .i64 (apX bs n (apP bs n (apP bs n 0))), .int .i64 (apY bs n (apP bs n (apP bs n 0)))], .agg #[.int .i64 (apX bs n (apP bs n (apP bs n (apP bs n 0)) + 1 + 1)), .int .i64 (apY bs n (apP bs n (apP bs n (apP bs n 0)) + 1 + 1))]]) [])))))))))) := by kernel_rfl
def p1P (bs : List Int) (l : Nat) : Int := apP bs l 0
def p2P (bs : List Int) (l : Nat) : Int := apP bs l (p1P bs l)
def p3P (bs : List Int) (l : Nat) : Int := apP bs l (p2P bs l)
/-- The numbers of four points. -/
def icD (bs : List Int) (l : Nat) : Nat → Int
  | 0 => apX bs l 0
  | 1 => apY bs l 0
  | 2 => apX bs l (p1P bs l)
  | 3 => apY bs l (p1P bs l)
  | 4 => apX bs l (p2P bs l)
  | 5 => apY bs l (p2P bs l)
  | 6 => if pickI bs l (p3P bs l) 4 = 0 then IntKind.i64.wrap (IntKind.i64.wrap (apX bs l 0 + apX bs l (p2P bs l)) - apX bs l (p1P bs l)) else apX bs l (p3P bs l + 1)
  | _ => if pickI bs l (p3P bs l) 4 = 0 then IntKind.i64.wrap (IntKind.i64.wrap (apY bs l 0 + apY bs l (p2P bs l)) - apY bs l (p1P bs l)) else apY bs l (p3P bs l + 1)
def itD (bs : List Int) (l : Nat) : Nat → Int
  | 0 => apX bs l 0
  | 1 => apY bs l 0
  | 2 => apX bs l (p1P bs l)
  | 3 => apY bs l (p1P bs l)
  | 4 => if pickI bs l (p3P bs l) 6 = 0 then apX bs l 0 else if pickI bs l (p3P bs l) 6 = 1 then IntKind.i64.wrap (IntKind.i64.wrap (2 * apX bs l (p1P bs l)) - apX bs l 0) else apX bs l (p2P bs l)
  | 5 => if pickI bs l (p3P bs l) 6 = 0 then apY bs l 0 else if pickI bs l (p3P bs l) 6 = 1 then IntKind.i64.wrap (IntKind.i64.wrap (2 * apY bs l (p1P bs l)) - apY bs l 0) else apY bs l (p2P bs l)
  | 6 => if pickI bs l (p3P bs l + 1) 3 = 0 then IntKind.i64.wrap ((IntKind.i64.wrap (apX bs l 0 + apX bs l (p1P bs l))).tdiv 2) else apX bs l (p3P bs l + 1 + 1)
  | _ => if pickI bs l (p3P bs l + 1) 3 = 0 then IntKind.i64.wrap ((IntKind.i64.wrap (apY bs l 0 + apY bs l (p1P bs l))).tdiv 2) else apY bs l (p3P bs l + 1 + 1)
def d4V (v : Nat → Int) : Value := .tuple #[agg2 (v 0) (v 1), agg2 (v 2) (v 3), agg2 (v 4) (v 5), agg2 (v 6) (v 7)]
theorem d4_is {v : Nat → Int} {a b c d e f g h : Int} (h0 : v 0 = a) (h1 : v 1 = b) (h2 : v 2 = c) (h3 : v 3 = d) (h4 : v 4 = e) (h5 : v 5 = f) (h6 : v 6 = g) (h7 : v 7 = h) :
    Value.tuple #[.agg #[.int .i64 a, .int .i64 b], .agg #[.int .i64 c, .int .i64 d], .agg #[.int .i64 e, .int .i64 f], .agg #[.int .i64 g, .int .i64 h]] = d4V v := by
  subst h0 h1 h2 h3 h4 h5 h6 h7
  rfl
theorem res_dIc (bs : List Int) (n : Nat) (hb : Bytes bs) (hn : n ≤ bs.length) : Res Try.prog 39 [.row n (.bytes bs)] (d4V (icD bs (rdL n))) := by
  refine bodyV_res mixed EDp_ok (m := 30) (n := 12) rfl ?_
  rw [tr_dIc]
  refine brT_ok.2 ⟨fun h => ?_, fun h => ?_⟩
  have h := of_decide_eq_true h
  rw [rdL_of h]
  refine ⟨bnd2000 h, ?_⟩
  have hl : 2000 ≤ bs.length := by omega
  have h2 : (2000 : Nat) < 2001 := by omega
  clear h hn
  revert hl h2
  generalize (2000 : Nat) = l
  intro hl h2
  rotate_left
  have h := of_decide_eq_false h
  rw [rdL_no h]
  obtain ⟨l, rfl⟩ : ∃ l, l = n := ⟨n, rfl⟩
  have hl := hn
  have h2 : l < 2001 := by omega
  clear h hn
  all_goals
    have b1 := apP_bd bs l 0
    have b2 := apP_bd bs l (apP bs l 0)
    have b3 := apP_bd bs l (apP bs l (apP bs l 0))
    have key : ∀ p, 0 ≤ p → p ≤ 1000 → rdK bs l p := fun p h3 h4 => rdK0 hb (Nat.le_refl _) hl (by omega) h3 (by omega)
    refine ⟨key _ (by omega) (by omega), key _ (by omega) (by omega), key _ (by omega) (by omega), (key _ (by omega) (by omega)).1, brT_ok.2 ⟨fun hq => ?_, fun hq => ⟨key _ (by omega) (by omega), ?_⟩⟩⟩
    · have hq : pickI bs l (p3P bs l) 4 = 0 := beq_iff_eq.1 hq
      exact d4_is rfl rfl rfl rfl rfl rfl (by simp only [icD]; rw [if_pos hq]; rfl) (by simp only [icD]; rw [if_pos hq]; rfl)
    · have hq : ¬ pickI bs l (p3P bs l) 4 = 0 := beq_eq_false_iff_ne.1 hq
      exact d4_is rfl rfl rfl rfl rfl rfl (by simp only [icD]; rw [if_neg hq]; rfl) (by simp only [icD]; rw [if_neg hq]; rfl)
theorem res_dIt (bs : List Int) (n : Nat) (hb : Bytes bs) (hn : n ≤ bs.length) : Res Try.prog 37 [.row n (.bytes bs)] (d4V (itD bs (rdL n))) := by
  refine bodyV_res mixed EDp_ok (m := 30) (n := 12) rfl ?_
  rw [tr_dIt]
  refine brT_ok.2 ⟨fun h => ?_, fun h => ?_⟩
  have h := of_decide_eq_true h
  rw [rdL_of h]
  refine ⟨bnd2000 h, ?_⟩
  have hl : 2000 ≤ bs.length := by omega
  have h2 : (2000 : Nat) < 2001 := by omega
  clear h hn
  revert hl h2
  generalize (2000 : Nat) = l
  intro hl h2
  rotate_left
  have h := of_decide_eq_false h
  rw [rdL_no h]
  obtain ⟨l, rfl⟩ : ∃ l, l = n := ⟨n, rfl⟩
  have hl := hn
  have h2 : l < 2001 := by omega
  clear h hn
  all_goals
    have b1 := apP_bd bs l 0
    have b2 := apP_bd bs l (apP bs l 0)
    have b3 := apP_bd bs l (apP bs l (apP bs l 0))
    have key : ∀ p, 0 ≤ p → p ≤ 1000 → rdK bs l p := fun p h3 h4 => rdK0 hb (Nat.le_refl _) hl (by omega) h3 (by omega)
    have e4 : ∀ q, pickI bs l (p3P bs l) 6 = 0 → (q = 4 → itD bs l q = apX bs l 0) ∧ (q = 5 → itD bs l q = apY bs l 0) := fun q h => ⟨fun e => by subst e; simp only [itD]; rw [if_pos h], fun e => by subst e; simp only [itD]; rw [if_pos h]⟩
    have e5 : ∀ q, ¬ pickI bs l (p3P bs l) 6 = 0 → pickI bs l (p3P bs l) 6 = 1 → (q = 4 → itD bs l q = IntKind.i64.wrap (IntKind.i64.wrap (2 * apX bs l (p1P bs l)) - apX bs l 0)) ∧ (q = 5 → itD bs l q = IntKind.i64.wrap (IntKind.i64.wrap (2 * apY bs l (p1P bs l)) - apY bs l 0)) := fun q h h' => ⟨fun e => by subst e; simp only [itD]; rw [if_neg h, if_pos h'], fun e => by subst e; simp only [itD]; rw [if_neg h, if_pos h']⟩
    have e6 : ∀ q, ¬ pickI bs l (p3P bs l) 6 = 0 → ¬ pickI bs l (p3P bs l) 6 = 1 → (q = 4 → itD bs l q = apX bs l (p2P bs l)) ∧ (q = 5 → itD bs l q = apY bs l (p2P bs l)) := fun q h h' => ⟨fun e => by subst e; simp only [itD]; rw [if_neg h, if_neg h'], fun e => by subst e; simp only [itD]; rw [if_neg h, if_neg h']⟩
    have e7 : ∀ q, pickI bs l (p3P bs l + 1) 3 = 0 → (q = 6 → itD bs l q = IntKind.i64.wrap ((IntKind.i64.wrap (apX bs l 0 + apX bs l (p1P bs l))).tdiv 2)) ∧ (q = 7 → itD bs l q = IntKind.i64.wrap ((IntKind.i64.wrap (apY bs l 0 + apY bs l (p1P bs l))).tdiv 2)) := fun q h => ⟨fun e => by subst e; simp only [itD]; rw [if_pos h], fun e => by subst e; simp only [itD]; rw [if_pos h]⟩
    have e8 : ∀ q, ¬ pickI bs l (p3P bs l + 1) 3 = 0 → (q = 6 → itD bs l q = apX bs l (p3P bs l + 1 + 1)) ∧ (q = 7 → itD bs l q = apY bs l (p3P bs l + 1 + 1)) := fun q h => ⟨fun e => by subst e; simp only [itD]; rw [if_neg h], fun e => by subst e; simp only [itD]; rw [if_neg h]⟩
    refine ⟨key _ (by omega) (by omega), key _ (by omega) (by omega), key _ (by omega) (by omega), (key _ (by omega) (by omega)).1, brT_ok.2 ⟨fun hq => ⟨(key _ (by omega) (by omega)).1, brT_ok.2 ⟨fun hr => ⟨by omega, by omega, ?_⟩, fun hr => ⟨key _ (by omega) (by omega), ?_⟩⟩⟩, fun hq => brT_ok.2 ⟨fun hs => ⟨(key _ (by omega) (by omega)).1, brT_ok.2 ⟨fun hr => ⟨by omega, by omega, ?_⟩, fun hr => ⟨key _ (by omega) (by omega), ?_⟩⟩⟩, fun hs => ⟨(key _ (by omega) (by omega)).1, brT_ok.2 ⟨fun hr => ⟨by omega, by omega, ?_⟩, fun hr => ⟨key _ (by omega) (by omega), ?_⟩⟩⟩⟩⟩⟩
    · exact d4_is rfl rfl rfl rfl ((e4 _ (beq_iff_eq.1 hq)).1 rfl) ((e4 _ (beq_iff_eq.1 hq)).2 rfl) ((e7 _ (beq_iff_eq.1 hr)).1 rfl) ((e7 _ (beq_iff_eq.1 hr)).2 rfl)
    · exact d4_is rfl rfl rfl rfl ((e4 _ (beq_iff_eq.1 hq)).1 rfl) ((e4 _ (beq_iff_eq.1 hq)).2 rfl) ((e8 _ (beq_eq_false_iff_ne.1 hr)).1 rfl) ((e8 _ (beq_eq_false_iff_ne.1 hr)).2 rfl)
    · exact d4_is rfl rfl rfl rfl ((e5 _ (beq_eq_false_iff_ne.1 hq) (beq_iff_eq.1 hs)).1 rfl) ((e5 _ (beq_eq_false_iff_ne.1 hq) (beq_iff_eq.1 hs)).2 rfl) ((e7 _ (beq_iff_eq.1 hr)).1 rfl) ((e7 _ (beq_iff_eq.1 hr)).2 rfl)
    · exact d4_is rfl rfl rfl rfl ((e5 _ (beq_eq_false_iff_ne.1 hq) (beq_iff_eq.1 hs)).1 rfl) ((e5 _ (beq_eq_false_iff_ne.1 hq) (beq_iff_eq.1 hs)).2 rfl) ((e8 _ (beq_eq_false_iff_ne.1 hr)).1 rfl) ((e8 _ (beq_eq_false_iff_ne.1 hr)).2 rfl)
    · exact d4_is rfl rfl rfl rfl ((e6 _ (beq_eq_false_iff_ne.1 hq) (beq_eq_false_iff_ne.1 hs)).1 rfl) ((e6 _ (beq_eq_false_iff_ne.1 hq) (beq_eq_false_iff_ne.1 hs)).2 rfl) ((e7 _ (beq_iff_eq.1 hr)).1 rfl) ((e7 _ (beq_iff_eq.1 hr)).2 rfl)
    · exact d4_is rfl rfl rfl rfl ((e6 _ (beq_eq_false_iff_ne.1 hq) (beq_eq_false_iff_ne.1 hs)).1 rfl) ((e6 _ (beq_eq_false_iff_ne.1 hq) (beq_eq_false_iff_ne.1 hs)).2 rfl) ((e8 _ (beq_eq_false_iff_ne.1 hr)).1 rfl) ((e8 _ (beq_eq_false_iff_ne.1 hr)).2 rfl)
def pDIc : List DArg → Option (Value × List Prop)
  | [.row n (.bytes bs)] => some (d4V (icD bs (rdL n)), [Bytes bs, n ≤ bs.length])
  | _ => none
def pDIt : List DArg → Option (Value × List Prop)
  | [.row n (.bytes bs)] => some (d4V (itD bs (rdL n)), [Bytes bs, n ≤ bs.length])
  | _ => none
theorem pDIc_ok {ds : List DArg} {v : Value} {C : List Prop} (h : pDIc ds = some (v, C)) (hC : AllP C) : Res Try.prog 39 ds v := by
  unfold pDIc at h
  split at h
  · obtain ⟨rfl, rfl⟩ : _ ∧ _ := by simpa using h
    exact res_dIc _ _ hC.1 hC.2.1
  · cases h
theorem pDIt_ok {ds : List DArg} {v : Value} {C : List Prop} (h : pDIt ds = some (v, C)) (hC : AllP C) : Res Try.prog 37 ds v := by
  unfold pDIt at h
  split at h
  · obtain ⟨rfl, rfl⟩ : _ ∧ _ := by simpa using h
    exact res_dIt _ _ hC.1 hC.2.1
  · cases h
end Go.Proofs.Ytblpldapmmoheab
