/-
  Drawn lists of points alone. Written by an AI agent.
-/
import Derived.Test.YtieibbdfdepmbaaDrwA
import Derived.Test.YtieibbdfdepmbaaSrt
namespace Go.Proofs.Ytieibbdfdepmbaa
set_option linter.all false
open Go.RowKit

set_option maxRecDepth 100000 in
theorem tr_dHu (bs : List Int) (n : Nat) : bodyX Try.prog EDr 30 12 27 [.row n (.bytes bs)] = brT (decide (2000 < (↑n : Int))) (.need ((0 : Int) ≤ bndI none (0 : Int) ∧ bndI none (0 : Int) ≤ bndI (some (IntKind.i64, (2000 : Int))) (↑n : Int) ∧ bndI (some (IntKind.i64, (2000 : Int))) (↑n : Int) ≤ (↑n : Int)) (.need (rdC bs (2000 : Nat) (0 : Int)) (.need ((0 : Int) ≤ (600000 : Int)) (.need ((0 : Int) ≤ (12 : Int) ∧ (12 : Int) ≤ (20 : Int)) (.fin (.slice (some ⟨2, 0, none⟩) ((apsL bs 2000 0 12).length) ((apsL bs 2000 0 12).length)) [some ⟨.view, .bytes (bs)⟩, some ⟨.box, .vals [.slice (some ⟨0, 0, none⟩) (2000) (2000), .int .i64 (apsP bs 2000 0 12)]⟩, some ⟨.row 32 2, .ints (flat (apsL bs 2000 0 12))⟩]))))) (.need (rdC bs n (0 : Int)) (.need ((0 : Int) ≤ (600000 : Int)) (.need ((0 : Int) ≤ (12 : Int) ∧ (12 : Int) ≤ (20 : Int)) (.fin (.slice (some ⟨2, 0, none⟩) ((apsL bs n 0 12).length) ((apsL bs n 0 12).length)) [some ⟨.view, .bytes (bs)⟩, some ⟨.box, .vals [.slice (some ⟨0, 0, none⟩) (n) (n), .int .i64 (apsP bs n 0 12)]⟩, some ⟨.row 32 2, .ints (flat (apsL bs n 0 12))⟩])))) := by kernel_rfl
set_option maxRecDepth 100000 in
theorem tr_dSp (bs : List Int) (n : Nat) : bodyX Try.prog EDr 30 12 45 [.row n (.bytes bs)] = brT (decide (2000 < (↑n : Int))) (.need ((0 : Int) ≤ bndI none (0 : Int) ∧ bndI none (0 : Int) ≤ bndI (some (IntKind.i64, (2000 : Int))) (↑n : Int) ∧ bndI (some (IntKind.i64, (2000 : Int))) (↑n : Int) ≤ (↑n : Int)) (.need (rdC bs (2000 : Nat) (0 : Int)) (.need ((0 : Int) ≤ (600000 : Int)) (.need ((0 : Int) ≤ (9 : Int) ∧ (9 : Int) ≤ (20 : Int)) (.fin (.slice (some ⟨2, 0, none⟩) ((apsL bs 2000 0 9).length) ((apsL bs 2000 0 9).length)) [some ⟨.view, .bytes (bs)⟩, some ⟨.box, .vals [.slice (some ⟨0, 0, none⟩) (2000) (2000), .int .i64 (apsP bs 2000 0 9)]⟩, some ⟨.row 32 2, .ints (flat (apsL bs 2000 0 9))⟩]))))) (.need (rdC bs n (0 : Int)) (.need ((0 : Int) ≤ (600000 : Int)) (.need ((0 : Int) ≤ (9 : Int) ∧ (9 : Int) ≤ (20 : Int)) (.fin (.slice (some ⟨2, 0, none⟩) ((apsL bs n 0 9).length) ((apsL bs n 0 9).length)) [some ⟨.view, .bytes (bs)⟩, some ⟨.box, .vals [.slice (some ⟨0, 0, none⟩) (n) (n), .int .i64 (apsP bs n 0 9)]⟩, some ⟨.row 32 2, .ints (flat (apsL bs n 0 9))⟩])))) := by kernel_rfl
set_option maxRecDepth 100000 in
theorem tr_dCo (bs : List Int) (n : Nat) : bodyX Try.prog EDr 30 12 47 [.row n (.bytes bs)] = brT (decide (2000 < (↑n : Int))) (.need ((0 : Int) ≤ bndI none (0 : Int) ∧ bndI none (0 : Int) ≤ bndI (some (IntKind.i64, (2000 : Int))) (↑n : Int) ∧ bndI (some (IntKind.i64, (2000 : Int))) (↑n : Int) ≤ (↑n : Int)) (.need (rdC bs (2000 : Nat) (0 : Int)) (.need ((0 : Int) ≤ (600000 : Int)) (.need ((0 : Int) ≤ (5 : Int) ∧ (5 : Int) ≤ (20 : Int)) (.fin (.slice (some ⟨2, 0, none⟩) ((apsL bs 2000 0 5).length) ((apsL bs 2000 0 5).length)) [some ⟨.view, .bytes (bs)⟩, some ⟨.box, .vals [.slice (some ⟨0, 0, none⟩) (2000) (2000), .int .i64 (apsP bs 2000 0 5)]⟩, some ⟨.row 32 2, .ints (flat (apsL bs 2000 0 5))⟩]))))) (.need (rdC bs n (0 : Int)) (.need ((0 : Int) ≤ (600000 : Int)) (.need ((0 : Int) ≤ (5 : Int) ∧ (5 : Int) ≤ (20 : Int)) (.fin (.slice (some ⟨2, 0, none⟩) ((apsL bs n 0 5).length) ((apsL bs n 0 5).length)) [some ⟨.view, .bytes (bs)⟩, some ⟨.box, .vals [.slice (some ⟨0, 0, none⟩) (n) (n), .int .i64 (apsP bs n 0 5)]⟩, some ⟨.row 32 2, .ints (flat (apsL bs n 0 5))⟩])))) := by kernel_rfl
theorem resR_dHu (bs : List Int) (n : Nat) (hb : Bytes bs) (hn : n ≤ bs.length) : ResR Try.prog 27 [.row n (.bytes bs)] (rowP (apsL bs (rdL n) 0 12)) (blkP (apsL bs (rdL n) 0 12)) := by
  refine bodyX_resR mixed EDr_ok (m := 30) (n := 12) rfl ?_
  rw [tr_dHu]
  refine brT_ok.2 ⟨fun h => ?_, fun h => ?_⟩
  · have h := of_decide_eq_true h
    obtain ⟨k1, k2, k3, k4⟩ := drKey hb hn (l := 2000) (by omega) (by omega) (m := 12) (by omega)
    rw [rdL_of h]
    exact ⟨bnd2000 h, k1, by omega, by omega, some 2, ⟨rfl, rfl, rfl⟩, rfl, rfl, rfl⟩
  · have h := of_decide_eq_false h
    obtain ⟨k1, k2, k3, k4⟩ := drKey hb hn (l := n) (by omega) (by omega) (m := 12) (by omega)
    rw [rdL_no h]
    exact ⟨k1, by omega, by omega, some 2, ⟨rfl, rfl, rfl⟩, rfl, rfl, rfl⟩
theorem resR_dSp (bs : List Int) (n : Nat) (hb : Bytes bs) (hn : n ≤ bs.length) : ResR Try.prog 45 [.row n (.bytes bs)] (rowP (apsL bs (rdL n) 0 9)) (blkP (apsL bs (rdL n) 0 9)) := by
  refine bodyX_resR mixed EDr_ok (m := 30) (n := 12) rfl ?_
  rw [tr_dSp]
  refine brT_ok.2 ⟨fun h => ?_, fun h => ?_⟩
  · have h := of_decide_eq_true h
    obtain ⟨k1, k2, k3, k4⟩ := drKey hb hn (l := 2000) (by omega) (by omega) (m := 9) (by omega)
    rw [rdL_of h]
    exact ⟨bnd2000 h, k1, by omega, by omega, some 2, ⟨rfl, rfl, rfl⟩, rfl, rfl, rfl⟩
  · have h := of_decide_eq_false h
    obtain ⟨k1, k2, k3, k4⟩ := drKey hb hn (l := n) (by omega) (by omega) (m := 9) (by omega)
    rw [rdL_no h]
    exact ⟨k1, by omega, by omega, some 2, ⟨rfl, rfl, rfl⟩, rfl, rfl, rfl⟩
theorem resR_dCo (bs : List Int) (n : Nat) (hb : Bytes bs) (hn : n ≤ bs.length) : ResR Try.prog 47 [.row n (.bytes bs)] (rowP (apsL bs (rdL n) 0 5)) (blkP (apsL bs (rdL n) 0 5)) := by
  refine bodyX_resR mixed EDr_ok (m := 30) (n := 12) rfl ?_
  rw [tr_dCo]
  refine brT_ok.2 ⟨fun h => ?_, fun h => ?_⟩
  · have h := of_decide_eq_true h
    obtain ⟨k1, k2, k3, k4⟩ := drKey hb hn (l := 2000) (by omega) (by omega) (m := 5) (by omega)
    rw [rdL_of h]
    exact ⟨bnd2000 h, k1, by omega, by omega, some 2, ⟨rfl, rfl, rfl⟩, rfl, rfl, rfl⟩
  · have h := of_decide_eq_false h
    obtain ⟨k1, k2, k3, k4⟩ := drKey hb hn (l := n) (by omega) (by omega) (m := 5) (by omega)
    rw [rdL_no h]
    exact ⟨k1, by omega, by omega, some 2, ⟨rfl, rfl, rfl⟩, rfl, rfl, rfl⟩
end Go.Proofs.Ytieibbdfdepmbaa
