/-
  Drawn lists with a point: DrawExtreme, DrawNearestTo, DrawCountWithin. Written by an AI agent.
-/
import Derived.Test.YtieibbdfdepmbaaLrd
namespace Go.Proofs.Ytieibbdfdepmbaa
set_option linter.all false
open Go.RowKit

def EDr : Env := ⟨B0, fun _ _ => none, fun _ => noL, JL2, fun _ => noR⟩
theorem EDr_ok : EnvOk Try.prog EDr := ⟨B0_ok, fun _ _ _ _ _ h => (by cases h), fun _ _ _ => noL_good, JL2_ok, fun _ _ _ => noR_good⟩
set_option maxRecDepth 100000 in
theorem tr_dExt (bs : List Int) (n : Nat) : bodyX Try.prog EDr 30 12 39 [.row n (.bytes bs)] = brT (decide (2000 < (↑n : Int))) (.need ((0 : Int) ≤ bndI none (0 : Int) ∧ bndI none (0 : Int) ≤ bndI (some (IntKind.i64, (2000 : Int))) (↑n : Int) ∧ bndI (some (IntKind.i64, (2000 : Int))) (↑n : Int) ≤ (↑n : Int)) (.need (rdC bs (2000 : Nat) (0 : Int)) (.need ((0 : Int) ≤ (600000 : Int)) (.need ((0 : Int) ≤ (8 : Int) ∧ (8 : Int) ≤ (20 : Int)) (.need (rdK bs (2000 : Nat) (apsP bs (2000 : Nat) (0 : Int) (8 : Int))) (.fin (.tuple #[.slice (some ⟨3, 0, none⟩) ((apsL bs 2000 0 8).length) ((apsL bs 2000 0 8).length), .agg #[.int .i64 (apX bs 2000 (apsP bs 2000 0 8)), .int .i64 (apY bs 2000 (apsP bs 2000 0 8))]]) [some ⟨.view, .bytes (bs)⟩, some ⟨.box, .vals [.int .i64 (apX bs 2000 (apsP bs 2000 0 8)), .int .i64 (apY bs 2000 (apsP bs 2000 0 8))]⟩, some ⟨.box, .vals [.slice (some ⟨0, 0, none⟩) (2000) (2000), .int .i64 (apP bs 2000 (apsP bs 2000 0 8))]⟩, some ⟨.row 32 2, .ints (flat (apsL bs 2000 0 8))⟩])))))) (.need (rdC bs n (0 : Int)) (.need ((0 : Int) ≤ (600000 : Int)) (.need ((0 : Int) ≤ (8 : Int) ∧ (8 : Int) ≤ (20 : Int)) (.need (rdK bs n (apsP bs n (0 : Int) (8 : Int))) (.fin (.tuple #[.slice (some ⟨3, 0, none⟩) ((apsL bs n 0 8).length) ((apsL bs n 0 8).length), .agg #[.int .i64 (apX bs n (apsP bs n 0 8)), .int .i64 (apY bs n (apsP bs n 0 8))]]) [some ⟨.view, .bytes (bs)⟩, some ⟨.box, .vals [.int .i64 (apX bs n (apsP bs n 0 8)), .int .i64 (apY bs n (apsP bs n 0 8))]⟩, some ⟨.box, .vals [.slice (some ⟨0, 0, none⟩) (n) (n), .int .i64 (apP bs n (apsP bs n 0 8))]⟩, some ⟨.row 32 2, .ints (flat (apsL bs n 0 8))⟩]))))) := by kernel_rfl
def cwNs : List Int := [0, 1, 2, 5, 20, 100, -1]
def dExL (bs : List Int) (l : Nat) : Value := .tuple #[.slice (some ⟨0, 0, none⟩) (apsL bs l 0 8).length (apsL bs l 0 8).length, .agg #[.int .i64 (apX bs l (apsP bs l 0 8)), .int .i64 (apY bs l (apsP bs l 0 8))]]
def dCwL (bs : List Int) (l : Nat) : Value := .tuple #[.slice (some ⟨0, 0, none⟩) (apsL bs l 0 8).length (apsL bs l 0 8).length, .agg #[.int .i64 (apX bs l (apsP bs l 0 8)), .int .i64 (apY bs l (apsP bs l 0 8))], .int .i64 (oneI bs l (apP bs l (apsP bs l 0 8)) 7 cwNs)]
def dRow (bs : List Int) (l : Nat) (m : Int) : Blk := ⟨.row 32 2, .ints (flat (apsL bs l 0 m))⟩
theorem drKey {bs : List Int} {n : Nat} (hb : Bytes bs) (hn : n ≤ bs.length) {l : Nat} (h1 : l ≤ n) (h2 : l ≤ 2000) {m : Int} (hm : 0 ≤ m ∧ m ≤ 20) : rdC bs l 0 ∧ rdK bs l (apsP bs l 0 m) ∧ rdC bs l (apP bs l (apsP bs l 0 m)) ∧ (apsL bs l 0 m).length ≤ 21 := by
  have r0 : rdK bs l 0 := rdK0 hb hn h1 h2 (by omega) (by omega)
  have r1 : rdC bs l (0 + 1) := r0.at (by omega) (by omega)
  have b1 := apsP_bd (m := m) r1 hm
  have r2 : rdK bs l (apsP bs l 0 m) := rdK0 hb hn h1 h2 (by omega) (by omega)
  have b2 := apP_bd bs l (apsP bs l 0 m)
  exact ⟨r0.1, r2, r2.at (by omega) (by omega), apsL_len r1 hm⟩
theorem resR_dExt (bs : List Int) (n : Nat) (hb : Bytes bs) (hn : n ≤ bs.length) : ResR Try.prog 39 [.row n (.bytes bs)] (dExL bs (rdL n)) (dRow bs (rdL n) 8) := by
  refine bodyX_resR mixed EDr_ok (m := 30) (n := 12) rfl ?_
  rw [tr_dExt]
  refine brT_ok.2 ⟨fun h => ?_, fun h => ?_⟩
  · have h := of_decide_eq_true h
    obtain ⟨k1, k2, k3, k4⟩ := drKey hb hn (l := 2000) (by omega) (by omega) (m := 8) (by omega)
    rw [rdL_of h]
    exact ⟨bnd2000 h, k1, by omega, by omega, k2, some 3, ⟨⟨rfl, rfl, rfl⟩, ⟨rfl, rfl⟩, trivial⟩, rfl, rfl, rfl⟩
  · have h := of_decide_eq_false h
    obtain ⟨k1, k2, k3, k4⟩ := drKey hb hn (l := n) (by omega) (by omega) (m := 8) (by omega)
    rw [rdL_no h]
    exact ⟨k1, by omega, by omega, k2, some 3, ⟨⟨rfl, rfl, rfl⟩, ⟨rfl, rfl⟩, trivial⟩, rfl, rfl, rfl⟩
end Go.Proofs.Ytieibbdfdepmbaa
