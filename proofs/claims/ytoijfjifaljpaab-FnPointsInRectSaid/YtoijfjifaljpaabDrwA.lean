/-
  Drawn lists with a point: DrawExtreme, DrawNearestTo, DrawCountWithin. Written by an AI agent.
-/
import Derived.Test.YtoijfjifaljpaabLrd
namespace Go.Proofs.Ytoijfjifaljpaab
open Go.RowKit

def EDr : Env := ⟨B0, fun _ _ => none, fun _ => noL, JL2, fun _ => noR⟩
theorem EDr_ok : EnvOk Try.prog EDr := ⟨B0_ok, fun _ _ _ _ _ h => (by cases h), fun _ _ _ => noL_good, JL2_ok, fun _ _ _ => noR_good⟩
def cwNs : List Int := [0, 1, 2, 5, 20, 100, -1]
def dExL (bs : List Int) (l : Nat) : Value := .tuple #[.slice (some ⟨0, 0, none⟩) (apsL bs l 0 8).length (apsL bs l 0 8).length, .agg #[.int .i64 (apX bs l (apsP bs l 0 8)), .int .i64 (apY bs l (apsP bs l 0 8))]]
def dCwL (bs : List Int) (l : Nat) : Value := .tuple #[.slice (some ⟨0, 0, none⟩) (apsL bs l 0 8).length (apsL bs l 0 8).length, .agg #[.int .i64 (apX bs l (apsP bs l 0 8)), .int .i64 (apY bs l (apsP bs l 0 8))], .int .i64 (oneI bs l (apP bs l (apsP bs l 0 8)) 7 cwNs)]
def dRow (bs : List Int) (l : Nat) (m : Int) : Blk := ⟨.row 25 2, .ints (flat (apsL bs l 0 m))⟩
theorem drKey {bs : List Int} {n : Nat} (hb : Bytes bs) (hn : n ≤ bs.length) {l : Nat} (h1 : l ≤ n) (h2 : l ≤ 2000) {m : Int} (hm : 0 ≤ m ∧ m ≤ 20) : rdC bs l 0 ∧ rdK bs l (apsP bs l 0 m) ∧ rdC bs l (apP bs l (apsP bs l 0 m)) ∧ (apsL bs l 0 m).length ≤ 21 := by
  have r0 : rdK bs l 0 := rdK0 hb hn h1 h2 (by omega) (by omega)
  have r1 : rdC bs l (0 + 1) := r0.at (by omega) (by omega)
  have b1 := apsP_bd (m := m) r1 hm
  have r2 : rdK bs l (apsP bs l 0 m) := rdK0 hb hn h1 h2 (by omega) (by omega)
  have b2 := apP_bd bs l (apsP bs l 0 m)
  exact ⟨r0.1, r2, r2.at (by omega) (by omega), apsL_len r1 hm⟩
end Go.Proofs.Ytoijfjifaljpaab
