/-
  Drawn lists with a rectangle: DrawPointsInRect; DrawMaxima. Written by an AI agent.
-/
import Derived.Test.YtoijfjifaljpaabDrwA
import Derived.Test.YtoijfjifaljpaabRdE
namespace Go.Proofs.Ytoijfjifaljpaab
open Go.RowKit

def JDB : List (FuncId × RSpec) := (58, arectS) :: J3
theorem JDB_ok : JOk Try.prog JDB := J3_ok.cons (entersB_res (by kernel_rfl)).1 arectS_ok
def JL3 : TabJ := consR 57 (rdGR aptsS) (tabJ JDB)
theorem JL3_ok : GSound Try.prog JL3.g := consR_ok mixed (tabJ_sound mixed JDB_ok) (entersB_res (by kernel_rfl)).1 aptsS_ok
def EDb : Env := withT (mkE B0 (fun _ _ => none) (fun _ => noL)) JL3
theorem EDb_ok : EnvOk Try.prog EDb := withT_ok (mkEOk B0_ok (fun _ _ _ _ _ h => (by cases h)) (fun _ _ _ => noL_good)) JL3_ok
set_option maxRecDepth 100000 in
theorem tr_dPir (bs : List Int) (n : Nat) : bodyX Try.prog EDb 30 12 15 [.row n (.bytes bs)] = brT (decide (2000 < (↑n : Int))) (.need ((0 : Int) ≤ bndI none (0 : Int) ∧ bndI none (0 : Int) ≤ bndI (some (IntKind.i64, (2000 : Int))) (↑n : Int) ∧ bndI (some (IntKind.i64, (2000 : Int))) (↑n : Int) ≤ (↑n : Int)) (.need (rdC bs (2000 : Nat) (0 : Int)) (.need ((0 : Int) ≤ (600000 : Int)) (.need ((0 : Int) ≤ (8 : Int) ∧ (8 : Int) ≤ (20 : Int)) (.need (rdK bs (2000 : Nat) (apsP bs (2000 : Nat) (0 : Int) (8 : Int))) (.fin (.tuple #[.slice (some ⟨3, 0, none⟩) ((apsL bs 2000 0 8).length) ((apsL bs 2000 0 8).length), .agg #[.int .i64 (rcX bs 2000 (apsP bs 2000 0 8)), .int .i64 (reY bs 2000 (apsP bs 2000 0 8)), .int .i64 (reU bs 2000 (apsP bs 2000 0 8)), .int .i64 (rcW bs 2000 (apsP bs 2000 0 8))]]) [some ⟨.view, .bytes (bs)⟩, some ⟨.box, .vals [.int .i64 (rcX bs 2000 (apsP bs 2000 0 8)), .int .i64 (reY bs 2000 (apsP bs 2000 0 8)), .int .i64 (reU bs 2000 (apsP bs 2000 0 8)), .int .i64 (rcW bs 2000 (apsP bs 2000 0 8))]⟩, some ⟨.box, .vals [.slice (some ⟨0, 0, none⟩) (2000) (2000), .int .i64 (reP bs 2000 (apsP bs 2000 0 8))]⟩, some ⟨.row 25 2, .ints (flat (apsL bs 2000 0 8))⟩])))))) (.need (rdC bs n (0 : Int)) (.need ((0 : Int) ≤ (600000 : Int)) (.need ((0 : Int) ≤ (8 : Int) ∧ (8 : Int) ≤ (20 : Int)) (.need (rdK bs n (apsP bs n (0 : Int) (8 : Int))) (.fin (.tuple #[.slice (some ⟨3, 0, none⟩) ((apsL bs n 0 8).length) ((apsL bs n 0 8).length), .agg #[.int .i64 (rcX bs n (apsP bs n 0 8)), .int .i64 (reY bs n (apsP bs n 0 8)), .int .i64 (reU bs n (apsP bs n 0 8)), .int .i64 (rcW bs n (apsP bs n 0 8))]]) [some ⟨.view, .bytes (bs)⟩, some ⟨.box, .vals [.int .i64 (rcX bs n (apsP bs n 0 8)), .int .i64 (reY bs n (apsP bs n 0 8)), .int .i64 (reU bs n (apsP bs n 0 8)), .int .i64 (rcW bs n (apsP bs n 0 8))]⟩, some ⟨.box, .vals [.slice (some ⟨0, 0, none⟩) (n) (n), .int .i64 (reP bs n (apsP bs n 0 8))]⟩, some ⟨.row 25 2, .ints (flat (apsL bs n 0 8))⟩]))))) := by kernel_rfl
set_option maxRecDepth 100000 in
theorem tr_dMax (bs : List Int) (n : Nat) : bodyX Try.prog EDb 30 12 36 [.row n (.bytes bs)] = brT (decide (2000 < (↑n : Int))) (.need ((0 : Int) ≤ bndI none (0 : Int) ∧ bndI none (0 : Int) ≤ bndI (some (IntKind.i64, (2000 : Int))) (↑n : Int) ∧ bndI (some (IntKind.i64, (2000 : Int))) (↑n : Int) ≤ (↑n : Int)) (.need (rdC bs (2000 : Nat) (0 : Int)) (.need ((0 : Int) ≤ (600000 : Int)) (.need ((0 : Int) ≤ (8 : Int) ∧ (8 : Int) ≤ (20 : Int)) (.fin (.slice (some ⟨2, 0, none⟩) ((apsL bs 2000 0 8).length) ((apsL bs 2000 0 8).length)) [some ⟨.view, .bytes (bs)⟩, some ⟨.box, .vals [.slice (some ⟨0, 0, none⟩) (2000) (2000), .int .i64 (apsP bs 2000 0 8)]⟩, some ⟨.row 25 2, .ints (flat (apsL bs 2000 0 8))⟩]))))) (.need (rdC bs n (0 : Int)) (.need ((0 : Int) ≤ (600000 : Int)) (.need ((0 : Int) ≤ (8 : Int) ∧ (8 : Int) ≤ (20 : Int)) (.fin (.slice (some ⟨2, 0, none⟩) ((apsL bs n 0 8).length) ((apsL bs n 0 8).length)) [some ⟨.view, .bytes (bs)⟩, some ⟨.box, .vals [.slice (some ⟨0, 0, none⟩) (n) (n), .int .i64 (apsP bs n 0 8)]⟩, some ⟨.row 25 2, .ints (flat (apsL bs n 0 8))⟩])))) := by kernel_rfl
def dpP (bs : List Int) (l : Nat) : Int := apsP bs l 0 8
def dPirL (bs : List Int) (l : Nat) : Value := .tuple #[.slice (some ⟨0, 0, none⟩) (apsL bs l 0 8).length (apsL bs l 0 8).length, agg4 (rcX bs l (dpP bs l)) (reY bs l (dpP bs l)) (reU bs l (dpP bs l)) (rcW bs l (dpP bs l))]
def dMaxL (bs : List Int) (l : Nat) : Value := .slice (some ⟨0, 0, none⟩) (apsL bs l 0 8).length (apsL bs l 0 8).length
theorem resR_dPir (bs : List Int) (n : Nat) (hb : Bytes bs) (hn : n ≤ bs.length) : ResR Try.prog 15 [.row n (.bytes bs)] (dPirL bs (rdL n)) (dRow bs (rdL n) 8) := by
  refine bodyX_resR mixed EDb_ok (m := 30) (n := 12) rfl ?_
  rw [tr_dPir]
  refine brT_ok.2 ⟨fun h => ?_, fun h => ?_⟩
  · have h := of_decide_eq_true h
    obtain ⟨k1, k2, k3, k4⟩ := drKey hb hn (l := 2000) (by omega) (by omega) (m := 8) (by omega)
    rw [rdL_of h]
    exact ⟨bnd2000 h, k1, by omega, by omega, k2, some 3, ⟨⟨rfl, rfl, rfl⟩, ⟨rfl, rfl⟩, trivial⟩, rfl, rfl, rfl⟩
  · have h := of_decide_eq_false h
    obtain ⟨k1, k2, k3, k4⟩ := drKey hb hn (l := n) (by omega) (by omega) (m := 8) (by omega)
    rw [rdL_no h]
    exact ⟨k1, by omega, by omega, k2, some 3, ⟨⟨rfl, rfl, rfl⟩, ⟨rfl, rfl⟩, trivial⟩, rfl, rfl, rfl⟩
end Go.Proofs.Ytoijfjifaljpaab
