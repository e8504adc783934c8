/-
  Laws of drawn points: Cross, Orient, SquaredDistance. Written by an AI agent.
-/
import Derived.Test.YtfkdagkldkabpaaRdC
import Derived.Test.YtfkdagkldkabpaaPubA
namespace Go.Proofs.Ytfkdagkldkabpaa
open Go.RowKit

def TD1 : Tab := fun f ds => match f with
  | 54 => pThree ds
  | _ => TA f ds
theorem TD1_ok : TabOk Try.prog TD1 := by
  intro f ds v C h hC
  unfold TD1 at h
  split at h
  · unfold pThree at h
    split at h
    · obtain ⟨rfl, rfl⟩ : _ ∧ _ := by simpa using h
      exact res_three _ _ hC.1 hC.2.1
    · cases h
  · exact TA_ok _ _ _ _ h hC
def ED1 : Env := tabE TD1
theorem ED1_ok : EnvOk Try.prog ED1 := tabE_ok TD1_ok
set_option maxRecDepth 100000 in
theorem tr_lCross (bs : List Int) : bodyX Try.prog ED1 30 12 3 [.row bs.length (.bytes bs)] = brT (decide (1048576 < (↑bs.length : Int))) (.fin (.bool (true)) [some ⟨.view, .bytes (bs)⟩]) (.need (Bytes (List.drop (0 : Nat) bs)) (.need (bs.length ≤ (List.drop (0 : Nat) bs).length) (brT (!crossR (d3 (List.drop 0 bs) bs.length 0) (d3 (List.drop 0 bs) bs.length 1) (d3 (List.drop 0 bs) bs.length 2) (d3 (List.drop 0 bs) bs.length 3) (d3 (List.drop 0 bs) bs.length 4) (d3 (List.drop 0 bs) bs.length 5) == crossR (d3 (List.drop 0 bs) bs.length 0) (d3 (List.drop 0 bs) bs.length 1) (d3 (List.drop 0 bs) bs.length 2) (d3 (List.drop 0 bs) bs.length 3) (d3 (List.drop 0 bs) bs.length 4) (d3 (List.drop 0 bs) bs.length 5)) (.fin (.bool (false)) [some ⟨.view, .bytes (bs)⟩, some ⟨.box, .vals [.int .i64 (d3 (List.drop 0 bs) bs.length 0), .int .i64 (d3 (List.drop 0 bs) bs.length 1)]⟩, some ⟨.box, .vals [.int .i64 (d3 (List.drop 0 bs) bs.length 2), .int .i64 (d3 (List.drop 0 bs) bs.length 3)]⟩, some ⟨.box, .vals [.int .i64 (d3 (List.drop 0 bs) bs.length 4), .int .i64 (d3 (List.drop 0 bs) bs.length 5)]⟩, some ⟨.box, .vals [.int .i64 (d3 (List.drop 0 bs) bs.length 0), .int .i64 (d3 (List.drop 0 bs) bs.length 1)]⟩, some ⟨.box, .vals [.int .i64 (d3 (List.drop 0 bs) bs.length 2), .int .i64 (d3 (List.drop 0 bs) bs.length 3)]⟩, some ⟨.box, .vals [.int .i64 (d3 (List.drop 0 bs) bs.length 4), .int .i64 (d3 (List.drop 0 bs) bs.length 5)]⟩]) (brT (crossR (d3 (List.drop 0 bs) bs.length 2) (d3 (List.drop 0 bs) bs.length 3) (d3 (List.drop 0 bs) bs.length 0) (d3 (List.drop 0 bs) bs.length 1) (d3 (List.drop 0 bs) bs.length 4) (d3 (List.drop 0 bs) bs.length 5) == IntKind.i64.wrap (0 - crossR (d3 (List.drop 0 bs) bs.length 0) (d3 (List.drop 0 bs) bs.length 1) (d3 (List.drop 0 bs) bs.length 2) (d3 (List.drop 0 bs) bs.length 3) (d3 (List.drop 0 bs) bs.length 4) (d3 (List.drop 0 bs) bs.length 5))) (brT (crossR (d3 (List.drop 0 bs) bs.length 2) (d3 (List.drop 0 bs) bs.length 3) (d3 (List.drop 0 bs) bs.length 4) (d3 (List.drop 0 bs) bs.length 5) (d3 (List.drop 0 bs) bs.length 0) (d3 (List.drop 0 bs) bs.length 1) == crossR (d3 (List.drop 0 bs) bs.length 0) (d3 (List.drop 0 bs) bs.length 1) (d3 (List.drop 0 bs) bs.length 2) (d3 (List.drop 0 bs) bs.length 3) (d3 (List.drop 0 bs) bs.length 4) (d3 (List.drop 0 bs) bs.length 5)) (brT (crossR (d3 (List.drop 0 bs) bs.length 4) (d3 (List.drop 0 bs) bs.length 5) (d3 (List.drop 0 bs) bs.length 0) (d3 (List.drop 0 bs) bs.length 1) (d3 (List.drop 0 bs) bs.length 2) (d3 (List.drop 0 bs) bs.length 3) == crossR (d3 (List.drop 0 bs) bs.length 0) (d3 (List.drop 0 bs) bs.length 1) (d3 (List.drop 0 bs) bs.length 2) (d3 (List.drop 0 bs) bs.length 3) (d3 (List.drop 0 bs) bs.length 4) (d3 (List.drop 0 bs) bs.length 5)) (.fin (.bool (crossR (d3 (List.drop 0 bs) bs.length 0) (d3 (List.drop 0 bs) bs.length 1) (d3 (List.drop 0 bs) bs.length 0) (d3 (List.drop 0 bs) bs.length 1) (d3 (List.drop 0 bs) bs.length 4) (d3 (List.drop 0 bs) bs.length 5) == 0)) [some ⟨.view, .bytes (bs)⟩, some ⟨.box, .vals [.int .i64 (d3 (List.drop 0 bs) bs.length 0), .int .i64 (d3 (List.drop 0 bs) bs.length 1)]⟩, some ⟨.box, .vals [.int .i64 (d3 (List.drop 0 bs) bs.length 2), .int .i64 (d3 (List.drop 0 bs) bs.length 3)]⟩, some ⟨.box, .vals [.int .i64 (d3 (List.drop 0 bs) bs.length 4), .int .i64 (d3 (List.drop 0 bs) bs.length 5)]⟩, some ⟨.box, .vals [.int .i64 (d3 (List.drop 0 bs) bs.length 0), .int .i64 (d3 (List.drop 0 bs) bs.length 1)]⟩, some ⟨.box, .vals [.int .i64 (d3 (List.drop 0 bs) bs.length 2), .int .i64 (d3 (List.drop 0 bs) bs.length 3)]⟩, some ⟨.box, .vals [.int .i64 (d3 (List.drop 0 bs) bs.length 4), .int .i64 (d3 (List.drop 0 bs) bs.length 5)]⟩]) (.fin (.bool (false)) [some ⟨.view, .bytes (bs)⟩, some ⟨.box, .vals [.int .i64 (d3 (List.drop 0 bs) bs.length 0), .int .i64 (d3 (List.drop 0 bs) bs.length 1)]⟩, some ⟨.box, .vals [.int .i64 (d3 (List.drop 0 bs) bs.length 2), .int .i64 (d3 (List.drop 0 bs) bs.length 3)]⟩, some ⟨.box, .vals [.int .i64 (d3 (List.drop 0 bs) bs.length 4), .int .i64 (d3 (List.drop 0 bs) bs.length 5)]⟩, some ⟨.box, .vals [.int .i64 (d3 (List.drop 0 bs) bs.length 0), .int .i64 (d3 (List.drop 0 bs) bs.length 1)]⟩, some ⟨.box, .vals [.int .i64 (d3 (List.drop 0 bs) bs.length 2), .int .i64 (d3 (List.drop 0 bs) bs.length 3)]⟩, some ⟨.box, .vals [.int .i64 (d3 (List.drop 0 bs) bs.length 4), .int .i64 (d3 (List.drop 0 bs) bs.length 5)]⟩])) (.fin (.bool (false)) [some ⟨.view, .bytes (bs)⟩, some ⟨.box, .vals [.int .i64 (d3 (List.drop 0 bs) bs.length 0), .int .i64 (d3 (List.drop 0 bs) bs.length 1)]⟩, some ⟨.box, .vals [.int .i64 (d3 (List.drop 0 bs) bs.length 2), .int .i64 (d3 (List.drop 0 bs) bs.length 3)]⟩, some ⟨.box, .vals [.int .i64 (d3 (List.drop 0 bs) bs.length 4), .int .i64 (d3 (List.drop 0 bs) bs.length 5)]⟩, some ⟨.box, .vals [.int .i64 (d3 (List.drop 0 bs) bs.length 0), .int .i64 (d3 (List.drop 0 bs) bs.length 1)]⟩, some ⟨.box, .vals [.int .i64 (d3 (List.drop 0 bs) bs.length 2), .int .i64 (d3 (List.drop 0 bs) bs.length 3)]⟩, some ⟨.box, .vals [.int .i64 (d3 (List.drop 0 bs) bs.length 4), .int .i64 (d3 (List.drop 0 bs) bs.length 5)]⟩])) (.fin (.bool (false)) [some ⟨.view, .bytes (bs)⟩, some ⟨.box, .vals [.int .i64 (d3 (List.drop 0 bs) bs.length 0), .int .i64 (d3 (List.drop 0 bs) bs.length 1)]⟩, some ⟨.box, .vals [.int .i64 (d3 (List.drop 0 bs) bs.length 2), .int .i64 (d3 (List.drop 0 bs) bs.length 3)]⟩, some ⟨.box, .vals [.int .i64 (d3 (List.drop 0 bs) bs.length 4), .int .i64 (d3 (List.drop 0 bs) bs.length 5)]⟩, some ⟨.box, .vals [.int .i64 (d3 (List.drop 0 bs) bs.length 0), .int .i64 (d3 (List.drop 0 bs) bs.length 1)]⟩, some ⟨.box, .vals [.int .i64 (d3 (List.drop 0 bs) bs.length 2), .int .i64 (d3 (List.drop 0 bs) bs.length 3)]⟩, some ⟨.box, .vals [.int .i64 (d3 (List.drop 0 bs) bs.length 4), .int .i64 (d3 (List.drop 0 bs) bs.length 5)]⟩]))))) := by kernel_rfl
set_option maxRecDepth 100000 in
theorem tr_lOrient (bs : List Int) : bodyX Try.prog ED1 30 12 4 [.row bs.length (.bytes bs)] = brT (decide (1048576 < (↑bs.length : Int))) (.fin (.bool (true)) [some ⟨.view, .bytes (bs)⟩]) (.need (Bytes (List.drop (0 : Nat) bs)) (.need (bs.length ≤ (List.drop (0 : Nat) bs).length) (brT (!orientR (d3 (List.drop 0 bs) bs.length 0) (d3 (List.drop 0 bs) bs.length 1) (d3 (List.drop 0 bs) bs.length 2) (d3 (List.drop 0 bs) bs.length 3) (d3 (List.drop 0 bs) bs.length 4) (d3 (List.drop 0 bs) bs.length 5) == orientR (d3 (List.drop 0 bs) bs.length 0) (d3 (List.drop 0 bs) bs.length 1) (d3 (List.drop 0 bs) bs.length 2) (d3 (List.drop 0 bs) bs.length 3) (d3 (List.drop 0 bs) bs.length 4) (d3 (List.drop 0 bs) bs.length 5)) (.fin (.bool (orientR (d3 (List.drop 0 bs) bs.length 0) (d3 (List.drop 0 bs) bs.length 1) (d3 (List.drop 0 bs) bs.length 2) (d3 (List.drop 0 bs) bs.length 3) (d3 (List.drop 0 bs) bs.length 4) (d3 (List.drop 0 bs) bs.length 5) == orientR (d3 (List.drop 0 bs) bs.length 0) (d3 (List.drop 0 bs) bs.length 1) (d3 (List.drop 0 bs) bs.length 2) (d3 (List.drop 0 bs) bs.length 3) (d3 (List.drop 0 bs) bs.length 4) (d3 (List.drop 0 bs) bs.length 5))) [some ⟨.view, .bytes (bs)⟩, some ⟨.box, .vals [.int .i64 (d3 (List.drop 0 bs) bs.length 0), .int .i64 (d3 (List.drop 0 bs) bs.length 1)]⟩, some ⟨.box, .vals [.int .i64 (d3 (List.drop 0 bs) bs.length 2), .int .i64 (d3 (List.drop 0 bs) bs.length 3)]⟩, some ⟨.box, .vals [.int .i64 (d3 (List.drop 0 bs) bs.length 4), .int .i64 (d3 (List.drop 0 bs) bs.length 5)]⟩, some ⟨.box, .vals [.int .i64 (d3 (List.drop 0 bs) bs.length 0), .int .i64 (d3 (List.drop 0 bs) bs.length 1)]⟩, some ⟨.box, .vals [.int .i64 (d3 (List.drop 0 bs) bs.length 2), .int .i64 (d3 (List.drop 0 bs) bs.length 3)]⟩, some ⟨.box, .vals [.int .i64 (d3 (List.drop 0 bs) bs.length 4), .int .i64 (d3 (List.drop 0 bs) bs.length 5)]⟩]) (brT (orientR (d3 (List.drop 0 bs) bs.length 0) (d3 (List.drop 0 bs) bs.length 1) (d3 (List.drop 0 bs) bs.length 2) (d3 (List.drop 0 bs) bs.length 3) (d3 (List.drop 0 bs) bs.length 4) (d3 (List.drop 0 bs) bs.length 5) == 2) (.fin (.bool (orientR (d3 (List.drop 0 bs) bs.length 0) (d3 (List.drop 0 bs) bs.length 1) (d3 (List.drop 0 bs) bs.length 2) (d3 (List.drop 0 bs) bs.length 3) (d3 (List.drop 0 bs) bs.length 4) (d3 (List.drop 0 bs) bs.length 5) == orientR (d3 (List.drop 0 bs) bs.length 0) (d3 (List.drop 0 bs) bs.length 1) (d3 (List.drop 0 bs) bs.length 2) (d3 (List.drop 0 bs) bs.length 3) (d3 (List.drop 0 bs) bs.length 4) (d3 (List.drop 0 bs) bs.length 5))) [some ⟨.view, .bytes (bs)⟩, some ⟨.box, .vals [.int .i64 (d3 (List.drop 0 bs) bs.length 0), .int .i64 (d3 (List.drop 0 bs) bs.length 1)]⟩, some ⟨.box, .vals [.int .i64 (d3 (List.drop 0 bs) bs.length 2), .int .i64 (d3 (List.drop 0 bs) bs.length 3)]⟩, some ⟨.box, .vals [.int .i64 (d3 (List.drop 0 bs) bs.length 4), .int .i64 (d3 (List.drop 0 bs) bs.length 5)]⟩, some ⟨.box, .vals [.int .i64 (d3 (List.drop 0 bs) bs.length 0), .int .i64 (d3 (List.drop 0 bs) bs.length 1)]⟩, some ⟨.box, .vals [.int .i64 (d3 (List.drop 0 bs) bs.length 2), .int .i64 (d3 (List.drop 0 bs) bs.length 3)]⟩, some ⟨.box, .vals [.int .i64 (d3 (List.drop 0 bs) bs.length 4), .int .i64 (d3 (List.drop 0 bs) bs.length 5)]⟩]) (brT (decide (0 < orientR (d3 (List.drop 0 bs) bs.length 0) (d3 (List.drop 0 bs) bs.length 1) (d3 (List.drop 0 bs) bs.length 2) (d3 (List.drop 0 bs) bs.length 3) (d3 (List.drop 0 bs) bs.length 4) (d3 (List.drop 0 bs) bs.length 5)) == decide (0 < crossR (d3 (List.drop 0 bs) bs.length 0) (d3 (List.drop 0 bs) bs.length 1) (d3 (List.drop 0 bs) bs.length 2) (d3 (List.drop 0 bs) bs.length 3) (d3 (List.drop 0 bs) bs.length 4) (d3 (List.drop 0 bs) bs.length 5))) (brT (decide (orientR (d3 (List.drop 0 bs) bs.length 0) (d3 (List.drop 0 bs) bs.length 1) (d3 (List.drop 0 bs) bs.length 2) (d3 (List.drop 0 bs) bs.length 3) (d3 (List.drop 0 bs) bs.length 4) (d3 (List.drop 0 bs) bs.length 5) < 0) == decide (crossR (d3 (List.drop 0 bs) bs.length 0) (d3 (List.drop 0 bs) bs.length 1) (d3 (List.drop 0 bs) bs.length 2) (d3 (List.drop 0 bs) bs.length 3) (d3 (List.drop 0 bs) bs.length 4) (d3 (List.drop 0 bs) bs.length 5) < 0)) (.fin (.bool (orientR (d3 (List.drop 0 bs) bs.length 0) (d3 (List.drop 0 bs) bs.length 1) (d3 (List.drop 0 bs) bs.length 4) (d3 (List.drop 0 bs) bs.length 5) (d3 (List.drop 0 bs) bs.length 2) (d3 (List.drop 0 bs) bs.length 3) == IntKind.i64.wrap (0 - orientR (d3 (List.drop 0 bs) bs.length 0) (d3 (List.drop 0 bs) bs.length 1) (d3 (List.drop 0 bs) bs.length 2) (d3 (List.drop 0 bs) bs.length 3) (d3 (List.drop 0 bs) bs.length 4) (d3 (List.drop 0 bs) bs.length 5)))) [some ⟨.view, .bytes (bs)⟩, some ⟨.box, .vals [.int .i64 (d3 (List.drop 0 bs) bs.length 0), .int .i64 (d3 (List.drop 0 bs) bs.length 1)]⟩, some ⟨.box, .vals [.int .i64 (d3 (List.drop 0 bs) bs.length 2), .int .i64 (d3 (List.drop 0 bs) bs.length 3)]⟩, some ⟨.box, .vals [.int .i64 (d3 (List.drop 0 bs) bs.length 4), .int .i64 (d3 (List.drop 0 bs) bs.length 5)]⟩, some ⟨.box, .vals [.int .i64 (d3 (List.drop 0 bs) bs.length 0), .int .i64 (d3 (List.drop 0 bs) bs.length 1)]⟩, some ⟨.box, .vals [.int .i64 (d3 (List.drop 0 bs) bs.length 2), .int .i64 (d3 (List.drop 0 bs) bs.length 3)]⟩, some ⟨.box, .vals [.int .i64 (d3 (List.drop 0 bs) bs.length 4), .int .i64 (d3 (List.drop 0 bs) bs.length 5)]⟩]) (.fin (.bool (false)) [some ⟨.view, .bytes (bs)⟩, some ⟨.box, .vals [.int .i64 (d3 (List.drop 0 bs) bs.length 0), .int .i64 (d3 (List.drop 0 bs) bs.length 1)]⟩, some ⟨.box, .vals [.int .i64 (d3 (List.drop 0 bs) bs.length 2), .int .i64 (d3 (List.drop 0 bs) bs.length 3)]⟩, some ⟨.box, .vals [.int .i64 (d3 (List.drop 0 bs) bs.length 4), .int .i64 (d3 (List.drop 0 bs) bs.length 5)]⟩, some ⟨.box, .vals [.int .i64 (d3 (List.drop 0 bs) bs.length 0), .int .i64 (d3 (List.drop 0 bs) bs.length 1)]⟩, some ⟨.box, .vals [.int .i64 (d3 (List.drop 0 bs) bs.length 2), .int .i64 (d3 (List.drop 0 bs) bs.length 3)]⟩, some ⟨.box, .vals [.int .i64 (d3 (List.drop 0 bs) bs.length 4), .int .i64 (d3 (List.drop 0 bs) bs.length 5)]⟩])) (.fin (.bool (false)) [some ⟨.view, .bytes (bs)⟩, some ⟨.box, .vals [.int .i64 (d3 (List.drop 0 bs) bs.length 0), .int .i64 (d3 (List.drop 0 bs) bs.length 1)]⟩, some ⟨.box, .vals [.int .i64 (d3 (List.drop 0 bs) bs.length 2), .int .i64 (d3 (List.drop 0 bs) bs.length 3)]⟩, some ⟨.box, .vals [.int .i64 (d3 (List.drop 0 bs) bs.length 4), .int .i64 (d3 (List.drop 0 bs) bs.length 5)]⟩, some ⟨.box, .vals [.int .i64 (d3 (List.drop 0 bs) bs.length 0), .int .i64 (d3 (List.drop 0 bs) bs.length 1)]⟩, some ⟨.box, .vals [.int .i64 (d3 (List.drop 0 bs) bs.length 2), .int .i64 (d3 (List.drop 0 bs) bs.length 3)]⟩, some ⟨.box, .vals [.int .i64 (d3 (List.drop 0 bs) bs.length 4), .int .i64 (d3 (List.drop 0 bs) bs.length 5)]⟩])))))) := by kernel_rfl
set_option maxRecDepth 100000 in
theorem tr_lSq (bs : List Int) : bodyX Try.prog ED1 30 12 5 [.row bs.length (.bytes bs)] = brT (decide (1048576 < (↑bs.length : Int))) (.fin (.bool (true)) [some ⟨.view, .bytes (bs)⟩]) (.need (Bytes (List.drop (0 : Nat) bs)) (.need (bs.length ≤ (List.drop (0 : Nat) bs).length) (brT (!sqR (d3 (List.drop 0 bs) bs.length 0) (d3 (List.drop 0 bs) bs.length 1) (d3 (List.drop 0 bs) bs.length 2) (d3 (List.drop 0 bs) bs.length 3) == sqR (d3 (List.drop 0 bs) bs.length 0) (d3 (List.drop 0 bs) bs.length 1) (d3 (List.drop 0 bs) bs.length 2) (d3 (List.drop 0 bs) bs.length 3)) (.fin (.bool (sqR (d3 (List.drop 0 bs) bs.length 0) (d3 (List.drop 0 bs) bs.length 1) (d3 (List.drop 0 bs) bs.length 2) (d3 (List.drop 0 bs) bs.length 3) == sqR (d3 (List.drop 0 bs) bs.length 0) (d3 (List.drop 0 bs) bs.length 1) (d3 (List.drop 0 bs) bs.length 2) (d3 (List.drop 0 bs) bs.length 3))) [some ⟨.view, .bytes (bs)⟩, some ⟨.box, .vals [.int .i64 (d3 (List.drop 0 bs) bs.length 0), .int .i64 (d3 (List.drop 0 bs) bs.length 1)]⟩, some ⟨.box, .vals [.int .i64 (d3 (List.drop 0 bs) bs.length 2), .int .i64 (d3 (List.drop 0 bs) bs.length 3)]⟩, some ⟨.box, .vals [.int .i64 (d3 (List.drop 0 bs) bs.length 0), .int .i64 (d3 (List.drop 0 bs) bs.length 1)]⟩, some ⟨.box, .vals [.int .i64 (d3 (List.drop 0 bs) bs.length 2), .int .i64 (d3 (List.drop 0 bs) bs.length 3)]⟩, some ⟨.box, .vals [.int .i64 (d3 (List.drop 0 bs) bs.length 0), .int .i64 (d3 (List.drop 0 bs) bs.length 1)]⟩, some ⟨.box, .vals [.int .i64 (d3 (List.drop 0 bs) bs.length 2), .int .i64 (d3 (List.drop 0 bs) bs.length 3)]⟩, some ⟨.box, .vals [.int .i64 (d3 (List.drop 0 bs) bs.length 4), .int .i64 (d3 (List.drop 0 bs) bs.length 5)]⟩]) (brT (decide (sqR (d3 (List.drop 0 bs) bs.length 0) (d3 (List.drop 0 bs) bs.length 1) (d3 (List.drop 0 bs) bs.length 2) (d3 (List.drop 0 bs) bs.length 3) < 0)) (.fin (.bool (sqR (d3 (List.drop 0 bs) bs.length 0) (d3 (List.drop 0 bs) bs.length 1) (d3 (List.drop 0 bs) bs.length 2) (d3 (List.drop 0 bs) bs.length 3) == sqR (d3 (List.drop 0 bs) bs.length 0) (d3 (List.drop 0 bs) bs.length 1) (d3 (List.drop 0 bs) bs.length 2) (d3 (List.drop 0 bs) bs.length 3))) [some ⟨.view, .bytes (bs)⟩, some ⟨.box, .vals [.int .i64 (d3 (List.drop 0 bs) bs.length 0), .int .i64 (d3 (List.drop 0 bs) bs.length 1)]⟩, some ⟨.box, .vals [.int .i64 (d3 (List.drop 0 bs) bs.length 2), .int .i64 (d3 (List.drop 0 bs) bs.length 3)]⟩, some ⟨.box, .vals [.int .i64 (d3 (List.drop 0 bs) bs.length 0), .int .i64 (d3 (List.drop 0 bs) bs.length 1)]⟩, some ⟨.box, .vals [.int .i64 (d3 (List.drop 0 bs) bs.length 2), .int .i64 (d3 (List.drop 0 bs) bs.length 3)]⟩, some ⟨.box, .vals [.int .i64 (d3 (List.drop 0 bs) bs.length 0), .int .i64 (d3 (List.drop 0 bs) bs.length 1)]⟩, some ⟨.box, .vals [.int .i64 (d3 (List.drop 0 bs) bs.length 2), .int .i64 (d3 (List.drop 0 bs) bs.length 3)]⟩, some ⟨.box, .vals [.int .i64 (d3 (List.drop 0 bs) bs.length 4), .int .i64 (d3 (List.drop 0 bs) bs.length 5)]⟩]) (brT (sqR (d3 (List.drop 0 bs) bs.length 2) (d3 (List.drop 0 bs) bs.length 3) (d3 (List.drop 0 bs) bs.length 0) (d3 (List.drop 0 bs) bs.length 1) == sqR (d3 (List.drop 0 bs) bs.length 0) (d3 (List.drop 0 bs) bs.length 1) (d3 (List.drop 0 bs) bs.length 2) (d3 (List.drop 0 bs) bs.length 3)) (brT ((sqR (d3 (List.drop 0 bs) bs.length 0) (d3 (List.drop 0 bs) bs.length 1) (d3 (List.drop 0 bs) bs.length 2) (d3 (List.drop 0 bs) bs.length 3) == 0) == negB false (d3 (List.drop 0 bs) bs.length 0 == d3 (List.drop 0 bs) bs.length 2 && (d3 (List.drop 0 bs) bs.length 1 == d3 (List.drop 0 bs) bs.length 3 && true))) (.fin (.bool (decide (sqR (d3 (List.drop 0 bs) bs.length 0) (d3 (List.drop 0 bs) bs.length 1) (d3 (List.drop 0 bs) bs.length 2) (d3 (List.drop 0 bs) bs.length 3) ≤ 8000000))) [some ⟨.view, .bytes (bs)⟩, some ⟨.box, .vals [.int .i64 (d3 (List.drop 0 bs) bs.length 0), .int .i64 (d3 (List.drop 0 bs) bs.length 1)]⟩, some ⟨.box, .vals [.int .i64 (d3 (List.drop 0 bs) bs.length 2), .int .i64 (d3 (List.drop 0 bs) bs.length 3)]⟩, some ⟨.box, .vals [.int .i64 (d3 (List.drop 0 bs) bs.length 0), .int .i64 (d3 (List.drop 0 bs) bs.length 1)]⟩, some ⟨.box, .vals [.int .i64 (d3 (List.drop 0 bs) bs.length 2), .int .i64 (d3 (List.drop 0 bs) bs.length 3)]⟩, some ⟨.box, .vals [.int .i64 (d3 (List.drop 0 bs) bs.length 0), .int .i64 (d3 (List.drop 0 bs) bs.length 1)]⟩, some ⟨.box, .vals [.int .i64 (d3 (List.drop 0 bs) bs.length 2), .int .i64 (d3 (List.drop 0 bs) bs.length 3)]⟩, some ⟨.box, .vals [.int .i64 (d3 (List.drop 0 bs) bs.length 4), .int .i64 (d3 (List.drop 0 bs) bs.length 5)]⟩]) (.fin (.bool (false)) [some ⟨.view, .bytes (bs)⟩, some ⟨.box, .vals [.int .i64 (d3 (List.drop 0 bs) bs.length 0), .int .i64 (d3 (List.drop 0 bs) bs.length 1)]⟩, some ⟨.box, .vals [.int .i64 (d3 (List.drop 0 bs) bs.length 2), .int .i64 (d3 (List.drop 0 bs) bs.length 3)]⟩, some ⟨.box, .vals [.int .i64 (d3 (List.drop 0 bs) bs.length 0), .int .i64 (d3 (List.drop 0 bs) bs.length 1)]⟩, some ⟨.box, .vals [.int .i64 (d3 (List.drop 0 bs) bs.length 2), .int .i64 (d3 (List.drop 0 bs) bs.length 3)]⟩, some ⟨.box, .vals [.int .i64 (d3 (List.drop 0 bs) bs.length 0), .int .i64 (d3 (List.drop 0 bs) bs.length 1)]⟩, some ⟨.box, .vals [.int .i64 (d3 (List.drop 0 bs) bs.length 2), .int .i64 (d3 (List.drop 0 bs) bs.length 3)]⟩, some ⟨.box, .vals [.int .i64 (d3 (List.drop 0 bs) bs.length 4), .int .i64 (d3 (List.drop 0 bs) bs.length 5)]⟩])) (.fin (.bool (false)) [some ⟨.view, .bytes (bs)⟩, some ⟨.box, .vals [.int .i64 (d3 (List.drop 0 bs) bs.length 0), .int .i64 (d3 (List.drop 0 bs) bs.length 1)]⟩, some ⟨.box, .vals [.int .i64 (d3 (List.drop 0 bs) bs.length 2), .int .i64 (d3 (List.drop 0 bs) bs.length 3)]⟩, some ⟨.box, .vals [.int .i64 (d3 (List.drop 0 bs) bs.length 0), .int .i64 (d3 (List.drop 0 bs) bs.length 1)]⟩, some ⟨.box, .vals [.int .i64 (d3 (List.drop 0 bs) bs.length 2), .int .i64 (d3 (List.drop 0 bs) bs.length 3)]⟩, some ⟨.box, .vals [.int .i64 (d3 (List.drop 0 bs) bs.length 0), .int .i64 (d3 (List.drop 0 bs) bs.length 1)]⟩, some ⟨.box, .vals [.int .i64 (d3 (List.drop 0 bs) bs.length 2), .int .i64 (d3 (List.drop 0 bs) bs.length 3)]⟩, some ⟨.box, .vals [.int .i64 (d3 (List.drop 0 bs) bs.length 4), .int .i64 (d3 (List.drop 0 bs) bs.length 5)]⟩])))))) := by kernel_rfl

section
variable (ax ay bx b_y cx cy : Int)
theorem crossR_swap : crossR bx b_y ax ay cx cy = -crossR ax ay bx b_y cx cy := by
  unfold crossR crossI
  cases ptB ax ay <;> cases ptB bx b_y <;> cases ptB cx cy <;> simp
  grind
theorem crossR_rot : crossR bx b_y cx cy ax ay = crossR ax ay bx b_y cx cy := by
  unfold crossR crossI
  cases ptB ax ay <;> cases ptB bx b_y <;> cases ptB cx cy <;> simp
  grind
theorem crossR_same : crossR ax ay ax ay cx cy = 0 := by
  unfold crossR crossI
  split
  · grind
  · rfl
theorem crossR_bd : -16000000 ≤ crossR ax ay bx b_y cx cy ∧ crossR ax ay bx b_y cx cy ≤ 16000000 := by
  unfold crossR
  split
  · rename_i h
    obtain ⟨h1, h2, h3⟩ := and3 h
    have := cross_bd h1 h2 h3
    unfold crossI
    omega
  · omega
end
theorem wneg {x : Int} (h : -16000000 ≤ x ∧ x ≤ 16000000) : IntKind.i64.wrap (-x) = -x := wr (by omega)
theorem law_cross (bs : List Int) (hb : Bytes bs) (_ : bs.length ≤ maxLen) : Res Try.prog 3 [.row bs.length (.bytes bs)] (.bool true) := by
  refine bodyX_res mixed ED1_ok (m := 30) (n := 12) rfl ?_
  rw [tr_lCross]
  simp only [List.drop_zero]
  generalize d3 bs bs.length 0 = ax
  generalize d3 bs bs.length 1 = ay
  generalize d3 bs bs.length 2 = bx
  generalize d3 bs bs.length 3 = b_y
  generalize d3 bs bs.length 4 = cx
  generalize d3 bs bs.length 5 = cy
  have w := wneg (crossR_bd ax ay bx b_y cx cy)
  have e1 := crossR_swap ax ay bx b_y cx cy
  have e2 := crossR_rot ax ay bx b_y cx cy
  have e3 := crossR_rot bx b_y cx cy ax ay
  have e4 := crossR_same ax ay cx cy
  simp [brT_ok, Tree.ok, hb, w, e1, e2, e3, e4]
theorem orient_part (ax ay bx b_y cx cy : Int) : (orientR ax ay bx b_y cx cy = 2 ∧ True) ∨ (orientR ax ay bx b_y cx cy = sgn (crossR ax ay bx b_y cx cy) ∧ orientR ax ay cx cy bx b_y = -sgn (crossR ax ay bx b_y cx cy)) := by
  rcases va : ptB ax ay with _ | _
  · exact .inl ⟨orientR_no (by rw [va]; rfl), trivial⟩
  rcases vb : ptB bx b_y with _ | _
  · exact .inl ⟨orientR_no (by rw [va, vb]; rfl), trivial⟩
  rcases vc : ptB cx cy with _ | _
  · exact .inl ⟨orientR_no (by rw [va, vb, vc]; rfl), trivial⟩
  right
  rw [orientR_yes (by rw [va, vb, vc]; rfl), orientR_yes (by rw [va, vb, vc]; rfl), crossR_yes (by rw [va, vb, vc]; rfl)]
  refine ⟨rfl, ?_⟩
  have e : crossI ax ay cx cy bx b_y = -crossI ax ay bx b_y cx cy := by unfold crossI; grind
  rw [e]
  unfold sgn
  generalize crossI ax ay bx b_y cx cy = n
  split <;> split <;> (try split) <;> (try split) <;> omega
theorem law_orient (bs : List Int) (hb : Bytes bs) (_ : bs.length ≤ maxLen) : Res Try.prog 4 [.row bs.length (.bytes bs)] (.bool true) := by
  refine bodyX_res mixed ED1_ok (m := 30) (n := 12) rfl ?_
  rw [tr_lOrient]
  simp only [List.drop_zero]
  generalize d3 bs bs.length 0 = ax
  generalize d3 bs bs.length 1 = ay
  generalize d3 bs bs.length 2 = bx
  generalize d3 bs bs.length 3 = b_y
  generalize d3 bs bs.length 4 = cx
  generalize d3 bs bs.length 5 = cy
  rcases orient_part ax ay bx b_y cx cy with ⟨h, _⟩ | ⟨h, k⟩
  · simp [brT_ok, Tree.ok, hb, h]
  · have hs : sgn (crossR ax ay bx b_y cx cy) ≠ 2 ∧ (0 < sgn (crossR ax ay bx b_y cx cy) ↔ 0 < crossR ax ay bx b_y cx cy) ∧ (sgn (crossR ax ay bx b_y cx cy) < 0 ↔ crossR ax ay bx b_y cx cy < 0) ∧ -1 ≤ sgn (crossR ax ay bx b_y cx cy) ∧ sgn (crossR ax ay bx b_y cx cy) ≤ 1 := by
      generalize crossR ax ay bx b_y cx cy = n
      unfold sgn
      split <;> (try split) <;> omega
    generalize sgn (crossR ax ay bx b_y cx cy) = o at *
    obtain ⟨h1, h2, h3, h4⟩ := hs
    have w : IntKind.i64.wrap (-o) = -o := wr (by omega)
    simp [brT_ok, Tree.ok, hb, h, k, w, h1, h2, h3]
theorem sqR_comm (ax ay bx b_y : Int) : sqR bx b_y ax ay = sqR ax ay bx b_y := by
  unfold sqR sqI
  cases ptB ax ay <;> cases ptB bx b_y <;> simp
  grind
theorem sqR_part (ax ay bx b_y : Int) : sqR ax ay bx b_y = -1 ∨ (0 ≤ sqR ax ay bx b_y ∧ sqR ax ay bx b_y ≤ 8000000 ∧ (sqR ax ay bx b_y = 0 ↔ ax = bx ∧ ay = b_y)) := by
  rcases va : ptB ax ay with _ | _
  · exact .inl (sqR_no (by rw [va]; rfl))
  rcases vb : ptB bx b_y with _ | _
  · exact .inl (sqR_no (by rw [va, vb]; rfl))
  right
  rw [sqR_yes (by rw [va, vb]; rfl)]
  have h1 := ptB_true va
  have h2 := ptB_true vb
  have m1 := mul_bd (x := ax - bx) (y := ax - bx) 2000 2000 (by omega) (by omega)
  have m2 := mul_bd (x := ay - b_y) (y := ay - b_y) 2000 2000 (by omega) (by omega)
  have s1 : 0 ≤ (ax - bx) * (ax - bx) := by rcases Int.le_total 0 (ax - bx) with h | h
                                            · exact Int.mul_nonneg h h
                                            · exact Int.mul_nonneg_of_nonpos_of_nonpos h h
  have s2 : 0 ≤ (ay - b_y) * (ay - b_y) := by rcases Int.le_total 0 (ay - b_y) with h | h
                                              · exact Int.mul_nonneg h h
                                              · exact Int.mul_nonneg_of_nonpos_of_nonpos h h
  unfold sqI
  refine ⟨by omega, by omega, fun h => ?_, fun ⟨h, k⟩ => by subst h k; simp⟩
  have e1 : (ax - bx) * (ax - bx) = 0 := by omega
  have e2 : (ay - b_y) * (ay - b_y) = 0 := by omega
  have := Int.mul_eq_zero.1 e1
  have := Int.mul_eq_zero.1 e2
  omega
theorem law_sq (bs : List Int) (hb : Bytes bs) (_ : bs.length ≤ maxLen) : Res Try.prog 5 [.row bs.length (.bytes bs)] (.bool true) := by
  refine bodyX_res mixed ED1_ok (m := 30) (n := 12) rfl ?_
  rw [tr_lSq]
  simp only [List.drop_zero]
  generalize d3 bs bs.length 0 = ax
  generalize d3 bs bs.length 1 = ay
  generalize d3 bs bs.length 2 = bx
  generalize d3 bs bs.length 3 = b_y
  have e := sqR_comm ax ay bx b_y
  rcases sqR_part ax ay bx b_y with h | ⟨h1, h2, h3⟩
  · simp [brT_ok, Tree.ok, hb, h]
  · simp [brT_ok, Tree.ok, hb, e, h1, h2]
    intro _
    show _ = (ax == bx && ay == b_y)
    rw [Bool.eq_iff_iff]
    simpa using h3
end Go.Proofs.Ytfkdagkldkabpaa
