/-
  The table of lines, and the laws of LineThrough and MeetLines. Written by an AI agent.
-/
import Derived.Test.YtkbbdcgknebdbabTabC
namespace Go.Proofs.Ytkbbdcgknebdbab
open Go.RowKit
set_option maxRecDepth 100000 in
theorem tr_specLine (a b c : Int) : runX Try.prog T3 30 12 61 [.v (.agg #[iv a, iv b, iv c])] (fun u => .fin u []) = brT (decide (a ≥ 0)) (brT (!decide (a ≤ 2000)) (.fin (.bool (false)) []) (brT (decide (b ≥ -2000)) (brT (!decide (b ≤ 2000)) (.fin (.bool (false)) []) (brT (decide (c ≥ -4000000)) (brT (!decide (c ≤ 4000000)) (.fin (.bool (false)) []) (brT (decide (a > 0)) (.need (big b) (.need (big0 a) (.need (big0 ↑b.natAbs) (.need (big c) (.need (big0 (gI a ↑b.natAbs)) (.need (big0 ↑c.natAbs) (.fin (.bool (gI (gI a ↑b.natAbs) ↑c.natAbs == 1)) []))))))) (brT (decide (b > 0)) (.need (big b) (.need (big0 a) (.need (big0 ↑b.natAbs) (.need (big c) (.need (big0 (gI a ↑b.natAbs)) (.need (big0 ↑c.natAbs) (.fin (.bool (gI (gI a ↑b.natAbs) ↑c.natAbs == 1)) []))))))) (.fin (.bool (false)) [])))) (.fin (.bool (false)) []))) (.fin (.bool (false)) []))) (.fin (.bool (false)) []) := by kernel_rfl
set_option maxRecDepth 100000 in
theorem tr_implLine (a b c : Int) : runX Try.prog T3 30 12 64 [.v (.agg #[iv a, iv b, iv c])] (fun u => .fin u []) = brT (decide (IntKind.i64.wrap (0 - 2000) ≤ a)) (brT (!decide (a ≤ 2000)) (.fin (.bool (false)) []) (brT (decide (IntKind.i64.wrap (0 - 2000) ≤ b)) (brT (!decide (b ≤ 2000)) (.fin (.bool (false)) []) (brT (decide (IntKind.i64.wrap (0 - 4000000) ≤ c)) (brT (!decide (c ≤ 4000000)) (.fin (.bool (false)) []) (brT (decide (a < 0)) (.fin (.bool (false)) []) (brT (a == 0) (brT (decide (b ≤ 0)) (.fin (.bool (false)) []) (.need (big a) (.need (big b) (.need (big c) (.fin (.bool (gI (gI a b) c == 1)) []))))) (.need (big a) (.need (big b) (.need (big c) (.fin (.bool (gI (gI a b) c == 1)) []))))))) (.fin (.bool (false)) []))) (.fin (.bool (false)) []))) (.fin (.bool (false)) []) := by kernel_rfl
set_option maxRecDepth 100000 in
theorem tr_specThrough (ax ay bx b_y : Int) : runX Try.prog T3 30 12 23 [.v (.agg #[iv ax, iv ay]), .v (.agg #[iv bx, iv b_y])] (fun u => .fin u []) = brT (!ptB ax ay) (.fin (.tuple #[.agg #[.int .i64 (0), .int .i64 (0), .int .i64 (0)], .bool (false)]) []) (brT (!ptB bx b_y) (.fin (.tuple #[.agg #[.int .i64 (0), .int .i64 (0), .int .i64 (0)], .bool (false)]) []) (brT (negB false (ax == bx && (ay == b_y && true))) (.fin (.tuple #[.agg #[.int .i64 (0), .int .i64 (0), .int .i64 (0)], .bool (false)]) []) (brT (decide (IntKind.i64.wrap (b_y - ay) < 0)) (.need (big (IntKind.i64.wrap ((0 : Int) - IntKind.i64.wrap (ax - bx)))) (.need (big0 (IntKind.i64.wrap ((0 : Int) - IntKind.i64.wrap (b_y - ay)))) (.need (big0 ↑(IntKind.i64.wrap ((0 : Int) - IntKind.i64.wrap (ax - bx))).natAbs) (.need (big (IntKind.i64.wrap ((0 : Int) - IntKind.i64.wrap (IntKind.i64.wrap (IntKind.i64.wrap (b_y - ay) * ax) + IntKind.i64.wrap (IntKind.i64.wrap (ax - bx) * ay))))) (.need (big0 (gI (IntKind.i64.wrap ((0 : Int) - IntKind.i64.wrap (b_y - ay))) ↑(IntKind.i64.wrap ((0 : Int) - IntKind.i64.wrap (ax - bx))).natAbs)) (.need (big0 ↑(IntKind.i64.wrap ((0 : Int) - IntKind.i64.wrap (IntKind.i64.wrap (IntKind.i64.wrap (b_y - ay) * ax) + IntKind.i64.wrap (IntKind.i64.wrap (ax - bx) * ay)))).natAbs) (.need (¬gI (gI (IntKind.i64.wrap ((0 : Int) - IntKind.i64.wrap (b_y - ay))) ↑(IntKind.i64.wrap ((0 : Int) - IntKind.i64.wrap (ax - bx))).natAbs) ↑(IntKind.i64.wrap ((0 : Int) - IntKind.i64.wrap (IntKind.i64.wrap (IntKind.i64.wrap (b_y - ay) * ax) + IntKind.i64.wrap (IntKind.i64.wrap (ax - bx) * ay)))).natAbs = (0 : Int)) (.need (¬gI (gI (IntKind.i64.wrap ((0 : Int) - IntKind.i64.wrap (b_y - ay))) ↑(IntKind.i64.wrap ((0 : Int) - IntKind.i64.wrap (ax - bx))).natAbs) ↑(IntKind.i64.wrap ((0 : Int) - IntKind.i64.wrap (IntKind.i64.wrap (IntKind.i64.wrap (b_y - ay) * ax) + IntKind.i64.wrap (IntKind.i64.wrap (ax - bx) * ay)))).natAbs = (0 : Int)) (.need (¬gI (gI (IntKind.i64.wrap ((0 : Int) - IntKind.i64.wrap (b_y - ay))) ↑(IntKind.i64.wrap ((0 : Int) - IntKind.i64.wrap (ax - bx))).natAbs) ↑(IntKind.i64.wrap ((0 : Int) - IntKind.i64.wrap (IntKind.i64.wrap (IntKind.i64.wrap (b_y - ay) * ax) + IntKind.i64.wrap (IntKind.i64.wrap (ax - bx) * ay)))).natAbs = (0 : Int)) (.fin (.tuple #[.agg #[.int .i64 (IntKind.i64.wrap ((IntKind.i64.wrap (0 - IntKind.i64.wrap (b_y - ay))).tdiv (gI (gI (IntKind.i64.wrap (0 - IntKind.i64.wrap (b_y - ay))) ↑(IntKind.i64.wrap (0 - IntKind.i64.wrap (ax - bx))).natAbs) ↑(IntKind.i64.wrap (0 - IntKind.i64.wrap (IntKind.i64.wrap (IntKind.i64.wrap (b_y - ay) * ax) + IntKind.i64.wrap (IntKind.i64.wrap (ax - bx) * ay)))).natAbs))), .int .i64 (IntKind.i64.wrap ((IntKind.i64.wrap (0 - IntKind.i64.wrap (ax - bx))).tdiv (gI (gI (IntKind.i64.wrap (0 - IntKind.i64.wrap (b_y - ay))) ↑(IntKind.i64.wrap (0 - IntKind.i64.wrap (ax - bx))).natAbs) ↑(IntKind.i64.wrap (0 - IntKind.i64.wrap (IntKind.i64.wrap (IntKind.i64.wrap (b_y - ay) * ax) + IntKind.i64.wrap (IntKind.i64.wrap (ax - bx) * ay)))).natAbs))), .int .i64 (IntKind.i64.wrap ((IntKind.i64.wrap (0 - IntKind.i64.wrap (IntKind.i64.wrap (IntKind.i64.wrap (b_y - ay) * ax) + IntKind.i64.wrap (IntKind.i64.wrap (ax - bx) * ay)))).tdiv (gI (gI (IntKind.i64.wrap (0 - IntKind.i64.wrap (b_y - ay))) ↑(IntKind.i64.wrap (0 - IntKind.i64.wrap (ax - bx))).natAbs) ↑(IntKind.i64.wrap (0 - IntKind.i64.wrap (IntKind.i64.wrap (IntKind.i64.wrap (b_y - ay) * ax) + IntKind.i64.wrap (IntKind.i64.wrap (ax - bx) * ay)))).natAbs)))], .bool (true)]) [])))))))))) (brT (IntKind.i64.wrap (b_y - ay) == 0) (brT (decide (IntKind.i64.wrap (ax - bx) < 0)) (.need (big (IntKind.i64.wrap ((0 : Int) - IntKind.i64.wrap (ax - bx)))) (.need (big0 (IntKind.i64.wrap ((0 : Int) - IntKind.i64.wrap (b_y - ay)))) (.need (big0 ↑(IntKind.i64.wrap ((0 : Int) - IntKind.i64.wrap (ax - bx))).natAbs) (.need (big (IntKind.i64.wrap ((0 : Int) - IntKind.i64.wrap (IntKind.i64.wrap (IntKind.i64.wrap (b_y - ay) * ax) + IntKind.i64.wrap (IntKind.i64.wrap (ax - bx) * ay))))) (.need (big0 (gI (IntKind.i64.wrap ((0 : Int) - IntKind.i64.wrap (b_y - ay))) ↑(IntKind.i64.wrap ((0 : Int) - IntKind.i64.wrap (ax - bx))).natAbs)) (.need (big0 ↑(IntKind.i64.wrap ((0 : Int) - IntKind.i64.wrap (IntKind.i64.wrap (IntKind.i64.wrap (b_y - ay) * ax) + IntKind.i64.wrap (IntKind.i64.wrap (ax - bx) * ay)))).natAbs) (.need (¬gI (gI (IntKind.i64.wrap ((0 : Int) - IntKind.i64.wrap (b_y - ay))) ↑(IntKind.i64.wrap ((0 : Int) - IntKind.i64.wrap (ax - bx))).natAbs) ↑(IntKind.i64.wrap ((0 : Int) - IntKind.i64.wrap (IntKind.i64.wrap (IntKind.i64.wrap (b_y - ay) * ax) + IntKind.i64.wrap (IntKind.i64.wrap (ax - bx) * ay)))).natAbs = (0 : Int)) (.need (¬gI (gI (IntKind.i64.wrap ((0 : Int) - IntKind.i64.wrap (b_y - ay))) ↑(IntKind.i64.wrap ((0 : Int) - IntKind.i64.wrap (ax - bx))).natAbs) ↑(IntKind.i64.wrap ((0 : Int) - IntKind.i64.wrap (IntKind.i64.wrap (IntKind.i64.wrap (b_y - ay) * ax) + IntKind.i64.wrap (IntKind.i64.wrap (ax - bx) * ay)))).natAbs = (0 : Int)) (.need (¬gI (gI (IntKind.i64.wrap ((0 : Int) - IntKind.i64.wrap (b_y - ay))) ↑(IntKind.i64.wrap ((0 : Int) - IntKind.i64.wrap (ax - bx))).natAbs) ↑(IntKind.i64.wrap ((0 : Int) - IntKind.i64.wrap (IntKind.i64.wrap (IntKind.i64.wrap (b_y - ay) * ax) + IntKind.i64.wrap (IntKind.i64.wrap (ax - bx) * ay)))).natAbs = (0 : Int)) (.fin (.tuple #[.agg #[.int .i64 (IntKind.i64.wrap ((IntKind.i64.wrap (0 - IntKind.i64.wrap (b_y - ay))).tdiv (gI (gI (IntKind.i64.wrap (0 - IntKind.i64.wrap (b_y - ay))) ↑(IntKind.i64.wrap (0 - IntKind.i64.wrap (ax - bx))).natAbs) ↑(IntKind.i64.wrap (0 - IntKind.i64.wrap (IntKind.i64.wrap (IntKind.i64.wrap (b_y - ay) * ax) + IntKind.i64.wrap (IntKind.i64.wrap (ax - bx) * ay)))).natAbs))), .int .i64 (IntKind.i64.wrap ((IntKind.i64.wrap (0 - IntKind.i64.wrap (ax - bx))).tdiv (gI (gI (IntKind.i64.wrap (0 - IntKind.i64.wrap (b_y - ay))) ↑(IntKind.i64.wrap (0 - IntKind.i64.wrap (ax - bx))).natAbs) ↑(IntKind.i64.wrap (0 - IntKind.i64.wrap (IntKind.i64.wrap (IntKind.i64.wrap (b_y - ay) * ax) + IntKind.i64.wrap (IntKind.i64.wrap (ax - bx) * ay)))).natAbs))), .int .i64 (IntKind.i64.wrap ((IntKind.i64.wrap (0 - IntKind.i64.wrap (IntKind.i64.wrap (IntKind.i64.wrap (b_y - ay) * ax) + IntKind.i64.wrap (IntKind.i64.wrap (ax - bx) * ay)))).tdiv (gI (gI (IntKind.i64.wrap (0 - IntKind.i64.wrap (b_y - ay))) ↑(IntKind.i64.wrap (0 - IntKind.i64.wrap (ax - bx))).natAbs) ↑(IntKind.i64.wrap (0 - IntKind.i64.wrap (IntKind.i64.wrap (IntKind.i64.wrap (b_y - ay) * ax) + IntKind.i64.wrap (IntKind.i64.wrap (ax - bx) * ay)))).natAbs)))], .bool (true)]) [])))))))))) (.need (big (IntKind.i64.wrap (ax - bx))) (.need (big0 (IntKind.i64.wrap (b_y - ay))) (.need (big0 ↑(IntKind.i64.wrap (ax - bx)).natAbs) (.need (big (IntKind.i64.wrap (IntKind.i64.wrap (IntKind.i64.wrap (b_y - ay) * ax) + IntKind.i64.wrap (IntKind.i64.wrap (ax - bx) * ay)))) (.need (big0 (gI (IntKind.i64.wrap (b_y - ay)) ↑(IntKind.i64.wrap (ax - bx)).natAbs)) (.need (big0 ↑(IntKind.i64.wrap (IntKind.i64.wrap (IntKind.i64.wrap (b_y - ay) * ax) + IntKind.i64.wrap (IntKind.i64.wrap (ax - bx) * ay))).natAbs) (.need (¬gI (gI (IntKind.i64.wrap (b_y - ay)) ↑(IntKind.i64.wrap (ax - bx)).natAbs) ↑(IntKind.i64.wrap (IntKind.i64.wrap (IntKind.i64.wrap (b_y - ay) * ax) + IntKind.i64.wrap (IntKind.i64.wrap (ax - bx) * ay))).natAbs = (0 : Int)) (.need (¬gI (gI (IntKind.i64.wrap (b_y - ay)) ↑(IntKind.i64.wrap (ax - bx)).natAbs) ↑(IntKind.i64.wrap (IntKind.i64.wrap (IntKind.i64.wrap (b_y - ay) * ax) + IntKind.i64.wrap (IntKind.i64.wrap (ax - bx) * ay))).natAbs = (0 : Int)) (.need (¬gI (gI (IntKind.i64.wrap (b_y - ay)) ↑(IntKind.i64.wrap (ax - bx)).natAbs) ↑(IntKind.i64.wrap (IntKind.i64.wrap (IntKind.i64.wrap (b_y - ay) * ax) + IntKind.i64.wrap (IntKind.i64.wrap (ax - bx) * ay))).natAbs = (0 : Int)) (.fin (.tuple #[.agg #[.int .i64 (IntKind.i64.wrap ((IntKind.i64.wrap (b_y - ay)).tdiv (gI (gI (IntKind.i64.wrap (b_y - ay)) ↑(IntKind.i64.wrap (ax - bx)).natAbs) ↑(IntKind.i64.wrap (IntKind.i64.wrap (IntKind.i64.wrap (b_y - ay) * ax) + IntKind.i64.wrap (IntKind.i64.wrap (ax - bx) * ay))).natAbs))), .int .i64 (IntKind.i64.wrap ((IntKind.i64.wrap (ax - bx)).tdiv (gI (gI (IntKind.i64.wrap (b_y - ay)) ↑(IntKind.i64.wrap (ax - bx)).natAbs) ↑(IntKind.i64.wrap (IntKind.i64.wrap (IntKind.i64.wrap (b_y - ay) * ax) + IntKind.i64.wrap (IntKind.i64.wrap (ax - bx) * ay))).natAbs))), .int .i64 (IntKind.i64.wrap ((IntKind.i64.wrap (IntKind.i64.wrap (IntKind.i64.wrap (b_y - ay) * ax) + IntKind.i64.wrap (IntKind.i64.wrap (ax - bx) * ay))).tdiv (gI (gI (IntKind.i64.wrap (b_y - ay)) ↑(IntKind.i64.wrap (ax - bx)).natAbs) ↑(IntKind.i64.wrap (IntKind.i64.wrap (IntKind.i64.wrap (b_y - ay) * ax) + IntKind.i64.wrap (IntKind.i64.wrap (ax - bx) * ay))).natAbs)))], .bool (true)]) []))))))))))) (.need (big (IntKind.i64.wrap (ax - bx))) (.need (big0 (IntKind.i64.wrap (b_y - ay))) (.need (big0 ↑(IntKind.i64.wrap (ax - bx)).natAbs) (.need (big (IntKind.i64.wrap (IntKind.i64.wrap (IntKind.i64.wrap (b_y - ay) * ax) + IntKind.i64.wrap (IntKind.i64.wrap (ax - bx) * ay)))) (.need (big0 (gI (IntKind.i64.wrap (b_y - ay)) ↑(IntKind.i64.wrap (ax - bx)).natAbs)) (.need (big0 ↑(IntKind.i64.wrap (IntKind.i64.wrap (IntKind.i64.wrap (b_y - ay) * ax) + IntKind.i64.wrap (IntKind.i64.wrap (ax - bx) * ay))).natAbs) (.need (¬gI (gI (IntKind.i64.wrap (b_y - ay)) ↑(IntKind.i64.wrap (ax - bx)).natAbs) ↑(IntKind.i64.wrap (IntKind.i64.wrap (IntKind.i64.wrap (b_y - ay) * ax) + IntKind.i64.wrap (IntKind.i64.wrap (ax - bx) * ay))).natAbs = (0 : Int)) (.need (¬gI (gI (IntKind.i64.wrap (b_y - ay)) ↑(IntKind.i64.wrap (ax - bx)).natAbs) ↑(IntKind.i64.wrap (IntKind.i64.wrap (IntKind.i64.wrap (b_y - ay) * ax) + IntKind.i64.wrap (IntKind.i64.wrap (ax - bx) * ay))).natAbs = (0 : Int)) (.need (¬gI (gI (IntKind.i64.wrap (b_y - ay)) ↑(IntKind.i64.wrap (ax - bx)).natAbs) ↑(IntKind.i64.wrap (IntKind.i64.wrap (IntKind.i64.wrap (b_y - ay) * ax) + IntKind.i64.wrap (IntKind.i64.wrap (ax - bx) * ay))).natAbs = (0 : Int)) (.fin (.tuple #[.agg #[.int .i64 (IntKind.i64.wrap ((IntKind.i64.wrap (b_y - ay)).tdiv (gI (gI (IntKind.i64.wrap (b_y - ay)) ↑(IntKind.i64.wrap (ax - bx)).natAbs) ↑(IntKind.i64.wrap (IntKind.i64.wrap (IntKind.i64.wrap (b_y - ay) * ax) + IntKind.i64.wrap (IntKind.i64.wrap (ax - bx) * ay))).natAbs))), .int .i64 (IntKind.i64.wrap ((IntKind.i64.wrap (ax - bx)).tdiv (gI (gI (IntKind.i64.wrap (b_y - ay)) ↑(IntKind.i64.wrap (ax - bx)).natAbs) ↑(IntKind.i64.wrap (IntKind.i64.wrap (IntKind.i64.wrap (b_y - ay) * ax) + IntKind.i64.wrap (IntKind.i64.wrap (ax - bx) * ay))).natAbs))), .int .i64 (IntKind.i64.wrap ((IntKind.i64.wrap (IntKind.i64.wrap (IntKind.i64.wrap (b_y - ay) * ax) + IntKind.i64.wrap (IntKind.i64.wrap (ax - bx) * ay))).tdiv (gI (gI (IntKind.i64.wrap (b_y - ay)) ↑(IntKind.i64.wrap (ax - bx)).natAbs) ↑(IntKind.i64.wrap (IntKind.i64.wrap (IntKind.i64.wrap (b_y - ay) * ax) + IntKind.i64.wrap (IntKind.i64.wrap (ax - bx) * ay))).natAbs)))], .bool (true)]) [])))))))))))))) := by kernel_rfl
set_option maxRecDepth 100000 in
theorem tr_implThrough (ax ay bx b_y : Int) : runX Try.prog T3 30 12 24 [.v (.agg #[iv ax, iv ay]), .v (.agg #[iv bx, iv b_y])] (fun u => .fin u []) = brT (!(ptB ax ay && ptB bx b_y)) (.fin (.tuple #[.agg #[.int .i64 (0), .int .i64 (0), .int .i64 (0)], .bool (false)]) []) (brT (negB false (ax == bx && (ay == b_y && true))) (.fin (.tuple #[.agg #[.int .i64 (0), .int .i64 (0), .int .i64 (0)], .bool (false)]) []) (.need ((0 : Int) ≤ (0 : Int) ∧ (0 : Int) < ↑(2 : Nat)) (brT (!cmpI (IntKind.i64.wrap (b_y - ay)) 0 == 0) (brT (decide (cmpI (IntKind.i64.wrap (b_y - ay)) 0 < 0)) (.need (big (IntKind.i64.wrap ((0 : Int) - IntKind.i64.wrap (b_y - ay)))) (.need (big (IntKind.i64.wrap ((0 : Int) - IntKind.i64.wrap (ax - bx)))) (.need (¬gI (IntKind.i64.wrap ((0 : Int) - IntKind.i64.wrap (b_y - ay))) (IntKind.i64.wrap ((0 : Int) - IntKind.i64.wrap (ax - bx))) = (0 : Int)) (.need (¬gI (IntKind.i64.wrap ((0 : Int) - IntKind.i64.wrap (b_y - ay))) (IntKind.i64.wrap ((0 : Int) - IntKind.i64.wrap (ax - bx))) = (0 : Int)) (.fin (.tuple #[.agg #[.int .i64 (IntKind.i64.wrap ((IntKind.i64.wrap (0 - IntKind.i64.wrap (b_y - ay))).tdiv (gI (IntKind.i64.wrap (0 - IntKind.i64.wrap (b_y - ay))) (IntKind.i64.wrap (0 - IntKind.i64.wrap (ax - bx)))))), .int .i64 (IntKind.i64.wrap ((IntKind.i64.wrap (0 - IntKind.i64.wrap (ax - bx))).tdiv (gI (IntKind.i64.wrap (0 - IntKind.i64.wrap (b_y - ay))) (IntKind.i64.wrap (0 - IntKind.i64.wrap (ax - bx)))))), .int .i64 (IntKind.i64.wrap (IntKind.i64.wrap (IntKind.i64.wrap ((IntKind.i64.wrap (0 - IntKind.i64.wrap (b_y - ay))).tdiv (gI (IntKind.i64.wrap (0 - IntKind.i64.wrap (b_y - ay))) (IntKind.i64.wrap (0 - IntKind.i64.wrap (ax - bx))))) * ax) + IntKind.i64.wrap (IntKind.i64.wrap ((IntKind.i64.wrap (0 - IntKind.i64.wrap (ax - bx))).tdiv (gI (IntKind.i64.wrap (0 - IntKind.i64.wrap (b_y - ay))) (IntKind.i64.wrap (0 - IntKind.i64.wrap (ax - bx))))) * ay)))], .bool (true)]) []))))) (.need (big (IntKind.i64.wrap (b_y - ay))) (.need (big (IntKind.i64.wrap (ax - bx))) (.need (¬gI (IntKind.i64.wrap (b_y - ay)) (IntKind.i64.wrap (ax - bx)) = (0 : Int)) (.need (¬gI (IntKind.i64.wrap (b_y - ay)) (IntKind.i64.wrap (ax - bx)) = (0 : Int)) (.fin (.tuple #[.agg #[.int .i64 (IntKind.i64.wrap ((IntKind.i64.wrap (b_y - ay)).tdiv (gI (IntKind.i64.wrap (b_y - ay)) (IntKind.i64.wrap (ax - bx))))), .int .i64 (IntKind.i64.wrap ((IntKind.i64.wrap (ax - bx)).tdiv (gI (IntKind.i64.wrap (b_y - ay)) (IntKind.i64.wrap (ax - bx))))), .int .i64 (IntKind.i64.wrap (IntKind.i64.wrap (IntKind.i64.wrap ((IntKind.i64.wrap (b_y - ay)).tdiv (gI (IntKind.i64.wrap (b_y - ay)) (IntKind.i64.wrap (ax - bx)))) * ax) + IntKind.i64.wrap (IntKind.i64.wrap ((IntKind.i64.wrap (ax - bx)).tdiv (gI (IntKind.i64.wrap (b_y - ay)) (IntKind.i64.wrap (ax - bx)))) * ay)))], .bool (true)]) [])))))) (.need ((0 : Int) ≤ IntKind.i64.wrap ((0 : Int) + (1 : Int)) ∧ IntKind.i64.wrap ((0 : Int) + (1 : Int)) < ↑(2 : Nat)) (brT (!cmpI (IntKind.i64.wrap (ax - bx)) 0 == 0) (brT (decide (cmpI (IntKind.i64.wrap (ax - bx)) 0 < 0)) (.need (big (IntKind.i64.wrap ((0 : Int) - IntKind.i64.wrap (b_y - ay)))) (.need (big (IntKind.i64.wrap ((0 : Int) - IntKind.i64.wrap (ax - bx)))) (.need (¬gI (IntKind.i64.wrap ((0 : Int) - IntKind.i64.wrap (b_y - ay))) (IntKind.i64.wrap ((0 : Int) - IntKind.i64.wrap (ax - bx))) = (0 : Int)) (.need (¬gI (IntKind.i64.wrap ((0 : Int) - IntKind.i64.wrap (b_y - ay))) (IntKind.i64.wrap ((0 : Int) - IntKind.i64.wrap (ax - bx))) = (0 : Int)) (.fin (.tuple #[.agg #[.int .i64 (IntKind.i64.wrap ((IntKind.i64.wrap (0 - IntKind.i64.wrap (b_y - ay))).tdiv (gI (IntKind.i64.wrap (0 - IntKind.i64.wrap (b_y - ay))) (IntKind.i64.wrap (0 - IntKind.i64.wrap (ax - bx)))))), .int .i64 (IntKind.i64.wrap ((IntKind.i64.wrap (0 - IntKind.i64.wrap (ax - bx))).tdiv (gI (IntKind.i64.wrap (0 - IntKind.i64.wrap (b_y - ay))) (IntKind.i64.wrap (0 - IntKind.i64.wrap (ax - bx)))))), .int .i64 (IntKind.i64.wrap (IntKind.i64.wrap (IntKind.i64.wrap ((IntKind.i64.wrap (0 - IntKind.i64.wrap (b_y - ay))).tdiv (gI (IntKind.i64.wrap (0 - IntKind.i64.wrap (b_y - ay))) (IntKind.i64.wrap (0 - IntKind.i64.wrap (ax - bx))))) * ax) + IntKind.i64.wrap (IntKind.i64.wrap ((IntKind.i64.wrap (0 - IntKind.i64.wrap (ax - bx))).tdiv (gI (IntKind.i64.wrap (0 - IntKind.i64.wrap (b_y - ay))) (IntKind.i64.wrap (0 - IntKind.i64.wrap (ax - bx))))) * ay)))], .bool (true)]) []))))) (.need (big (IntKind.i64.wrap (b_y - ay))) (.need (big (IntKind.i64.wrap (ax - bx))) (.need (¬gI (IntKind.i64.wrap (b_y - ay)) (IntKind.i64.wrap (ax - bx)) = (0 : Int)) (.need (¬gI (IntKind.i64.wrap (b_y - ay)) (IntKind.i64.wrap (ax - bx)) = (0 : Int)) (.fin (.tuple #[.agg #[.int .i64 (IntKind.i64.wrap ((IntKind.i64.wrap (b_y - ay)).tdiv (gI (IntKind.i64.wrap (b_y - ay)) (IntKind.i64.wrap (ax - bx))))), .int .i64 (IntKind.i64.wrap ((IntKind.i64.wrap (ax - bx)).tdiv (gI (IntKind.i64.wrap (b_y - ay)) (IntKind.i64.wrap (ax - bx))))), .int .i64 (IntKind.i64.wrap (IntKind.i64.wrap (IntKind.i64.wrap ((IntKind.i64.wrap (b_y - ay)).tdiv (gI (IntKind.i64.wrap (b_y - ay)) (IntKind.i64.wrap (ax - bx)))) * ax) + IntKind.i64.wrap (IntKind.i64.wrap ((IntKind.i64.wrap (ax - bx)).tdiv (gI (IntKind.i64.wrap (b_y - ay)) (IntKind.i64.wrap (ax - bx)))) * ay)))], .bool (true)]) [])))))) (.need (big (IntKind.i64.wrap (b_y - ay))) (.need (big (IntKind.i64.wrap (ax - bx))) (.need (¬gI (IntKind.i64.wrap (b_y - ay)) (IntKind.i64.wrap (ax - bx)) = (0 : Int)) (.need (¬gI (IntKind.i64.wrap (b_y - ay)) (IntKind.i64.wrap (ax - bx)) = (0 : Int)) (.fin (.tuple #[.agg #[.int .i64 (IntKind.i64.wrap ((IntKind.i64.wrap (b_y - ay)).tdiv (gI (IntKind.i64.wrap (b_y - ay)) (IntKind.i64.wrap (ax - bx))))), .int .i64 (IntKind.i64.wrap ((IntKind.i64.wrap (ax - bx)).tdiv (gI (IntKind.i64.wrap (b_y - ay)) (IntKind.i64.wrap (ax - bx))))), .int .i64 (IntKind.i64.wrap (IntKind.i64.wrap (IntKind.i64.wrap ((IntKind.i64.wrap (b_y - ay)).tdiv (gI (IntKind.i64.wrap (b_y - ay)) (IntKind.i64.wrap (ax - bx)))) * ax) + IntKind.i64.wrap (IntKind.i64.wrap ((IntKind.i64.wrap (ax - bx)).tdiv (gI (IntKind.i64.wrap (b_y - ay)) (IntKind.i64.wrap (ax - bx)))) * ay)))], .bool (true)]) [])))))))))) := by kernel_rfl
theorem gI_comm' (a b : Int) : gI a b = gI b a := by unfold gI; rw [Int.gcd_comm]
theorem gI_absR (a b : Int) : gI a (b.natAbs : Int) = gI a b := by rw [gI_comm', gI_abs, gI_comm']
theorem w2000 : IntKind.i64.wrap (0 - 2000) = -2000 := by decide
theorem w4000 : IntKind.i64.wrap (0 - 4000000) = -4000000 := by decide
/-- A line is valid. -/
def lineB (a b c : Int) : Bool := decide (0 ≤ a ∧ a ≤ 2000 ∧ -2000 ≤ b ∧ b ≤ 2000 ∧ -4000000 ≤ c ∧ c ≤ 4000000 ∧ (0 < a ∨ 0 < b)) && (gI (gI a b) c == 1)
theorem lineB_true {a b c : Int} (h : lineB a b c = true) : 0 ≤ a ∧ a ≤ 2000 ∧ -2000 ≤ b ∧ b ≤ 2000 ∧ -4000000 ≤ c ∧ c ≤ 4000000 ∧ (0 < a ∨ 0 < b) := by
  unfold lineB at h
  rw [Bool.and_eq_true] at h
  exact of_decide_eq_true h.1
theorem lineB_no {a b c : Int} (h : ¬ (0 ≤ a ∧ a ≤ 2000 ∧ -2000 ≤ b ∧ b ≤ 2000 ∧ -4000000 ≤ c ∧ c ≤ 4000000 ∧ (0 < a ∨ 0 < b))) : lineB a b c = false := by
  unfold lineB
  rw [decide_eq_false h]
  rfl
theorem lineB_mk {a b c : Int} (h : 0 ≤ a ∧ a ≤ 2000 ∧ -2000 ≤ b ∧ b ≤ 2000 ∧ -4000000 ≤ c ∧ c ≤ 4000000 ∧ (0 < a ∨ 0 < b)) : lineB a b c = (gI (gI a b) c == 1) := by
  unfold lineB
  rw [decide_eq_true h]
  rfl
theorem res_specLine (a b c : Int) : Res Try.prog 61 [.v (.agg #[iv a, iv b, iv c])] (.bool (lineB a b c)) := by
  refine res_of mixed T3_ok (m := 30) (n := 12) ?_
  rw [tr_specLine]
  by_cases h : 0 ≤ a ∧ a ≤ 2000 ∧ -2000 ≤ b ∧ b ≤ 2000 ∧ -4000000 ≤ c ∧ c ≤ 4000000 ∧ (0 < a ∨ 0 < b)
  · rw [lineB_mk h, gI_absR, gI_absR]
    obtain ⟨h1, h2, h3, h4, h5, h6, h7⟩ := h
    have hg := gI_bd (a := a) (b := b) (M := 2000) (by omega) (by omega)
    simp only [brT_ok, Tree.ok, decide_eq_true_eq, decide_eq_false_iff_not, big, big0, Bool.not_eq_true', Bool.not_eq_false']
    repeat' (first | apply And.intro | intro _)
    all_goals first | exact True.intro | omega | rfl
  · rw [lineB_no h]
    simp only [brT_ok, Tree.ok, decide_eq_true_eq, decide_eq_false_iff_not, big, big0, Bool.not_eq_true', Bool.not_eq_false']
    repeat' (first | apply And.intro | intro _)
    all_goals first | exact True.intro | omega | rfl
theorem res_implLine (a b c : Int) : Res Try.prog 64 [.v (.agg #[iv a, iv b, iv c])] (.bool (lineB a b c)) := by
  refine res_of mixed T3_ok (m := 30) (n := 12) ?_
  rw [tr_implLine]
  by_cases h : 0 ≤ a ∧ a ≤ 2000 ∧ -2000 ≤ b ∧ b ≤ 2000 ∧ -4000000 ≤ c ∧ c ≤ 4000000 ∧ (0 < a ∨ 0 < b)
  · rw [lineB_mk h]
    obtain ⟨h1, h2, h3, h4, h5, h6, h7⟩ := h
    simp only [brT_ok, Tree.ok, decide_eq_true_eq, decide_eq_false_iff_not, big, Bool.not_eq_true', Bool.not_eq_false', beq_iff_eq, beq_eq_false_iff_ne, w2000, w4000]
    repeat' (first | apply And.intro | intro _)
    all_goals first | exact True.intro | omega | rfl
  · rw [lineB_no h]
    simp only [brT_ok, Tree.ok, decide_eq_true_eq, decide_eq_false_iff_not, big, Bool.not_eq_true', Bool.not_eq_false', beq_iff_eq, beq_eq_false_iff_ne, w2000, w4000]
    repeat' (first | apply And.intro | intro _)
    all_goals first | exact True.intro | omega | rfl
/-- The line through two points. -/
abbrev thNeg (ax ay bx b_y : Int) : Prop := b_y - ay < 0 ∨ b_y - ay = 0 ∧ ax - bx < 0

def lnV (a b x y : Int) : Value := .agg #[iv (a.tdiv (gI a b)), iv (b.tdiv (gI a b)), iv (a.tdiv (gI a b) * x + b.tdiv (gI a b) * y)]
def thV (ax ay bx b_y : Int) : Value := if ptB ax ay && ptB bx b_y && !(eqB ax ay bx b_y) then
  .tuple #[if thNeg ax ay bx b_y then lnV (0 - (b_y - ay)) (0 - (ax - bx)) ax ay else lnV (b_y - ay) (ax - bx) ax ay, .bool true]
  else .tuple #[.agg #[iv 0, iv 0, iv 0], .bool false]
theorem line_div {a b x y : Int} (h : gI a b ≠ 0) : (a * x + b * y).tdiv (gI a b) = a.tdiv (gI a b) * x + b.tdiv (gI a b) * y := by
  obtain ⟨p, hp⟩ := gI_dvd_left a b
  obtain ⟨q, hq⟩ := gI_dvd_right a b
  generalize gI a b = g at *
  subst hp hq
  rw [show g * p * x + g * q * y = g * (p * x + q * y) by grind, Int.mul_tdiv_cancel_left _ h, Int.mul_tdiv_cancel_left _ h, Int.mul_tdiv_cancel_left _ h]
theorem line_gcd (a b x y : Int) : gI (gI a b) (a * x + b * y) = gI a b := by
  have h1 : gI a b ∣ a * x + b * y := Int.dvd_add (Int.dvd_trans (gI_dvd_left a b) (Int.dvd_mul_right _ _)) (Int.dvd_trans (gI_dvd_right a b) (Int.dvd_mul_right _ _))
  have h2 := gI_nonneg a b
  generalize gI a b = g at *
  unfold gI
  obtain ⟨k, hk⟩ := h1
  rw [hk, Int.gcd_mul_right_right]
  omega
theorem gI_ne {a b : Int} (h : a ≠ 0 ∨ b ≠ 0) : gI a b ≠ 0 := by
  rcases h with h | h
  · rw [gI_comm']
    have := gI_pos b a h
    omega
  · have := gI_pos a b h
    omega
theorem thru_bd {ax ay bx b_y : Int} (h1 : ptB ax ay = true) (h2 : ptB bx b_y = true) (h3 : eqB ax ay bx b_y = false) : (-2000 ≤ b_y - ay ∧ b_y - ay ≤ 2000) ∧ (-2000 ≤ ax - bx ∧ ax - bx ≤ 2000) ∧ (-1000 ≤ ax ∧ ax ≤ 1000) ∧ (-1000 ≤ ay ∧ ay ≤ 1000) ∧ (b_y - ay ≠ 0 ∨ ax - bx ≠ 0) := by
  have e1 := ptB_true h1
  have e2 := ptB_true h2
  unfold eqB at h3
  simp at h3
  omega
/-- What a line's three numbers come to, by the program's way and by the model's. -/
structure LineBd (a b x y : Int) : Prop where
  g : 0 ≤ gI a b ∧ gI a b ≤ 2000 ∧ gI a b ≠ 0
  p : -2000 ≤ a.tdiv (gI a b) ∧ a.tdiv (gI a b) ≤ 2000
  q : -2000 ≤ b.tdiv (gI a b) ∧ b.tdiv (gI a b) ≤ 2000
  px : -(2000 * 1000) ≤ a.tdiv (gI a b) * x ∧ a.tdiv (gI a b) * x ≤ 2000 * 1000
  qy : -(2000 * 1000) ≤ b.tdiv (gI a b) * y ∧ b.tdiv (gI a b) * y ≤ 2000 * 1000
theorem line_bd {a b x y : Int} (ha : -2000 ≤ a ∧ a ≤ 2000) (hb : -2000 ≤ b ∧ b ≤ 2000) (hx : -1000 ≤ x ∧ x ≤ 1000) (hy : -1000 ≤ y ∧ y ≤ 1000) (h : a ≠ 0 ∨ b ≠ 0) : LineBd a b x y := by
  have hg := gI_bd ha hb
  have hp := tdiv_bd (b := gI a b) ha
  have hq := tdiv_bd (b := gI a b) hb
  exact ⟨⟨by omega, by omega, gI_ne h⟩, hp, hq, mul_bd 2000 1000 hp hx, mul_bd 2000 1000 hq hy⟩
theorem cmpI_lt0 (x : Int) : cmpI x 0 < 0 ↔ x < 0 := by unfold cmpI; split <;> (try split) <;> omega
theorem cmpI_eq0 (x : Int) : cmpI x 0 = 0 ↔ x = 0 := by unfold cmpI; split <;> (try split) <;> omega
theorem res_implThrough (ax ay bx b_y : Int) : Res Try.prog 24 [.v (.agg #[iv ax, iv ay]), .v (.agg #[iv bx, iv b_y])] (thV ax ay bx b_y) := by
  refine res_of mixed T3_ok (m := 30) (n := 12) ?_
  rw [tr_implThrough]
  unfold thV
  rcases h1 : ptB ax ay with _ | _
  · simp [brT, Tree.ok]
  rcases h2 : ptB bx b_y with _ | _
  · simp [brT, Tree.ok]
  rcases h3 : eqB ax ay bx b_y with _ | _
  rotate_left
  · unfold eqB at h3
    simp at h3
    obtain ⟨rfl, rfl⟩ := h3
    simp [brT, Tree.ok, negB]
  have hb := thru_bd h1 h2 h3
  obtain ⟨b1, b2, b3, b4, b5⟩ := hb
  have L1 := line_bd (a := b_y - ay) (b := ax - bx) (x := ax) (y := ay) b1 b2 b3 b4 b5
  have L2 := line_bd (a := 0 - (b_y - ay)) (b := 0 - (ax - bx)) (x := ax) (y := ay) (by omega) (by omega) b3 b4 (by omega)
  obtain ⟨g1, p1, q1, px1, qy1⟩ := L1
  obtain ⟨g2, p2, q2, px2, qy2⟩ := L2
  have e3 : negB false (ax == bx && (ay == b_y && true)) = false := by
    unfold eqB at h3
    simpa [negB] using h3
  rw [e3]
  simp (disch := omega) only [wr]
  simp only [Bool.and_self, Bool.not_true, Bool.not_false, brT_f, if_true]
  simp only [brT_ok, Tree.ok, decide_eq_true_eq, decide_eq_false_iff_not, big, Bool.not_eq_true', Bool.not_eq_false', beq_iff_eq, beq_eq_false_iff_ne, cmpI_lt0, cmpI_eq0, ne_eq]
  by_cases hneg : thNeg ax ay bx b_y
  · rw [if_pos hneg]
    unfold thNeg at hneg
    repeat' (first | apply And.intro | intro _)
    all_goals first | exact True.intro | omega | rfl
  · rw [if_neg hneg]
    unfold thNeg at hneg
    repeat' (first | apply And.intro | intro _)
    all_goals first | exact True.intro | omega | rfl
theorem res_specThrough (ax ay bx b_y : Int) : Res Try.prog 23 [.v (.agg #[iv ax, iv ay]), .v (.agg #[iv bx, iv b_y])] (thV ax ay bx b_y) := by
  refine res_of mixed T3_ok (m := 30) (n := 12) ?_
  rw [tr_specThrough]
  unfold thV
  rcases h1 : ptB ax ay with _ | _
  · simp [brT, Tree.ok]
  rcases h2 : ptB bx b_y with _ | _
  · simp [brT, Tree.ok]
  rcases h3 : eqB ax ay bx b_y with _ | _
  rotate_left
  · unfold eqB at h3
    simp at h3
    obtain ⟨rfl, rfl⟩ := h3
    simp [brT, Tree.ok, negB]
  have hb := thru_bd h1 h2 h3
  obtain ⟨b1, b2, b3, b4, b5⟩ := hb
  have L1 := line_bd (a := b_y - ay) (b := ax - bx) (x := ax) (y := ay) b1 b2 b3 b4 b5
  have L2 := line_bd (a := 0 - (b_y - ay)) (b := 0 - (ax - bx)) (x := ax) (y := ay) (by omega) (by omega) b3 b4 (by omega)
  have d1 := line_div (x := ax) (y := ay) L1.g.2.2
  have d2 := line_div (x := ax) (y := ay) L2.g.2.2
  have c1 := line_gcd (b_y - ay) (ax - bx) ax ay
  have c2 := line_gcd (0 - (b_y - ay)) (0 - (ax - bx)) ax ay
  have r2 : (0 - (b_y - ay)) * ax + (0 - (ax - bx)) * ay = 0 - ((b_y - ay) * ax + (ax - bx) * ay) := by grind
  rw [r2] at c2 d2
  obtain ⟨g1, p1, q1, px1, qy1⟩ := L1
  obtain ⟨g2, p2, q2, px2, qy2⟩ := L2
  have m1 := mul_bd (x := b_y - ay) (y := ax) 2000 1000 b1 b3
  have m2 := mul_bd (x := ax - bx) (y := ay) 2000 1000 b2 b4
  have e3 : negB false (ax == bx && (ay == b_y && true)) = false := by
    unfold eqB at h3
    simpa [negB] using h3
  rw [e3]
  simp (disch := omega) only [wr, gI_absR, c1, c2, d1, d2]
  simp only [Bool.and_self, Bool.not_true, Bool.not_false, brT_f, if_true]
  simp only [brT_ok, Tree.ok, decide_eq_true_eq, decide_eq_false_iff_not, big, big0, beq_iff_eq, beq_eq_false_iff_ne]
  by_cases hneg : thNeg ax ay bx b_y
  · rw [if_pos hneg]
    unfold thNeg at hneg
    repeat' (first | apply And.intro | intro _)
    all_goals first | exact True.intro | omega | rfl
  · rw [if_neg hneg]
    unfold thNeg at hneg
    repeat' (first | apply And.intro | intro _)
    all_goals first | exact True.intro | omega | rfl
def pLine : List DArg → Option (Value × List Prop)
  | [.v (.agg ⟨[.int .i64 a, .int .i64 b, .int .i64 c]⟩)] => some (.bool (lineB a b c), [])
  | _ => none
def T4 : Tab := fun f ds => match f with
  | 61 => pLine ds
  | 64 => pLine ds
  | f => T3 f ds
theorem T4_ok : TabOk Try.prog T4 := by
  intro f ds v C h hC
  unfold T4 at h
  split at h
  · unfold pLine at h
    split at h
    · obtain ⟨rfl, rfl⟩ : _ ∧ _ := by simpa using h
      exact res_specLine _ _ _
    · cases h
  · unfold pLine at h
    split at h
    · obtain ⟨rfl, rfl⟩ : _ ∧ _ := by simpa using h
      exact res_implLine _ _ _
    · cases h
  · exact T3_ok _ _ _ _ h hC
end Go.Proofs.Ytkbbdcgknebdbab
