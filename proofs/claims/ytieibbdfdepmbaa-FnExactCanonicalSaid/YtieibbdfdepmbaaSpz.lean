/-
  slices.Clone at no points. Written by an AI agent.
-/
import Derived.Test.YtieibbdfdepmbaaSrt
namespace Go.Proofs.Ytieibbdfdepmbaa
set_option linter.all false
open Go.RowKit

set_option maxRecDepth 100000 in
theorem u_pts : Try.prog.underlying 25 = some (.slice 32) := by kernel_rfl
theorem nilNil_run (t e : TypeId) (w : World) (c c' : Nat) (h : Try.prog.underlying t = some (.slice e)) : (binOp .eql t (.slice none 0 c) (.slice none 0 c')).run Try.prog w = .ok (.bool true) w := by
  have he : ∀ d, (Op.equalIn (d + 1) t (.slice none 0 c) (.slice none 0 c')).run Try.prog w = .ok true w := fun d => by simp [Op.equalIn, run_underlying h]
  simp only [binOp]
  simp [Op.equal, Op.maxDepth, he 9999]
set_option maxRecDepth 100000 in
theorem cln_zero (ad : Option Addr) (c : Nat) (w : World) : Calls Try.prog 64 #[.slice ad 0 c] w fun e w' => ∃ v' p, e = .returned v' ∧ Below w.heap.size w w' ∧
    ∀ (ρ : Nat → Option Pl) (name : Nat), ρ name = some p → VR ρ (.slice (some ⟨name, 0, none⟩) 0 0) v' ∧ BlkOk ρ (fun k => k < w.heap.size) w' name ⟨.row 32 2, .ints []⟩ := by
  cases ad with
  | none =>
    have hn := fun W => nilNil_run 25 32 W c 0 u_pts
    go_enter Try.func64, Try.ntmps64
    go_wp2
    go_ret
    exact ⟨_, (0, 1, some 0), rfl, Below.refl _ _, fun ρ name h => ⟨.nil_ h ⟨rfl, 0, rfl⟩ rfl (fun _ => ⟨rfl, rfl⟩), .inl ⟨_, h, rfl, rfl⟩⟩⟩
  | some a =>
    have hn := fun W => eqNil_run (P := Try.prog) 25 32 a 0 c W u_pts false
    simp only [opB, negB] at hn
    go_enter Try.func64, Try.ntmps64
    go_wp2
    go_ret
    refine ⟨_, (w.heap.size, 0, some 0), rfl, na (nr _) _, fun ρ name h => ⟨.slice (f := 0) h (.inl rfl) (Nat.le_refl _) (fun k hk _ => by simpa using hk), .inr ⟨w.heap.size, 0, h, Nat.lt_irrefl _, #[], heap_alloc_new w _, rfl, fun k v hk => by simp [Blk.cells, Cs.list] at hk⟩⟩⟩
end Go.Proofs.Ytieibbdfdepmbaa
