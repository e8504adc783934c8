/-
  slices.Grow of nil, at points. Written by an AI agent.
-/
import Derived.Test.YtieibbdfdepmbaaSpz
namespace Go.Proofs.Ytieibbdfdepmbaa
set_option linter.all false
open Go.RowKit

set_option maxRecDepth 100000 in
theorem grow_any (n : Int) (h : 0 < n ∧ n ≤ 1000) (w : World) : Calls Try.prog 104 #[.slice none 0 0, .int .i64 n] w fun e w' => ∃ v' p, e = .returned v' ∧ Below w.heap.size w w' ∧
    ∀ (ρ : Nat → Option Pl) (name : Nat), ρ name = some p → VR ρ (.slice (some ⟨name, 0, none⟩) 0 0) v' ∧ BlkOk ρ (fun k => k < w.heap.size) w' name ⟨.row 32 2, .ints []⟩ := by
  have h1 : decide (n < 0) = false := decide_eq_false (by omega)
  have h2 : decide (0 < n) = true := decide_eq_true (by omega)
  have hb : Try.t32.bytes = 16 := rfl
  have hc : Builtin.nextslicecap n.toNat 0 = n.toNat := nextslicecap_zero (by omega)
  have hge : n.toNat ≤ (Question.appendCap n.toNat 0 32).cut (w.tape w.drawn (Question.appendCap n.toNat 0 32)) := grownCap_ge w n.toNat 0 32
  have HG := Lib.hid hge
  clear hge
  go_enter Try.func104, Try.ntmps104
  go_wp2_with fail
  all_goals (try (exfalso; first | omega | (rw [hb] at *; omega) | (rw [hc, hb] at *; omega)))
  have hge := HG.out
  clear HG
  go_ret
  refine ⟨_, rfl, Below.drew (na (nr _) _), w.heap.size, 0, some ((Question.appendCap n.toNat 0 32).cut (w.tape w.drawn (Question.appendCap n.toNat 0 32))), fun ρ name hn => ⟨.slice (f := 0) hn (.inl rfl) (Nat.zero_le _) (fun k hk _ => by simpa using hk), .inr ⟨w.heap.size, _, hn, Nat.lt_irrefl _, _, heap_alloc_new w _, ?_, fun k v hk => by simp [Blk.cells, Cs.list] at hk⟩⟩⟩
  rw [Array.size_append, size_zeroCells, size_zeroCells]
  simp only [List.size_toArray, List.length_cons, List.length_nil]
  omega
set_option maxRecDepth 100000 in
theorem resR_grw (n : Int) (h : 0 < n ∧ n ≤ 1000) : ResR Try.prog 104 [.v (.slice none 0 0), .v (.int .i64 n)] (.slice (some ⟨0, 0, none⟩) 0 0) ⟨.row 32 2, .ints []⟩ := by
  refine ⟨(entersB_res (by kernel_rfl)).1, (entersB_res (by kernel_rfl)).2, rfl, fun d hd => ?_, fun w args hd => ?_⟩
  · rcases List.mem_cons.1 hd with rfl | hd
    · exact rfl
    · rw [List.mem_singleton.1 hd]
      exact rfl
  · obtain ⟨h1, h2⟩ := hd
    obtain ⟨x0, x1, rfl⟩ : ∃ x0 x1, args = #[x0, x1] := by
      have h3 : args.size = 2 := by simpa using h1.symm
      match args, h3 with
      | ⟨[x0, x1]⟩, _ => exact ⟨x0, x1, rfl⟩
    obtain ⟨_, rfl⟩ := h2 0 _ x0 rfl rfl
    obtain ⟨_, rfl⟩ := h2 1 _ x1 rfl rfl
    exact grow_any n h w
end Go.Proofs.Ytieibbdfdepmbaa
