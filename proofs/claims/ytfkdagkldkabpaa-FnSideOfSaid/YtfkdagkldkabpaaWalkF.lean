/-
  Contracts and walks of the laws on fractions: checked, MakeRat, CompareRats, AddRats, FloorRat, the program's and the model's. Written by an AI agent.
-/
import Derived.Test.YtfkdagkldkabpaaWalkE
namespace Go.Proofs.Ytfkdagkldkabpaa
open Go.RowKit

theorem specChecked_any (n d : Int) (w : World) :
    Calls Try.prog 69 #[.agg #[.int .i64 n, .int .i64 d]] w fun e w' => e = .returned (.tuple #[.agg #[.int .i64 (cN n d), .int .i64 (cD n d)], .bool (ratB n d)]) ∧ Below w.heap.size w w' := by
  go_enter Try.func69, Try.ntmps69
  go_wp2_with fail
  refine (specRat_any _ _ _).mono ?_; rintro e w1 ⟨rfl, hb1⟩; obtain ⟨hc1, hf1, hz1⟩ := bc2 w.heap.size hb1 (by simp)
  have c0 := keep1 hb1 (a := ⟨w.heap.size + 1, 0, none⟩) (v := .int .i64 0) (by simp [go_sem])
  have c1 := keep1 hb1 (a := ⟨w.heap.size + 1, 1, none⟩) (v := .int .i64 0) (by simp [go_sem])
  have hn : Below w.heap.size w w1 := nt (na (na (nr _) _) _) hb1
  rcases hr : ratB n d with _ | _
  · have HN := Lib.hid (cN_no hr)
    have HD := Lib.hid (cD_no hr)
    have s0 := set_same (.int .i64 0) c0
    have s1 := set_same (.int .i64 0) (set_next (.int .i64 0) c1)
    have HR := Lib.hid hr
    clear hr
    go_wp2
    refine bodyPost_ret (v := .tuple #[.agg #[.int .i64 0, .int .i64 0], .bool false]) (by simp [results, Try.results69, go_sem, s0, s1]) rfl ⟨?_, ((hn.setCell (by simp) _).setCell (by simp) _)⟩
    rw [HN.out, HD.out, HR.out]
  · have HN := Lib.hid (cN_yes hr)
    have HD := Lib.hid (cD_yes hr)
    have s0 := set_same (.int .i64 n) c0
    have s1 := set_same (.int .i64 d) (set_next (.int .i64 n) c1)
    have HR := Lib.hid hr
    clear hr
    go_wp2
    refine bodyPost_ret (v := .tuple #[.agg #[.int .i64 n, .int .i64 d], .bool true]) (by simp [results, Try.results69, go_sem, s0, s1]) rfl ⟨?_, ((hn.setCell (by simp) _).setCell (by simp) _)⟩
    rw [HN.out, HD.out, HR.out]
theorem implChecked_any (n d : Int) (w : World) :
    Calls Try.prog 98 #[.agg #[.int .i64 n, .int .i64 d]] w fun e w' => e = .returned (.tuple #[.agg #[.int .i64 (cN n d), .int .i64 (cD n d)], .bool (ratB n d)]) ∧ Below w.heap.size w w' := by
  go_enter Try.func98, Try.ntmps98
  go_wp2_with fail
  refine (implRat_any _ _ _).mono ?_; rintro e w1 ⟨rfl, hb1⟩; obtain ⟨hc1, hf1, hz1⟩ := bc2 w.heap.size hb1 (by simp)
  have c0 := keep1 hb1 (a := ⟨w.heap.size + 1, 0, none⟩) (v := .int .i64 0) (by simp [go_sem])
  have c1 := keep1 hb1 (a := ⟨w.heap.size + 1, 1, none⟩) (v := .int .i64 0) (by simp [go_sem])
  have hn : Below w.heap.size w w1 := nt (na (na (nr _) _) _) hb1
  rcases hr : ratB n d with _ | _
  · have HN := Lib.hid (cN_no hr)
    have HD := Lib.hid (cD_no hr)
    have s0 := set_same (.int .i64 0) c0
    have s1 := set_same (.int .i64 0) (set_next (.int .i64 0) c1)
    have HR := Lib.hid hr
    clear hr
    go_wp2
    refine bodyPost_ret (v := .tuple #[.agg #[.int .i64 0, .int .i64 0], .bool false]) (by simp [results, Try.results98, go_sem, s0, s1]) rfl ⟨?_, ((hn.setCell (by simp) _).setCell (by simp) _)⟩
    rw [HN.out, HD.out, HR.out]
  · have HN := Lib.hid (cN_yes hr)
    have HD := Lib.hid (cD_yes hr)
    have s0 := set_same (.int .i64 n) c0
    have s1 := set_same (.int .i64 d) (set_next (.int .i64 n) c1)
    have HR := Lib.hid hr
    clear hr
    go_wp2
    refine bodyPost_ret (v := .tuple #[.agg #[.int .i64 n, .int .i64 d], .bool true]) (by simp [results, Try.results98, go_sem, s0, s1]) rfl ⟨?_, ((hn.setCell (by simp) _).setCell (by simp) _)⟩
    rw [HN.out, HD.out, HR.out]
end Go.Proofs.Ytfkdagkldkabpaa
