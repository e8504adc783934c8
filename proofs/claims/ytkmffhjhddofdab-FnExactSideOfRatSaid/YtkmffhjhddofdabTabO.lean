/-
  The law of SideOfRat. Written by an AI agent.
-/
import Derived.Test.YtkmffhjhddofdabTabN
namespace Go.Proofs.Ytkmffhjhddofdab
open Go.RowKit
set_option maxRecDepth 100000 in
theorem tr_specSOR (a b c n d m e : Int) : runX Try.prog (tabE U6) 30 12 31 [.v (.agg #[iv a, iv b, iv c]), .v (.agg #[iv n, iv d, iv m, iv e])] (fun u => .fin u []) = brT (!lineB a b c) (.fin (.int .i64 (2)) []) (brT (!solB n d m e) (.fin (.int .i64 (2)) []) (.need (lineB a b c = true) (.need (solB n d m e = true) (.fin (.int .i64 (sideJ a b c n d m e)) [])))) := by kernel_rfl
set_option maxRecDepth 100000 in
theorem tr_implSOR (a b c n d m e : Int) : runX Try.prog (tabE U6) 30 12 33 [.v (.agg #[iv a, iv b, iv c]), .v (.agg #[iv n, iv d, iv m, iv e])] (fun u => .fin u []) = brT (!lineB a b c) (.fin (.int .i64 (2)) []) (brT (!ratB n d) (.fin (.int .i64 (2)) []) (brT (!ratB m e) (.fin (.int .i64 (2)) []) (.need ((1 : Int) ≤ d ∧ d ≤ (20000000 : Int)) (brT (!reachB n d) (.fin (.int .i64 (2)) []) (.need ((1 : Int) ≤ e ∧ e ≤ (20000000 : Int)) (brT (!reachB m e) (.fin (.int .i64 (2)) []) (.need ((1 : Int) ≤ d ∧ d ≤ (20000000 : Int)) (.need ((1 : Int) ≤ e ∧ e ≤ (20000000 : Int)) (brT (decide (20000000 < lcmI d e)) (.fin (.int .i64 (2)) []) (.need (lineB a b c = true) (.need (solB n d m e = true) (.fin (.int .i64 (sideJ a b c n d m e)) [])))))))))))) := by kernel_rfl
theorem res_specSOR (a b c n d m e : Int) : Res Try.prog 31 [.v (.agg #[iv a, iv b, iv c]), .v (.agg #[iv n, iv d, iv m, iv e])] (iv (sideR a b c n d m e)) := by
  refine res_of mixed (tabE_ok U6_ok) (m := 30) (n := 12) ?_
  rw [tr_specSOR]
  unfold sideR
  cases h1 : lineB a b c <;> cases h2 : solB n d m e <;> simp [brT, Tree.ok]
theorem solB_all {n d m e : Int} (h1 : ratB n d = true) (h2 : ratB m e = true) (h3 : reachB n d = true) (h4 : reachB m e = true) : solB n d m e = decide (lcmI d e ≤ 20000000) := by unfold solB; rw [h1, h2, h3, h4]; rfl
theorem solB_d {n d m e : Int} (h : reachB n d = false) : solB n d m e = false := by unfold solB; rw [h]; simp
theorem solB_e {n d m e : Int} (h : reachB m e = false) : solB n d m e = false := by unfold solB; rw [h]; simp
theorem solB_b' {n d m e : Int} (h : ratB m e = false) : solB n d m e = false := by unfold solB; rw [h]; simp
theorem res_implSOR (a b c n d m e : Int) : Res Try.prog 33 [.v (.agg #[iv a, iv b, iv c]), .v (.agg #[iv n, iv d, iv m, iv e])] (iv (sideR a b c n d m e)) := by
  refine res_of mixed (tabE_ok U6_ok) (m := 30) (n := 12) ?_
  rw [tr_implSOR]
  unfold sideR
  rcases h1 : lineB a b c with _ | _
  · simp [brT, Tree.ok]
  rcases h2 : ratB n d with _ | _
  · rw [solB_a h2]
    simp [brT, Tree.ok]
  rcases h3 : ratB m e with _ | _
  · rw [solB_b' h3]
    simp [brT, Tree.ok]
  have r1 := ratB_true h2
  have r2 := ratB_true h3
  have hd : 1 ≤ d ∧ d ≤ 20000000 := by omega
  have he : 1 ≤ e ∧ e ≤ 20000000 := by omega
  rcases h4 : reachB n d with _ | _
  · rw [solB_d h4]
    simp [brT, Tree.ok, hd]
  rcases h5 : reachB m e with _ | _
  · rw [solB_e h5]
    simp [brT, Tree.ok, hd, he]
  rw [solB_all h2 h3 h4 h5]
  by_cases h6 : lcmI d e ≤ 20000000
  · have h7 : ¬ 20000000 < lcmI d e := by omega
    simp [brT, Tree.ok, hd, he, h6, h7]
  · have h7 : 20000000 < lcmI d e := by omega
    simp [brT, Tree.ok, hd, he, h6, h7]
def pSOR : List DArg → Option (Value × List Prop)
  | [.v (.agg ⟨[.int .i64 a, .int .i64 b, .int .i64 c]⟩), .v (.agg ⟨[.int .i64 n, .int .i64 d, .int .i64 m, .int .i64 e]⟩)] => some (iv (sideR a b c n d m e), [])
  | _ => none
def U7 : Tab := fun f ds => match f with
  | 31 => pSOR ds
  | 33 => pSOR ds
  | f => U6 f ds
theorem U7_ok : TabOk Try.prog U7 := by
  intro f ds v C h hC
  unfold U7 at h
  split at h
  · unfold pSOR at h
    split at h
    · obtain ⟨rfl, rfl⟩ : _ ∧ _ := by simpa using h
      exact res_specSOR _ _ _ _ _ _ _
    · cases h
  · unfold pSOR at h
    split at h
    · obtain ⟨rfl, rfl⟩ : _ ∧ _ := by simpa using h
      exact res_implSOR _ _ _ _ _ _ _
    · cases h
  · exact U6_ok _ _ _ _ h hC
set_option maxRecDepth 100000 in
theorem tr_lawSOR (a b c n d m e : Int) : runX Try.prog (tabE U7) 30 12 8 [.v (.agg #[iv a, iv b, iv c]), .v (.agg #[iv n, iv d, iv m, iv e])] (fun u => .fin u []) = brT (!sideR a b c n d m e == sideR a b c n d m e) (.fin (.bool (false)) []) (.fin (.bool (true)) []) := by kernel_rfl
theorem ExactSideOfRat_walk (a b c n d m e : Int) (w : World) :
    Calls Try.prog 8 #[.agg #[.int .i64 a, .int .i64 b, .int .i64 c], .agg #[.int .i64 n, .int .i64 d, .int .i64 m, .int .i64 e]] w fun e' w' => e' = .returned (.bool true) ∧ Below w.heap.size w w' := by
  refine Res.plain_call (args := [.agg #[iv a, iv b, iv c], .agg #[iv n, iv d, iv m, iv e]]) (res_of mixed (tabE_ok U7_ok) (m := 30) (n := 12) ?_) rfl w
  show (runX Try.prog (tabE U7) 30 12 8 [.v (.agg #[iv a, iv b, iv c]), .v (.agg #[iv n, iv d, iv m, iv e])] (fun u => .fin u [])).ok _ _
  rw [tr_lawSOR]
  simp [brT, Tree.ok]
end Go.Proofs.Ytkmffhjhddofdab
