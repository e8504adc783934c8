/-
  The law of SideOfRat. Written by an AI agent.
-/
import Derived.Test.YtblpldapmmoheabTabN
namespace Go.Proofs.Ytblpldapmmoheab
set_option linter.all false
open Go.RowKit
set_option maxRecDepth 100000 in
theorem tr_specSOR (a b c n d m e : Int) : runX Try.prog (tabE U6) 30 12 21 [.v (.agg #[iv a, iv b, iv c]), .v (.agg #[iv n, iv d, iv m, iv e])] (fun u => .fin u []) = brT (!lineBL a b c) (.fin (.int .i64 (2)) []) (brT (!solB n d m e) (.fin (.int .i64 (2)) []) (.need (lineBL a b c = true) (.need (solB n d m e = true) (.fin (.int .i64 (sideJ a b c n d m e)) [])))) := by kernel_rfl
set_option maxRecDepth 100000 in
theorem tr_implSOR (a b c n d m e : Int) : runX Try.prog (tabE U6) 30 12 18 [.v (.agg #[iv a, iv b, iv c]), .v (.agg #[iv n, iv d, iv m, iv e])] (fun u => .fin u []) = brT (!lineBL a b c) (.fin (.int .i64 (2)) []) (brT (!ratB n d) (.fin (.int .i64 (2)) []) (brT (!ratB m e) (.fin (.int .i64 (2)) []) (.need ((1 : Int) ≤ d ∧ d ≤ (20000000 : Int)) (brT (!reachB n d) (.fin (.int .i64 (2)) []) (.need ((1 : Int) ≤ e ∧ e ≤ (20000000 : Int)) (brT (!reachB m e) (.fin (.int .i64 (2)) []) (.need ((1 : Int) ≤ d ∧ d ≤ (20000000 : Int)) (.need ((1 : Int) ≤ e ∧ e ≤ (20000000 : Int)) (brT (decide (20000000 < lcmI d e)) (.fin (.int .i64 (2)) []) (.need (lineBL a b c = true) (.need (solB n d m e = true) (.fin (.int .i64 (sideJ a b c n d m e)) [])))))))))))) := by kernel_rfl
theorem res_specSOR (a b c n d m e : Int) : Res Try.prog 21 [.v (.agg #[iv a, iv b, iv c]), .v (.agg #[iv n, iv d, iv m, iv e])] (iv (sideRL a b c n d m e)) := by
  refine res_of mixed (tabE_ok U6_ok) (m := 30) (n := 12) ?_
  rw [tr_specSOR]
  unfold sideRL
  cases h1 : lineBL a b c <;> cases h2 : solB n d m e <;> simp [brT, Tree.ok]
theorem solB_all {n d m e : Int} (h1 : ratB n d = true) (h2 : ratB m e = true) (h3 : reachB n d = true) (h4 : reachB m e = true) : solB n d m e = decide (lcmI d e ≤ 20000000) := by unfold solB; rw [h1, h2, h3, h4]; rfl
theorem solB_d {n d m e : Int} (h : reachB n d = false) : solB n d m e = false := by unfold solB; rw [h]; simp
theorem solB_e {n d m e : Int} (h : reachB m e = false) : solB n d m e = false := by unfold solB; rw [h]; simp
theorem solB_b' {n d m e : Int} (h : ratB m e = false) : solB n d m e = false := by unfold solB; rw [h]; simp
theorem res_implSOR (a b c n d m e : Int) : Res Try.prog 18 [.v (.agg #[iv a, iv b, iv c]), .v (.agg #[iv n, iv d, iv m, iv e])] (iv (sideRL a b c n d m e)) := by
  refine res_of mixed (tabE_ok U6_ok) (m := 30) (n := 12) ?_
  rw [tr_implSOR]
  unfold sideRL
  rcases h1 : lineBL a b c with _ | _
  · simp [brT, Tree.ok]
  rcases h2 : ratB n d with _ | _
  · rw [solB_a h2]
    simp [brT, Tree.ok]
  rcases h3 : ratB m e with _ | _
  · rw [solB_b' h3]
    simp [brT, Tree.ok]
  have r1 := ratB_true h2
  have r2 := ratB_true h3
  have hd : 1 ≤ d ∧ d ≤ 20000000 := by omega
  have he : 1 ≤ e ∧ e ≤ 20000000 := by omega
  rcases h4 : reachB n d with _ | _
  · rw [solB_d h4]
    simp [brT, Tree.ok, hd]
  rcases h5 : reachB m e with _ | _
  · rw [solB_e h5]
    simp [brT, Tree.ok, hd, he]
  rw [solB_all h2 h3 h4 h5]
  by_cases h6 : lcmI d e ≤ 20000000
  · have h7 : ¬ 20000000 < lcmI d e := by omega
    simp [brT, Tree.ok, hd, he, h6, h7]
  · have h7 : 20000000 < lcmI d e := by omega
    simp [brT, Tree.ok, hd, he, h6, h7]
def pSOR : List DArg → Option (Value × List Prop)
  | [.v (.agg ⟨[.int .i64 a, .int .i64 b, .int .i64 c]⟩), .v (.agg ⟨[.int .i64 n, .int .i64 d, .int .i64 m, .int .i64 e]⟩)] => some (iv (sideRL a b c n d m e), [])
  | _ => none
def U7 : Tab := fun f ds => match f with
  | 21 => pSOR ds
  | 18 => pSOR ds
  | f => U6 f ds
theorem U7_r0 {ds : List DArg} {v : Value} {C : List Prop} (h : pSOR ds = some (v, C)) (hC : AllP C) : Res Try.prog 21 ds v := by
  unfold pSOR at h
  split at h
  · obtain ⟨rfl, rfl⟩ : _ ∧ _ := by simpa using h
    exact res_specSOR _ _ _ _ _ _ _
  · cases h
theorem U7_r1 {ds : List DArg} {v : Value} {C : List Prop} (h : pSOR ds = some (v, C)) (hC : AllP C) : Res Try.prog 18 ds v := by
  unfold pSOR at h
  split at h
  · obtain ⟨rfl, rfl⟩ : _ ∧ _ := by simpa using h
    exact res_implSOR _ _ _ _ _ _ _
  · cases h
theorem U7_ok : TabOk Try.prog U7 := by
  intro f ds v C h hC
  unfold U7 at h
  (try split at h)
  all_goals first | with_reducible exact U7_r0 h hC | with_reducible exact U7_r1 h hC | exact U6_ok _ _ _ _ h hC | cases h
end Go.Proofs.Ytblpldapmmoheab
