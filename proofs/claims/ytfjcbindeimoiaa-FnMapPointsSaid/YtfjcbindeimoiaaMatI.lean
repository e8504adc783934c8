/-
  Inverses of matrices, both ways; the exact laws of matrices. Written by an AI agent.
-/
import Derived.Test.YtfjcbindeimoiaaMat
namespace Go.Proofs.Ytfjcbindeimoiaa
open Go.RowKit

def dtI (a b c d : Int) : Int := a * d - b * c
def ivB (a b c d : Int) : Bool := mtB a b c d && (dtI a b c d == 1 || dtI a b c d == -1)
/-- What InvertMatrix answers. -/
def ivV (a b c d : Int) : Value := .tuple #[.agg #[iv (onM (ivB a b c d) (dtI a b c d * d)), iv (onM (ivB a b c d) ((0 - dtI a b c d) * b)), iv (onM (ivB a b c d) ((0 - dtI a b c d) * c)), iv (onM (ivB a b c d) (dtI a b c d * a))], .bool (ivB a b c d)]
theorem res_specIv (a b c d : Int) : Res Try.prog 21 [.v (.agg #[iv a, iv b, iv c, iv d])] (ivV a b c d) := by
  refine bodyV_res mixed (tabE_ok TM1_ok) (m := 30) (n := 12) rfl ?_
  rw [tr_specIv]
  unfold ivV ivB
  rcases h : mtB a b c d with _ | _
  · simp [brT_ok, Tree.ok, onM]
  obtain ⟨h1, h2, h3, h4⟩ := mtB_is h
  obtain ⟨p1, p2⟩ := prods h1 h4 h2 h3
  have e : IntKind.i64.wrap (IntKind.i64.wrap (a * d) - IntKind.i64.wrap (b * c)) = dtI a b c d := by
    simp (disch := omega) only [wrM]
    rfl
  have bd : -2000000 ≤ dtI a b c d ∧ dtI a b c d ≤ 2000000 := by unfold dtI; omega
  rw [e]
  generalize dtI a b c d = t at *
  have m1 := mul_bd (x := t) (y := d) 2000000 1000 bd h4
  have m2 := mul_bd (x := 0 - t) (y := b) 2000000 1000 (by omega) h2
  have m3 := mul_bd (x := 0 - t) (y := c) 2000000 1000 (by omega) h3
  have m4 := mul_bd (x := t) (y := a) 2000000 1000 bd h1
  have hn : ((t.natAbs : Int) == 1) = (t == 1 || t == -1) := by
    rw [Bool.eq_iff_iff]
    simp
    omega
  rw [hn]
  simp (disch := omega) only [wrM]
  generalize (t == 1 || t == -1) = z
  have hb : big t := ⟨by omega, by omega⟩
  cases z <;> simp [brT, Tree.ok, onM, hb]
theorem res_implIv (a b c d : Int) : Res Try.prog 22 [.v (.agg #[iv a, iv b, iv c, iv d])] (ivV a b c d) := by
  refine bodyV_res mixed (tabE_ok TM2_ok) (m := 30) (n := 12) rfl ?_
  rw [tr_implIv]
  unfold ivV ivB dtR
  rcases h : mtB a b c d with _ | _
  · simp [brT, Tree.ok, onM]
  obtain ⟨h1, h2, h3, h4⟩ := mtB_is h
  obtain ⟨p1, p2⟩ := prods h1 h4 h2 h3
  have e : (bif true then a * d - b * c else 0) = dtI a b c d := rfl
  have bd : -2000000 ≤ dtI a b c d ∧ dtI a b c d ≤ 2000000 := by unfold dtI; omega
  rw [e]
  generalize dtI a b c d = t at *
  have m1 := mul_bd (x := t) (y := d) 2000000 1000 bd h4
  have m2 := mul_bd (x := 0 - t) (y := b) 2000000 1000 (by omega) h2
  have m3 := mul_bd (x := 0 - t) (y := c) 2000000 1000 (by omega) h3
  have m4 := mul_bd (x := t) (y := a) 2000000 1000 bd h1
  simp (disch := omega) only [wrM]
  generalize (t == 1) = y
  generalize (t == -1) = z
  cases y <;> cases z <;> simp [brT, Tree.ok, onM]
def pIv : List DArg → Option (Value × List Prop)
  | [.v (.agg ⟨[.int .i64 a, .int .i64 b, .int .i64 c, .int .i64 d]⟩)] => some (ivV a b c d, [])
  | _ => none
def TM3 : Tab := fun f ds => match f with
  | 21 => pIv ds
  | 22 => pIv ds
  | _ => TM2 f ds
theorem TM3_ok : TabOk Try.prog TM3 := by
  intro f ds v C h hC
  unfold TM3 at h
  split at h
  · unfold pIv at h
    split at h
    · obtain ⟨rfl, rfl⟩ : _ ∧ _ := by simpa using h
      exact res_specIv _ _ _ _
    · cases h
  · unfold pIv at h
    split at h
    · obtain ⟨rfl, rfl⟩ : _ ∧ _ := by simpa using h
      exact res_implIv _ _ _ _
    · cases h
  · exact TM2_ok _ _ _ _ h hC
set_option maxRecDepth 100000 in
theorem tr_exDt (a b c d : Int) : bodyV Try.prog (tabE TM3) 30 12 3 [.v (.agg #[iv a, iv b, iv c, iv d])] = brT (!dtR a b c d == dtR a b c d) (.fin (.bool (false)) []) (.fin (.bool (true)) []) := by kernel_rfl
set_option maxRecDepth 100000 in
theorem tr_exIv (a b c d : Int) : bodyV Try.prog (tabE TM3) 30 12 5 [.v (.agg #[iv a, iv b, iv c, iv d])] = brT (!onM (ivB a b c d) (dtI a b c d * d) == onM (ivB a b c d) (dtI a b c d * d)) (.fin (.bool (false)) []) (brT (!onM (ivB a b c d) ((0 - dtI a b c d) * b) == onM (ivB a b c d) ((0 - dtI a b c d) * b)) (.fin (.bool (false)) []) (brT (!onM (ivB a b c d) ((0 - dtI a b c d) * c) == onM (ivB a b c d) ((0 - dtI a b c d) * c)) (.fin (.bool (false)) []) (brT (!onM (ivB a b c d) (dtI a b c d * a) == onM (ivB a b c d) (dtI a b c d * a)) (.fin (.bool (false)) []) (brT (!ivB a b c d == ivB a b c d) (.fin (.bool (false)) []) (.fin (.bool (true)) []))))) := by kernel_rfl
set_option maxRecDepth 100000 in
theorem tr_exCm (a b c d e f g h : Int) : bodyV Try.prog (tabE TM3) 30 12 4 [.v (.agg #[iv a, iv b, iv c, iv d]), .v (.agg #[iv e, iv f, iv g, iv h])] = brT (!onM (cmB a b c d e f g h) (a * e + b * g) == onM (cmB a b c d e f g h) (a * e + b * g)) (.fin (.bool (false)) []) (brT (!onM (cmB a b c d e f g h) (a * f + b * h) == onM (cmB a b c d e f g h) (a * f + b * h)) (.fin (.bool (false)) []) (brT (!onM (cmB a b c d e f g h) (c * e + d * g) == onM (cmB a b c d e f g h) (c * e + d * g)) (.fin (.bool (false)) []) (brT (!onM (cmB a b c d e f g h) (c * f + d * h) == onM (cmB a b c d e f g h) (c * f + d * h)) (.fin (.bool (false)) []) (brT (!cmB a b c d e f g h == cmB a b c d e f g h) (.fin (.bool (false)) []) (.fin (.bool (true)) []))))) := by kernel_rfl
theorem ExactDeterminant_res (a b c d : Int) : Res Try.prog 3 [.v (.agg #[iv a, iv b, iv c, iv d])] (.bool true) := by
  refine bodyV_res mixed (tabE_ok TM3_ok) (m := 30) (n := 12) rfl ?_
  rw [tr_exDt]
  simp [brT_ok, Tree.ok]
theorem ExactInvertMatrix_res (a b c d : Int) : Res Try.prog 5 [.v (.agg #[iv a, iv b, iv c, iv d])] (.bool true) := by
  refine bodyV_res mixed (tabE_ok TM3_ok) (m := 30) (n := 12) rfl ?_
  rw [tr_exIv]
  simp [brT_ok, Tree.ok]
theorem ExactComposeMatrices_res (a b c d e f g h : Int) : Res Try.prog 4 [.v (.agg #[iv a, iv b, iv c, iv d]), .v (.agg #[iv e, iv f, iv g, iv h])] (.bool true) := by
  refine bodyV_res mixed (tabE_ok TM3_ok) (m := 30) (n := 12) rfl ?_
  rw [tr_exCm]
  simp [brT_ok, Tree.ok]
end Go.Proofs.Ytfjcbindeimoiaa
