/-
  Rectangles: which are valid, what two have in common. Written by an AI agent.
-/
import Derived.Test.YtfkdagkldkabpaaTabB
namespace Go.Proofs.Ytfkdagkldkabpaa
open Go.RowKit

def rcB (a b c d : Int) : Bool := ptB a b && ptB c d && decide (a < c) && decide (b < d)
set_option maxRecDepth 100000 in
theorem tr_specRc (a b c d : Int) : bodyX Try.prog (tabE T1) 30 12 91 [.v (.agg #[iv a, iv b, iv c, iv d])] = brT (ptB a b) (brT (ptB c d) (brT (decide (a < c)) (.fin (.bool (decide (b < d))) [none, some ⟨.box, .vals [.int .i64 (a), .int .i64 (b), .int .i64 (c), .int .i64 (d)]⟩]) (.fin (.bool (false)) [none, some ⟨.box, .vals [.int .i64 (a), .int .i64 (b), .int .i64 (c), .int .i64 (d)]⟩])) (.fin (.bool (false)) [none, some ⟨.box, .vals [.int .i64 (a), .int .i64 (b), .int .i64 (c), .int .i64 (d)]⟩])) (.fin (.bool (false)) [none, some ⟨.box, .vals [.int .i64 (a), .int .i64 (b), .int .i64 (c), .int .i64 (d)]⟩]) := by kernel_rfl
set_option maxRecDepth 100000 in
theorem tr_implRc (a b c d : Int) : bodyX Try.prog (tabE T1) 30 12 90 [.v (.agg #[iv a, iv b, iv c, iv d])] = brT (ptB a b && ptB c d) (brT (decide (a < c)) (.fin (.bool (decide (b < d))) [none, some ⟨.box, .vals [.int .i64 (a), .int .i64 (b), .int .i64 (c), .int .i64 (d)]⟩, some ⟨.row 24 2, .vals [.int .i64 (a), .int .i64 (b), .int .i64 (c), .int .i64 (d)]⟩]) (.fin (.bool (false)) [none, some ⟨.box, .vals [.int .i64 (a), .int .i64 (b), .int .i64 (c), .int .i64 (d)]⟩, some ⟨.row 24 2, .vals [.int .i64 (a), .int .i64 (b), .int .i64 (c), .int .i64 (d)]⟩])) (.fin (.bool (false)) [none, some ⟨.box, .vals [.int .i64 (a), .int .i64 (b), .int .i64 (c), .int .i64 (d)]⟩, some ⟨.row 24 2, .vals [.int .i64 (a), .int .i64 (b), .int .i64 (c), .int .i64 (d)]⟩]) := by kernel_rfl
theorem res_specRc (a b c d : Int) : Res Try.prog 91 [.v (.agg #[iv a, iv b, iv c, iv d])] (.bool (rcB a b c d)) := by
  refine bodyX_res mixed (tabE_ok T1_ok) (m := 30) (n := 12) rfl ?_
  rw [tr_specRc]
  unfold rcB
  cases ptB a b <;> cases ptB c d <;> simp [brT_ok, Tree.ok] <;> grind
theorem res_implRc (a b c d : Int) : Res Try.prog 90 [.v (.agg #[iv a, iv b, iv c, iv d])] (.bool (rcB a b c d)) := by
  refine bodyX_res mixed (tabE_ok T1_ok) (m := 30) (n := 12) rfl ?_
  rw [tr_implRc]
  unfold rcB
  cases ptB a b <;> cases ptB c d <;> simp [brT_ok, Tree.ok] <;> grind
def pRc : List DArg → Option (Value × List Prop)
  | [.v (.agg ⟨[.int .i64 a, .int .i64 b, .int .i64 c, .int .i64 d]⟩)] => some (.bool (rcB a b c d), [])
  | _ => none
def TR1 : Tab := fun f ds => match f with
  | 91 => pRc ds
  | 90 => pRc ds
  | _ => T1 f ds
theorem TR1_ok : TabOk Try.prog TR1 := by
  intro f ds v C h hC
  unfold TR1 at h
  split at h
  · unfold pRc at h
    split at h
    · obtain ⟨rfl, rfl⟩ : _ ∧ _ := by simpa using h
      exact res_specRc _ _ _ _
    · cases h
  · unfold pRc at h
    split at h
    · obtain ⟨rfl, rfl⟩ : _ ∧ _ := by simpa using h
      exact res_implRc _ _ _ _
    · cases h
  · exact T1_ok _ _ _ _ h hC
def hiI (x y : Int) : Int := if x < y then y else x
def loI (x y : Int) : Int := if y < x then y else x
def mrB (a b c d e f g h : Int) : Bool := rcB a b c d && rcB e f g h && rcB (hiI a e) (hiI b f) (loI c g) (loI d h)
def onI (b : Bool) (x : Int) : Int := bif b then x else 0
/-- What two rectangles have in common. -/
def mrV (a b c d e f g h : Int) : Value := .tuple #[.agg #[iv (onI (mrB a b c d e f g h) (hiI a e)), iv (onI (mrB a b c d e f g h) (hiI b f)), iv (onI (mrB a b c d e f g h) (loI c g)), iv (onI (mrB a b c d e f g h) (loI d h))], .bool (mrB a b c d e f g h)]
set_option maxRecDepth 100000 in
theorem tr_specMr (a b c d e f g h : Int) : bodyX Try.prog (tabE TR1) 30 12 53 [.v (.agg #[iv a, iv b, iv c, iv d]), .v (.agg #[iv e, iv f, iv g, iv h])] = brT (!rcB a b c d) (.fin (.tuple #[.agg #[.int .i64 (0), .int .i64 (0), .int .i64 (0), .int .i64 (0)], .bool (false)]) [none, none, some ⟨.box, .vals [.int .i64 (a), .int .i64 (b), .int .i64 (c), .int .i64 (d)]⟩, some ⟨.box, .vals [.int .i64 (e), .int .i64 (f), .int .i64 (g), .int .i64 (h)]⟩, some ⟨.box, .vals [.int .i64 (0), .int .i64 (0), .int .i64 (0), .int .i64 (0)]⟩]) (brT (!rcB e f g h) (.fin (.tuple #[.agg #[.int .i64 (0), .int .i64 (0), .int .i64 (0), .int .i64 (0)], .bool (false)]) [none, none, some ⟨.box, .vals [.int .i64 (a), .int .i64 (b), .int .i64 (c), .int .i64 (d)]⟩, some ⟨.box, .vals [.int .i64 (e), .int .i64 (f), .int .i64 (g), .int .i64 (h)]⟩, some ⟨.box, .vals [.int .i64 (0), .int .i64 (0), .int .i64 (0), .int .i64 (0)]⟩]) (brT (!rcB (if a < e then e else a) (if b < f then f else b) (if g < c then g else c) (if h < d then h else d)) (.fin (.tuple #[.agg #[.int .i64 (0), .int .i64 (0), .int .i64 (0), .int .i64 (0)], .bool (false)]) [none, none, some ⟨.box, .vals [.int .i64 (a), .int .i64 (b), .int .i64 (c), .int .i64 (d)]⟩, some ⟨.box, .vals [.int .i64 (e), .int .i64 (f), .int .i64 (g), .int .i64 (h)]⟩, some ⟨.box, .vals [.int .i64 (0), .int .i64 (0), .int .i64 (0), .int .i64 (0)]⟩, some ⟨.box, .vals [.int .i64 (if a < e then e else a), .int .i64 (if b < f then f else b), .int .i64 (if g < c then g else c), .int .i64 (if h < d then h else d)]⟩, some ⟨.box, .vals [.int .i64 (a), .int .i64 (b), .int .i64 (c), .int .i64 (d)]⟩, some ⟨.box, .vals [.int .i64 (e), .int .i64 (f), .int .i64 (g), .int .i64 (h)]⟩, some ⟨.box, .vals [.int .i64 (if a < e then e else a), .int .i64 (if b < f then f else b), .int .i64 (if g < c then g else c), .int .i64 (if h < d then h else d)]⟩, some ⟨.box, .vals [.int .i64 (if a < e then e else a), .int .i64 (if b < f then f else b), .int .i64 (if g < c then g else c), .int .i64 (if h < d then h else d)]⟩, none]) (.fin (.tuple #[.agg #[.int .i64 (if a < e then e else a), .int .i64 (if b < f then f else b), .int .i64 (if g < c then g else c), .int .i64 (if h < d then h else d)], .bool (true)]) [none, none, some ⟨.box, .vals [.int .i64 (a), .int .i64 (b), .int .i64 (c), .int .i64 (d)]⟩, some ⟨.box, .vals [.int .i64 (e), .int .i64 (f), .int .i64 (g), .int .i64 (h)]⟩, some ⟨.box, .vals [.int .i64 (if a < e then e else a), .int .i64 (if b < f then f else b), .int .i64 (if g < c then g else c), .int .i64 (if h < d then h else d)]⟩, some ⟨.box, .vals [.int .i64 (if a < e then e else a), .int .i64 (if b < f then f else b), .int .i64 (if g < c then g else c), .int .i64 (if h < d then h else d)]⟩, some ⟨.box, .vals [.int .i64 (a), .int .i64 (b), .int .i64 (c), .int .i64 (d)]⟩, some ⟨.box, .vals [.int .i64 (e), .int .i64 (f), .int .i64 (g), .int .i64 (h)]⟩, some ⟨.box, .vals [.int .i64 (if a < e then e else a), .int .i64 (if b < f then f else b), .int .i64 (if g < c then g else c), .int .i64 (if h < d then h else d)]⟩, some ⟨.box, .vals [.int .i64 (if a < e then e else a), .int .i64 (if b < f then f else b), .int .i64 (if g < c then g else c), .int .i64 (if h < d then h else d)]⟩, none]))) := by kernel_rfl
set_option maxRecDepth 100000 in
theorem tr_implMr (a b c d e f g h : Int) : bodyX Try.prog (tabE TR1) 30 12 52 [.v (.agg #[iv a, iv b, iv c, iv d]), .v (.agg #[iv e, iv f, iv g, iv h])] = brT (!rcB a b c d) (.fin (.tuple #[.agg #[.int .i64 (0), .int .i64 (0), .int .i64 (0), .int .i64 (0)], .bool (false)]) [none, none, some ⟨.box, .vals [.int .i64 (a), .int .i64 (b), .int .i64 (c), .int .i64 (d)]⟩, some ⟨.box, .vals [.int .i64 (e), .int .i64 (f), .int .i64 (g), .int .i64 (h)]⟩, some ⟨.box, .vals [.int .i64 (0), .int .i64 (0), .int .i64 (0), .int .i64 (0)]⟩, some ⟨.box, .vals [.int .i64 (if a < e then e else a), .int .i64 (if b < f then f else b), .int .i64 (if g < c then g else c), .int .i64 (if h < d then h else d)]⟩]) (brT (!rcB e f g h) (.fin (.tuple #[.agg #[.int .i64 (0), .int .i64 (0), .int .i64 (0), .int .i64 (0)], .bool (false)]) [none, none, some ⟨.box, .vals [.int .i64 (a), .int .i64 (b), .int .i64 (c), .int .i64 (d)]⟩, some ⟨.box, .vals [.int .i64 (e), .int .i64 (f), .int .i64 (g), .int .i64 (h)]⟩, some ⟨.box, .vals [.int .i64 (0), .int .i64 (0), .int .i64 (0), .int .i64 (0)]⟩, some ⟨.box, .vals [.int .i64 (if a < e then e else a), .int .i64 (if b < f then f else b), .int .i64 (if g < c then g else c), .int .i64 (if h < d then h else d)]⟩]) (brT (!rcB (if a < e then e else a) (if b < f then f else b) (if g < c then g else c) (if h < d then h else d)) (.fin (.tuple #[.agg #[.int .i64 (0), .int .i64 (0), .int .i64 (0), .int .i64 (0)], .bool (false)]) [none, none, some ⟨.box, .vals [.int .i64 (a), .int .i64 (b), .int .i64 (c), .int .i64 (d)]⟩, some ⟨.box, .vals [.int .i64 (e), .int .i64 (f), .int .i64 (g), .int .i64 (h)]⟩, some ⟨.box, .vals [.int .i64 (0), .int .i64 (0), .int .i64 (0), .int .i64 (0)]⟩, some ⟨.box, .vals [.int .i64 (if a < e then e else a), .int .i64 (if b < f then f else b), .int .i64 (if g < c then g else c), .int .i64 (if h < d then h else d)]⟩]) (.fin (.tuple #[.agg #[.int .i64 (if a < e then e else a), .int .i64 (if b < f then f else b), .int .i64 (if g < c then g else c), .int .i64 (if h < d then h else d)], .bool (true)]) [none, none, some ⟨.box, .vals [.int .i64 (a), .int .i64 (b), .int .i64 (c), .int .i64 (d)]⟩, some ⟨.box, .vals [.int .i64 (e), .int .i64 (f), .int .i64 (g), .int .i64 (h)]⟩, some ⟨.box, .vals [.int .i64 (if a < e then e else a), .int .i64 (if b < f then f else b), .int .i64 (if g < c then g else c), .int .i64 (if h < d then h else d)]⟩, some ⟨.box, .vals [.int .i64 (if a < e then e else a), .int .i64 (if b < f then f else b), .int .i64 (if g < c then g else c), .int .i64 (if h < d then h else d)]⟩]))) := by kernel_rfl
theorem res_specMr (a b c d e f g h : Int) : Res Try.prog 53 [.v (.agg #[iv a, iv b, iv c, iv d]), .v (.agg #[iv e, iv f, iv g, iv h])] (mrV a b c d e f g h) := by
  refine bodyX_res mixed (tabE_ok TR1_ok) (m := 30) (n := 12) rfl ?_
  rw [tr_specMr]
  have e1 : (if a < e then e else a) = hiI a e := rfl
  have e2 : (if b < f then f else b) = hiI b f := rfl
  have e3 : (if g < c then g else c) = loI c g := rfl
  have e4 : (if h < d then h else d) = loI d h := rfl
  simp only [e1, e2, e3, e4]
  unfold mrV mrB
  generalize rcB (hiI a e) (hiI b f) (loI c g) (loI d h) = z
  generalize rcB a b c d = x
  generalize rcB e f g h = y
  cases x <;> cases y <;> cases z <;> simp [brT, Tree.ok, onI]
theorem res_implMr (a b c d e f g h : Int) : Res Try.prog 52 [.v (.agg #[iv a, iv b, iv c, iv d]), .v (.agg #[iv e, iv f, iv g, iv h])] (mrV a b c d e f g h) := by
  refine bodyX_res mixed (tabE_ok TR1_ok) (m := 30) (n := 12) rfl ?_
  rw [tr_implMr]
  have e1 : (if a < e then e else a) = hiI a e := rfl
  have e2 : (if b < f then f else b) = hiI b f := rfl
  have e3 : (if g < c then g else c) = loI c g := rfl
  have e4 : (if h < d then h else d) = loI d h := rfl
  simp only [e1, e2, e3, e4]
  unfold mrV mrB
  generalize rcB (hiI a e) (hiI b f) (loI c g) (loI d h) = z
  generalize rcB a b c d = x
  generalize rcB e f g h = y
  cases x <;> cases y <;> cases z <;> simp [brT, Tree.ok, onI]
def pMr : List DArg → Option (Value × List Prop)
  | [.v (.agg ⟨[.int .i64 a, .int .i64 b, .int .i64 c, .int .i64 d]⟩), .v (.agg ⟨[.int .i64 e, .int .i64 f, .int .i64 g, .int .i64 h]⟩)] => some (mrV a b c d e f g h, [])
  | _ => none
def TR2 : Tab := fun f ds => match f with
  | 53 => pMr ds
  | 52 => pMr ds
  | _ => TR1 f ds
theorem TR2_ok : TabOk Try.prog TR2 := by
  intro f ds v C h hC
  unfold TR2 at h
  split at h
  · unfold pMr at h
    split at h
    · obtain ⟨rfl, rfl⟩ : _ ∧ _ := by simpa using h
      exact res_specMr _ _ _ _ _ _ _ _
    · cases h
  · unfold pMr at h
    split at h
    · obtain ⟨rfl, rfl⟩ : _ ∧ _ := by simpa using h
      exact res_implMr _ _ _ _ _ _ _ _
    · cases h
  · exact TR1_ok _ _ _ _ h hC
end Go.Proofs.Ytfkdagkldkabpaa
