/-
  Laws of drawn matrices and of Manhattan. Written by an AI agent.
-/
import Derived.Test.YtfjcbindeimoiaaMatD
import Derived.Test.YtfjcbindeimoiaaMatI
import Derived.Test.YtfjcbindeimoiaaManh
namespace Go.Proofs.Ytfjcbindeimoiaa
open Go.RowKit

/-- Two drawn matrices. -/
def d2mL (bs : List Int) (l : Nat) : Value := .tuple #[ag4 (amE bs l 0 0) (amE bs l 0 1) (amE bs l 0 2) (amE bs l 0 3), ag4 (amE bs l (amP bs l 0) 0) (amE bs l (amP bs l 0) 1) (amE bs l (amP bs l 0) 2) (amE bs l (amP bs l 0) 3)]
def d2mV (bs : List Int) (n : Nat) : Value := d2mL bs (rdL n)
def d1mL (bs : List Int) (l : Nat) : Value := ag4 (amE bs l 0 0) (amE bs l 0 1) (amE bs l 0 2) (amE bs l 0 3)
def d1mV (bs : List Int) (n : Nat) : Value := d1mL bs (rdL n)
theorem res_dCm (bs : List Int) (n : Nat) (hb : Bytes bs) (hn : n ≤ bs.length) : Res Try.prog 26 [.row n (.bytes bs)] (d2mV bs n) := by
  refine bodyV_res mixed ERM2_ok (m := 30) (n := 12) rfl ?_
  rw [tr_dCm]
  unfold d2mV
  have key : ∀ l, l ≤ n → l ≤ 2000 → rdK bs l 0 ∧ rdK bs l (amP bs l 0) := fun l h1 h2 => by
    have b1 := amP_bd bs l 0
    exact ⟨rdK0 hb hn h1 h2 (by omega) (by omega), rdK0 hb hn h1 h2 (by omega) (by omega)⟩
  refine brT_ok.2 ⟨fun h => ?_, fun h => ?_⟩
  · have h := of_decide_eq_true h
    obtain ⟨k1, k2⟩ := key 2000 (by omega) (by omega)
    rw [rdL_of h]
    exact ⟨bnd2000 h, k1, k2, rfl⟩
  · have h := of_decide_eq_false h
    obtain ⟨k1, k2⟩ := key n (by omega) (by omega)
    rw [rdL_no h]
    exact ⟨k1, k2, rfl⟩
theorem res_dIv (bs : List Int) (n : Nat) (hb : Bytes bs) (hn : n ≤ bs.length) : Res Try.prog 29 [.row n (.bytes bs)] (d1mV bs n) := by
  refine bodyV_res mixed ERM2_ok (m := 30) (n := 12) rfl ?_
  rw [tr_dIv]
  unfold d1mV
  refine brT_ok.2 ⟨fun h => ?_, fun h => ?_⟩
  · have h := of_decide_eq_true h
    rw [rdL_of h]
    exact ⟨bnd2000 h, rdK0 hb hn (by omega) (by omega) (by omega) (by omega), rfl⟩
  · have h := of_decide_eq_false h
    rw [rdL_no h]
    exact ⟨rdK0 hb hn (by omega) (by omega) (by omega) (by omega), rfl⟩
theorem TDm_ok : TabOk Try.prog TDm := by
  intro f ds v C h hC
  unfold TDm at h
  split at h
  · unfold pThree at h
    split at h
    · obtain ⟨rfl, rfl⟩ : _ ∧ _ := by simpa using h
      exact res_three _ _ hC.1 hC.2.1
    · cases h
  · cases h
def d2pV (bs : List Int) (n : Nat) : Value := .tuple #[agg2 (d3 bs n 0) (d3 bs n 1), agg2 (d3 bs n 2) (d3 bs n 3)]
theorem res_dMh (bs : List Int) (n : Nat) (hb : Bytes bs) (hn : n ≤ bs.length) : Res Try.prog 30 [.row n (.bytes bs)] (d2pV bs n) := by
  refine bodyV_res mixed (tabE_ok TDm_ok) (m := 30) (n := 12) rfl ?_
  rw [tr_dMh]
  simp only [List.drop_zero]
  exact ⟨hb, hn, rfl⟩
def pRd (g : List Int → Nat → Value) : List DArg → Option (Value × List Prop)
  | [.row n (.bytes bs)] => some (g bs n, [Bytes bs, n ≤ bs.length])
  | _ => none
theorem pRd_ok {f : FuncId} {g : List Int → Nat → Value} (h : ∀ (bs : List Int) (n : Nat), Bytes bs → n ≤ bs.length → Res Try.prog f [.row n (.bytes bs)] (g bs n)) {ds : List DArg} {v : Value} {C : List Prop} (hd : pRd g ds = some (v, C)) (hC : AllP C) : Res Try.prog f ds v := by
  unfold pRd at hd
  split at hd
  · obtain ⟨rfl, rfl⟩ : _ ∧ _ := by simpa using hd
    exact h _ _ hC.1 hC.2.1
  · cases hd
def sqJ (ax ay bx b_y : Int) : Int := bif ptB ax ay && ptB bx b_y then (ax - bx) * (ax - bx) + (ay - b_y) * (ay - b_y) else -1
set_option maxRecDepth 100000 in
theorem tr_sqJ (ax ay bx b_y : Int) : bodyV Try.prog (tabE T1) 30 12 31 [.v (.agg #[iv ax, iv ay]), .v (.agg #[iv bx, iv b_y])] = brT (!(ptB ax ay && ptB bx b_y)) (.fin (.int .i64 (-1)) []) (.fin (.int .i64 (IntKind.i64.wrap (IntKind.i64.wrap (IntKind.i64.wrap (ax - bx) * IntKind.i64.wrap (ax - bx)) + IntKind.i64.wrap (IntKind.i64.wrap (ay - b_y) * IntKind.i64.wrap (ay - b_y))))) []) := by kernel_rfl
theorem res_sqJ (ax ay bx b_y : Int) : Res Try.prog 31 [.v (.agg #[iv ax, iv ay]), .v (.agg #[iv bx, iv b_y])] (iv (sqJ ax ay bx b_y)) := by
  refine bodyV_res mixed (tabE_ok T1_ok) (m := 30) (n := 12) rfl ?_
  rw [tr_sqJ]
  unfold sqJ
  rcases h1 : ptB ax ay with _ | _
  · simp [brT_ok, Tree.ok]
  rcases h2 : ptB bx b_y with _ | _
  · simp [brT_ok, Tree.ok]
  have a1 := ptB_is h1
  have a2 := ptB_is h2
  have m1 := mul_bd (x := ax - bx) (y := ax - bx) 2000 2000 (by omega) (by omega)
  have m2 := mul_bd (x := ay - b_y) (y := ay - b_y) 2000 2000 (by omega) (by omega)
  simp (disch := omega) only [wrI]
  simp [brT_ok, Tree.ok]
def pSqJ : List DArg → Option (Value × List Prop)
  | [.v (.agg ⟨[.int .i64 a, .int .i64 b]⟩), .v (.agg ⟨[.int .i64 c, .int .i64 d]⟩)] => some (iv (sqJ a b c d), [])
  | _ => none
def TLm : Tab := fun f ds => match f with
  | 26 => pRd d2mV ds
  | 29 => pRd d1mV ds
  | 30 => pRd d2pV ds
  | 31 => pSqJ ds
  | 23 => pMh ds
  | 25 => pMh ds
  | _ => TM3 f ds
theorem TLm_ok : TabOk Try.prog TLm := by
  intro f ds v C h hC
  unfold TLm at h
  split at h
  · exact pRd_ok res_dCm h hC
  · exact pRd_ok res_dIv h hC
  · exact pRd_ok res_dMh h hC
  · unfold pSqJ at h
    split at h
    · obtain ⟨rfl, rfl⟩ : _ ∧ _ := by simpa using h
      exact res_sqJ _ _ _ _
    · cases h
  · unfold pMh at h
    split at h
    · obtain ⟨rfl, rfl⟩ : _ ∧ _ := by simpa using h
      exact res_specMh _ _ _ _
    · cases h
  · unfold pMh at h
    split at h
    · obtain ⟨rfl, rfl⟩ : _ ∧ _ := by simpa using h
      exact res_implMh _ _ _ _
    · cases h
  · exact TM3_ok _ _ _ _ h hC
end Go.Proofs.Ytfjcbindeimoiaa
