/-
  What Clock of a draft and time of the laws return.
-/
import Derived.Test.YtaekofoonekkkaaTf
namespace Go.Proofs.Ytaekofoonekkkaa
open Go.RowKit

theorem cell_keep {w w' : World} {b i : Nat} {v : Value} (g : Bl w w') (h : w.cell? ⟨b, i, none⟩ = some v) : w'.cell? ⟨b, i, none⟩ = some v := (g.cell (p := ⟨b, i, none⟩) (cell_lt h)).trans h

/-- A draft's clock. -/
def dO (O : Int) : Int := O.tmod 1099511627777
def dP (P : Int) : Int := P.tmod 200001
theorem tmod_bd (x : Int) (m : Int) (hm : 0 < m) : -m < x.tmod m ∧ x.tmod m < m := by
  rcases Int.lt_or_le x 0 with h | h
  · have e : x = -(-x) := by omega
    rw [e, Int.neg_tmod, Int.tmod_eq_emod_of_nonneg (by omega)]
    have := Int.emod_nonneg (-x) (show m ≠ 0 by omega)
    have := Int.emod_lt_of_pos (-x) hm
    omega
  · rw [Int.tmod_eq_emod_of_nonneg h]
    have := Int.emod_nonneg x (show m ≠ 0 by omega)
    have := Int.emod_lt_of_pos x hm
    omega
theorem dO_bd (O : Int) : -1099511627776 ≤ dO O ∧ dO O ≤ 1099511627776 := by have := tmod_bd O 1099511627777 (by omega); unfold dO; omega
theorem dP_bd (P : Int) : -200000 ≤ dP P ∧ dP P ≤ 200000 := by have := tmod_bd P 200001 (by omega); unfold dP; omega
theorem d_ok (O P : Int) : ckB (dO O) (dP P) = true := ckB_iff.2 ⟨dO_bd O, dP_bd P⟩

set_option maxHeartbeats 1000000 in
theorem dclock_any (O P : Int) (w : World) :
    Calls Try.prog 11 #[.agg #[.int .i64 O, .int .i32 P]] w fun e w' => e = .returned (.agg #[.int .i64 (dO O), .int .i64 (dP P)]) ∧ Bl w w' := by
  obtain ⟨a, ha, a1, a2⟩ : ∃ a, O.tmod 1099511627777 = a ∧ -1099511627776 ≤ a ∧ a ≤ 1099511627776 := ⟨_, rfl, dO_bd O⟩
  obtain ⟨b, hb, b1, b2⟩ : ∃ b, P.tmod 200001 = b ∧ -200000 ≤ b ∧ b ≤ 200000 := ⟨_, rfl, dP_bd P⟩
  have q0 : IntKind.i64.wrap b = b := IntWalk.i64_in _ (by omega)
  rw [show dO O = a from ha, show dP P = b from hb]
  go_enter Try.func11, Try.ntmps11
  go_wp2_with fail
  refine bodyPost_ret (v := .agg #[.int .i64 a, .int .i64 b]) (by simp [results, Try.results11, go_sem]) rfl ⟨rfl, ?_⟩
  exact ((Bl.refl w).alloc _).alloc _

/-- A valid time. -/
def tm (t : Int) : Int := (IntKind.u64.wrap t) % 1099511627777
theorem tm_bd (t : Int) : 0 ≤ tm t ∧ tm t ≤ 1099511627776 := by unfold tm; omega
set_option maxHeartbeats 1000000 in
theorem time_any (t : Int) (w : World) :
    Calls Try.prog 24 #[.int .i64 t] w fun e w' => e = .returned (.int .i64 (tm t)) ∧ w = w' := by
  obtain ⟨a, ha, a1, a2⟩ : ∃ a, tm t = a ∧ 0 ≤ a ∧ a ≤ 1099511627776 := ⟨_, rfl, tm_bd t⟩
  rw [ha]
  unfold tm at ha
  have h0 : 0 ≤ IntKind.u64.wrap t := by rw [IntKind.wrap_u64]; omega
  have q1 : (IntKind.u64.wrap t).tmod 1099511627777 = a := by rw [Int.tmod_eq_emod_of_nonneg h0]; exact ha
  have q0 : IntKind.i64.wrap a = a := IntWalk.i64_in _ (by omega)
  clear ha h0
  go_enter Try.func24, Try.ntmps24
  go_wp2_with fail
  go_ret
  exact ⟨rfl, rfl⟩

end Go.Proofs.Ytaekofoonekkkaa
