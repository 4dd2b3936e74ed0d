/-
  What near returns: an integer that fits 64 bits, whatever its arguments.
-/
import Derived.Test.YtcfdinfnahkanaaDoorNp
import Derived.Test.YtcfdinfnahkanaaDoorNs
namespace Go.Proofs.YtcfdinfnahkanaaDoor
open Go.RowKit

def fits (n : Int) : Prop := -9223372036854775808 ≤ n ∧ n ≤ 9223372036854775807
theorem fits_of {n : Int} (h : (Lit.int .i64 n).wf = true) : fits n := bounds_i64 h

def unat (n : Int) : Nat := (n % 18446744073709551616).toNat
def nearV (n u : Int) : Int :=
  if u % 6 = 0 then n else if u % 6 = 1 then ((unat n % 9 : Nat) : Int) - 4 else if u % 6 = 2 then 1125899906842624 + (((unat n % 9 : Nat) : Int) - 4)
  else if u % 6 = 3 then -1125899906842624 + (((unat n % 9 : Nat) : Int) - 4) else if u % 6 = 4 then 33554432 + (((unat n % 9 : Nat) : Int) - 4) else ((unat n % 2251799813685248 : Nat) : Int)
theorem nearV_fits (n u : Int) (h : fits n) : fits (nearV n u) := by
  unfold nearV fits at *
  omega

set_option maxHeartbeats 1000000 in
theorem near_any (n u : Int) (w : World) (_hn : fits n) (u0 : 0 ≤ u) (u1 : u ≤ 255) :
    Calls Tryd.prog 11 #[.int .i64 n, .int .u8 u] w fun e w' => e = .returned (.int .i64 (nearV n u)) ∧ w' = w := by
  obtain ⟨N, hN⟩ : ∃ N, unat n = N := ⟨_, rfl⟩
  have hw : IntKind.u64.wrap n = (N : Int) := by rw [IntKind.wrap_u64, ← hN]; unfold unat; omega
  have bN : N < 18446744073709551616 := by rw [← hN]; unfold unat; omega
  have r6 : 0 ≤ u % 6 ∧ u % 6 < 6 := by omega
  have hv : nearV n u = if u % 6 = 0 then n else if u % 6 = 1 then ((N % 9 : Nat) : Int) - 4 else if u % 6 = 2 then 1125899906842624 + (((N % 9 : Nat) : Int) - 4)
    else if u % 6 = 3 then -1125899906842624 + (((N % 9 : Nat) : Int) - 4) else if u % 6 = 4 then 33554432 + (((N % 9 : Nat) : Int) - 4) else ((N % 2251799813685248 : Nat) : Int) := by unfold nearV; rw [hN]
  have HV := Lib.hid hv; clear hv hN
  obtain ⟨s, hs⟩ : ∃ s, u % 6 = s := ⟨_, rfl⟩
  rw [hs] at r6
  obtain ⟨r0, r5⟩ := r6
  go_enter Tryd.func11, Tryd.ntmps11
  go_wp2
  all_goals go_ret
  all_goals
    refine ⟨ret_int ?_, rfl⟩
    rw [HV.out, hs]
    clear HV
    simp only [beq_iff_eq, beq_eq_false_iff_ne, ne_eq] at *
    (repeat (first | rw [if_pos (by assumption)] | rw [if_neg (by assumption)])) <;> omega

end Go.Proofs.YtcfdinfnahkanaaDoor
