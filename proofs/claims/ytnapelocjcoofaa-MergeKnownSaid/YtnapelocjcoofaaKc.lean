/-
  Numbers of 32 bits: what exclusive or, and, shifts give; bitStep's contract.
-/
import Derived.Test.YtnapelocjcoofaaKb
import Derived.Test.YtnapelocjcoofaaWe
import Derived.Laws.BitsAllLaws
namespace Go.Proofs.Ytnapelocjcoofaa
open Go.RowKit Go.Proofs.Ytnapelocjcoofaa.Cr

/-- A number as a value. -/
def u32 (c : Nat) : Value := .int .u32 (c : Int)
theorem ret_u32 {a b : Nat} (h : a = b) : Ending.returned (.int .u32 (a : Int)) = .returned (u32 b) := by rw [h]; rfl
theorem and_one (c : Nat) (hc : c < 4294967296) : bits .and .u32 (c : Int) 1 = ((c % 2 : Nat) : Int) := by
  have h := u32_and_nat c 1 hc (by decide)
  rw [Nat.and_one_is_mod] at h
  exact h
theorem st_odd {c : Nat} (h : c % 2 = 1) : st c = c / 2 ^^^ 3988292384 := by unfold st; rw [if_pos h]
theorem st_ev {c : Nat} (h : c % 2 = 0) : st c = c / 2 := by unfold st; rw [if_neg (by omega), Nat.xor_zero]
theorem xor_poly {c : Nat} (hc : c < 4294967296) (h : c % 2 = 1) : bits .xor .u32 ((c : Int) / 2) 3988292384 = ((st c : Nat) : Int) := by
  rw [st_odd h]
  exact u32_xor_nat (c / 2) 3988292384 (by omega) (by decide)

set_option maxHeartbeats 400000 in
theorem bitStep_any (c : Nat) (hc : c < 4294967296) (w : World) :
    Calls Try.prog 86 #[u32 c] w fun e w' => e = .returned (u32 (st c)) ∧ w = w' := by
  have ha := and_one c hc
  unfold u32
  by_cases h : c % 2 = 1
  · rw [h] at ha
    have hx := xor_poly hc h
    go_enter Try.func86, Try.ntmps86
    go_wp2
    go_ret
    exact ⟨rfl, rfl⟩
  · have h0 : c % 2 = 0 := by omega
    rw [h0] at ha
    have hx := st_ev h0
    go_enter Try.func86, Try.ntmps86
    go_wp2
    go_ret
    rw [hx]
    exact ⟨rfl, rfl⟩

end Go.Proofs.Ytnapelocjcoofaa
