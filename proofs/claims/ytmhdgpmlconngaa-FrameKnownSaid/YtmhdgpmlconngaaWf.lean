/-
  What PutSigned of package wire returns, and Put and PutSigned of its reference.
-/
import Derived.Test.YtmhdgpmlconngaaWe
namespace Go.Proofs.Ytmhdgpmlconngaa
open Go.RowKit

/-- What PutSigned gives. -/
def psE (n k : Int) : Int := if k < 1 ∨ 8 < k then 2 else if n < -(pw k.toNat / 2) ∨ pw k.toNat / 2 ≤ n then 6 else 0
def psS (s : ByteArray) (n k : Int) : ByteArray := if psE n k = 0 then s ++ be n k.toNat else noS
theorem psE_arg {n k : Int} (h : k < 1 ∨ 8 < k) : psE n k = 2 := by unfold psE; rw [if_pos h]
theorem psE_big {n k : Int} (h : ¬ (k < 1 ∨ 8 < k)) (h2 : n < -(pw k.toNat / 2) ∨ pw k.toNat / 2 ≤ n) : psE n k = 6 := by unfold psE; rw [if_neg h, if_pos h2]
theorem psE_ok {n k : Int} (h : ¬ (k < 1 ∨ 8 < k)) (h2 : ¬ (n < -(pw k.toNat / 2) ∨ pw k.toNat / 2 ≤ n)) : psE n k = 0 := by unfold psE; rw [if_neg h, if_neg h2]
theorem psS_ok {s : ByteArray} {n k : Int} (h : psE n k = 0) : psS s n k = s ++ be n k.toNat := by unfold psS; rw [if_pos h]
theorem psS_no {s : ByteArray} {n k : Int} (h : psE n k ≠ 0) : psS s n k = noS := by unfold psS; rw [if_neg h]
def psR (s : ByteArray) (n k : Int) : Ending := .returned (.tuple #[.string (psS s n k), .int .i64 (psE n k)])
theorem psR_arg {s : ByteArray} {n k : Int} (h : k < 1 ∨ 8 < k) : Ending.returned (.tuple #[.string ⟨#[]⟩, .int .i64 2]) = psR s n k := by
  unfold psR; rw [psS_no (by rw [psE_arg h]; decide), psE_arg h]; rfl
theorem psR_big {s : ByteArray} {n k : Int} (h : ¬ (k < 1 ∨ 8 < k)) (h2 : n < -(pw k.toNat / 2) ∨ pw k.toNat / 2 ≤ n) : Ending.returned (.tuple #[.string ⟨#[]⟩, .int .i64 6]) = psR s n k := by
  unfold psR; rw [psS_no (by rw [psE_big h h2]; decide), psE_big h h2]; rfl
theorem psR_ok {s : ByteArray} {n : Int} {k : Nat} (h : ¬ ((k : Int) < 1 ∨ 8 < (k : Int))) (h2 : ¬ (n < -(pw k / 2) ∨ pw k / 2 ≤ n)) : Ending.returned (.tuple #[.string (s ++ be n k), .int .i64 0]) = psR s n k := by
  have e : psE n k = 0 := psE_ok h (by rw [Int.toNat_natCast]; exact h2)
  unfold psR; rw [psS_ok e, e, Int.toNat_natCast]
theorem psR_ap {s : ByteArray} {n : Int} {k : Nat} (h1 : 1 ≤ k) (h8 : k ≤ 8) : Ending.returned (.tuple #[.string (apS (loL 1 k) (hiL 1 k) n s k), .int .i64 (apE (loL 1 k) (hiL 1 k) n)]) = psR s n k := by
  unfold psR apS apE loL hiL
  rw [if_neg (show ¬ (1 : Int) = 0 by decide), if_neg (show ¬ (1 : Int) = 0 by decide), Int.toNat_natCast]
  by_cases h : n < -(pw k / 2) ∨ pw k / 2 ≤ n
  · have e := psE_big (n := n) (k := (k : Int)) (by omega) (by rw [Int.toNat_natCast]; exact h)
    rw [if_neg (by omega), if_neg (by omega), psS_no (by rw [e]; decide), e]
  · have e := psE_ok (n := n) (k := (k : Int)) (by omega) (by rw [Int.toNat_natCast]; exact h)
    rw [if_pos (by omega), if_pos (by omega), psS_ok e, e, Int.toNat_natCast]

theorem puR_big {s : ByteArray} {n : Int} {k : Nat} (h : ¬ (n < 0 ∨ (k : Int) < 1 ∨ 7 < (k : Int))) (h2 : pw k ≤ n) : Ending.returned (.tuple #[.string ⟨#[]⟩, .int .i64 6]) = puR s n k := by
  have e : puE n k = 6 := puE_big h (by rw [Int.toNat_natCast]; exact h2)
  unfold puR; rw [puS_no (by rw [e]; decide), e]; rfl
theorem puR_ok {s : ByteArray} {n : Int} {k : Nat} (h : ¬ (n < 0 ∨ (k : Int) < 1 ∨ 7 < (k : Int))) (h2 : ¬ pw k ≤ n) : Ending.returned (.tuple #[.string (s ++ be n k), .int .i64 0]) = puR s n k := by
  have e : puE n k = 0 := puE_ok h (by rw [Int.toNat_natCast]; exact h2)
  unfold puR; rw [puS_ok e, e, Int.toNat_natCast]

theorem pw_half (k : Nat) (h1 : 1 ≤ k) (h7 : k ≤ 7) : ∃ h : Int, pw k = 2 * h ∧ 1 ≤ h ∧ h ≤ 36028797018963968 := by
  match k, h1, h7 with
  | 1, _, _ => exact ⟨128, by decide, by decide, by decide⟩
  | 2, _, _ => exact ⟨32768, by decide, by decide, by decide⟩
  | 3, _, _ => exact ⟨8388608, by decide, by decide, by decide⟩
  | 4, _, _ => exact ⟨2147483648, by decide, by decide, by decide⟩
  | 5, _, _ => exact ⟨549755813888, by decide, by decide, by decide⟩
  | 6, _, _ => exact ⟨140737488355328, by decide, by decide, by decide⟩
  | 7, _, _ => exact ⟨36028797018963968, by decide, by decide, by decide⟩

end Go.Proofs.Ytmhdgpmlconngaa
