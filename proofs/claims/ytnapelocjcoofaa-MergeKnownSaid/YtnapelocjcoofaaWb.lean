/-
  What Field of package wire and of its reference return; sign, decoded, limits and its closure.
-/
import Derived.Test.YtnapelocjcoofaaWa
namespace Go.Proofs.Ytnapelocjcoofaa
open Go.RowKit

/-- The empty string. -/
def noS : ByteArray := ⟨#[]⟩
theorem noS_list : noS.data.toList = [] := rfl

/-- Field's error. -/
def fdE (s : ByteArray) (a k : Int) : Int := if a < 0 ∨ k < 0 then 2 else if (s.size : Int) < a + k then 5 else 0
/-- Field's string. -/
def fdS (s : ByteArray) (a k : Int) : ByteArray := if fdE s a k = 0 then s.extract a.toNat (a + k).toNat else noS
theorem fdE_arg {s : ByteArray} {a k : Int} (h : a < 0 ∨ k < 0) : fdE s a k = 2 := by unfold fdE; rw [if_pos h]
theorem fdE_form {s : ByteArray} {a k : Int} (h : ¬ (a < 0 ∨ k < 0)) (h2 : (s.size : Int) < a + k) : fdE s a k = 5 := by unfold fdE; rw [if_neg h, if_pos h2]
theorem fdE_ok {s : ByteArray} {a k : Int} (h : ¬ (a < 0 ∨ k < 0)) (h2 : ¬ (s.size : Int) < a + k) : fdE s a k = 0 := by unfold fdE; rw [if_neg h, if_neg h2]
theorem fdS_ok {s : ByteArray} {a k : Int} (h : ¬ (a < 0 ∨ k < 0)) (h2 : ¬ (s.size : Int) < a + k) : fdS s a k = s.extract a.toNat (a + k).toNat := by unfold fdS; rw [if_pos (fdE_ok h h2)]
theorem fdS_no {s : ByteArray} {a k : Int} (h : fdE s a k ≠ 0) : fdS s a k = noS := by unfold fdS; rw [if_neg h]
theorem fd_arg {s : ByteArray} {a k : Int} (h : a < 0 ∨ k < 0) : Ending.returned (.tuple #[.string ⟨#[]⟩, .int .i64 2]) = .returned (.tuple #[.string (fdS s a k), .int .i64 (fdE s a k)]) := by
  rw [fdS_no (by rw [fdE_arg h]; decide), fdE_arg h]; rfl
theorem fd_form {s : ByteArray} {a k : Int} (h : ¬ (a < 0 ∨ k < 0)) (h2 : (s.size : Int) < a + k) : Ending.returned (.tuple #[.string ⟨#[]⟩, .int .i64 5]) = .returned (.tuple #[.string (fdS s a k), .int .i64 (fdE s a k)]) := by
  rw [fdS_no (by rw [fdE_form h h2]; decide), fdE_form h h2]; rfl
theorem fd_ok {s : ByteArray} {a k : Int} (h : ¬ (a < 0 ∨ k < 0)) (h2 : ¬ (s.size : Int) < a + k) : Ending.returned (.tuple #[.string (s.extract a.toNat (a + k).toNat), .int .i64 0]) = .returned (.tuple #[.string (fdS s a k), .int .i64 (fdE s a k)]) := by
  rw [fdS_ok h h2, fdE_ok h h2]

set_option maxHeartbeats 400000 in
theorem field_any (s : ByteArray) (a k : Int) (hs : (s.size : Int) ≤ 8000) (ha : a ≤ 9223372036854775807) (hk : k ≤ 9223372036854775807) (w : World) :
    Calls Try.prog 67 #[.string s, .int .i64 a, .int .i64 k] w fun e w' => e = .returned (.tuple #[.string (fdS s a k), .int .i64 (fdE s a k)]) ∧ w = w' := by
  by_cases h1 : a < 0
  · have E := Lib.hid (fd_arg (s := s) (a := a) (k := k) (.inl h1))
    go_enter Try.func67, Try.ntmps67
    go_wp2
    go_ret2
    exact ⟨E.out, rfl⟩
  · by_cases h2 : k < 0
    · have E := Lib.hid (fd_arg (s := s) (a := a) (k := k) (.inr h2))
      go_enter Try.func67, Try.ntmps67
      go_wp2
      go_ret2
      exact ⟨E.out, rfl⟩
    · by_cases h3 : (s.size : Int) - k < a
      · have E := Lib.hid (fd_form (s := s) (a := a) (k := k) (by omega) (by omega))
        go_enter Try.func67, Try.ntmps67
        go_wp2
        go_ret2
        exact ⟨E.out, rfl⟩
      · have E := Lib.hid (fd_ok (s := s) (a := a) (k := k) (by omega) (by omega))
        go_enter Try.func67, Try.ntmps67
        go_wp2
        go_ret2
        exact ⟨E.out, rfl⟩

/-- The integer before a two's complement encoding. -/
def sg : List UInt8 → Int
  | [] => 0
  | c :: _ => if 128 ≤ c.toNat then -1 else 0
theorem sg_less (l : List UInt8) : Op.bytesLess l [128] = decide (sg l = 0) := by
  cases l with
  | nil => rfl
  | cons c r =>
    have e0 : sg (c :: r) = if 128 ≤ c.toNat then -1 else 0 := rfl
    rw [e0]
    unfold Op.bytesLess
    by_cases h : 128 ≤ c.toNat
    · rw [if_pos h]
      have h1 : ¬ c < 128 := by rw [UInt8.lt_iff_toNat_lt]; simpa using h
      have h2 : Op.bytesLess r [] = false := by cases r <;> rfl
      simp [h1, h2]
    · rw [if_neg h]
      have h1 : c < 128 := by rw [UInt8.lt_iff_toNat_lt]; simpa using h
      simp [h1]
theorem sg_or (l : List UInt8) : sg l = 0 ∨ sg l = -1 := by
  cases l with
  | nil => exact .inl rfl
  | cons c r => unfold sg; by_cases h : 128 ≤ c.toNat <;> simp [h]

end Go.Proofs.Ytnapelocjcoofaa
