/-
  What decoded, limits and its closure of package wire return; power of its reference.
-/
import Derived.Test.YtmhdgpmlconngaaWb
namespace Go.Proofs.Ytmhdgpmlconngaa
open Go.RowKit

theorem vl_snoc (a : Int) (l : List UInt8) (c : UInt8) : vl a (l ++ [c]) = 256 * vl a l + c.toNat := by rw [vl_append]; rfl
theorem take_snoc (s : ByteArray) (k : Nat) (h : k < s.size) : s.data.toList.take (k + 1) = s.data.toList.take k ++ [s[k]] := by
  rw [List.take_succ_eq_append_getElem (by simpa using h)]; rfl
/-- Nothing is lost on the way. -/
def fits (a : Int) (l : List UInt8) : Prop := ∀ k, k < l.length → -36028797018963968 ≤ vl a (l.take k) ∧ vl a (l.take k) < 36028797018963968

set_option maxHeartbeats 400000 in
theorem decoded_any (a : Int) (s : ByteArray) (hs : (s.size : Int) ≤ 8000) (hf : fits a s.data.toList) (w : World) :
    Calls Try.prog 70 #[.int .i64 a, .string s] w fun e w' => e = .returned (.int .i64 (vl a s.data.toList)) ∧ w = w' := by
  have HF := Lib.hid hf; clear hf
  go_enter Try.func70, Try.ntmps70
  go_wp2
  go_loop [5, 10] (fun n i => ∃ k : Nat, k ≤ s.size ∧ i = .int .i64 k ∧ n = .int .i64 (vl a (s.data.toList.take k))) (fun _ i => s.size - (intOf i).toNat)
  case atStart => exact ⟨0, Nat.zero_le _, rfl, rfl⟩
  case round =>
    obtain ⟨k, hk, rfl, rfl⟩ := hrel
    by_cases hlt : k < s.size
    · have hb := HF.out k (by simpa using hlt)
      have HS := Lib.hid (show vl a (s.data.toList.take (k + 1)) = 256 * vl a (s.data.toList.take k) + s[k].toNat by rw [take_snoc s k hlt, vl_snoc])
      have hc : (s[k].toNat : Int) < 256 := by have := s[k].toNat_lt; omega
      generalize vl a (s.data.toList.take k) = v at *
      have ho := or_byte (n := v) (c := (s[k].toNat : Int)) (by omega) hc hb
      have hw : IntKind.i64.wrap (v * 256) = v * 256 := IntWalk.i64_in _ (by omega)
      go_wp2
      go_round
      case rel => exact ⟨k + 1, by omega, by go_num, by rw [HS.out]⟩
      case measure => simp [intOf]; omega
    · go_wp2
      go_ret
      exact ⟨ret_int (by rw [List.take_of_length_le (by simp; omega)]), rfl⟩

theorem limits_any (b : Int) (w : World) :
    Calls Try.prog 76 #[.int .i64 b] w fun e w' => e = .returned (.func (.func 81) #[] #[.pointer (some ⟨w.heap.size, 0, none⟩)]) ∧ w' = w.alloc (.cells #[.int .i64 b] 3) := by
  go_enter Try.func76, Try.ntmps76
  go_wp2
  go_ret
  exact ⟨rfl, rfl⟩

/-- What the closure gives. -/
def loL (b k : Int) : Int := if b = 0 then 0 else -(pw k.toNat / 2)
def hiL (b k : Int) : Int := if b = 0 then pw k.toNat - 1 else pw k.toNat / 2 - 1
set_option maxHeartbeats 400000 in
theorem limit0_any (k : Int) (h1 : 1 ≤ k) (h2 : k ≤ 7) (a : Addr) (w : World) (hc : w.cell? a = some (.int .i64 0)) :
    Calls Try.prog 81 #[.int .i64 k, .pointer (some a)] w fun e w' => e = .returned (.tuple #[.int .i64 (loL 0 k), .int .i64 (hiL 0 k)]) ∧ w = w' := by
  have hk : k = 1 ∨ k = 2 ∨ k = 3 ∨ k = 4 ∨ k = 5 ∨ k = 6 ∨ k = 7 := by omega
  rcases hk with rfl | rfl | rfl | rfl | rfl | rfl | rfl
  all_goals
    go_enter Try.func81, Try.ntmps81
    go_wp2
    go_ret2
    exact ⟨by kernel_rfl, rfl⟩
set_option maxHeartbeats 400000 in
theorem limit1_any (k : Int) (h1 : 1 ≤ k) (h2 : k ≤ 8) (a : Addr) (w : World) (hc : w.cell? a = some (.int .i64 1)) :
    Calls Try.prog 81 #[.int .i64 k, .pointer (some a)] w fun e w' => e = .returned (.tuple #[.int .i64 (loL 1 k), .int .i64 (hiL 1 k)]) ∧ w = w' := by
  have hk : k = 1 ∨ k = 2 ∨ k = 3 ∨ k = 4 ∨ k = 5 ∨ k = 6 ∨ k = 7 ∨ k = 8 := by omega
  rcases hk with rfl | rfl | rfl | rfl | rfl | rfl | rfl | rfl
  all_goals
    go_enter Try.func81, Try.ntmps81
    go_wp2
    go_ret2
    exact ⟨by kernel_rfl, rfl⟩

end Go.Proofs.Ytmhdgpmlconngaa
