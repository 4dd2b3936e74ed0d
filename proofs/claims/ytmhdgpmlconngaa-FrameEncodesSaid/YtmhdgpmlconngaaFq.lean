/-
  What number and value of the reference return.
-/
import Derived.Test.YtmhdgpmlconngaaFd
namespace Go.Proofs.Ytmhdgpmlconngaa
open Go.RowKit Go.Proofs.Ytmhdgpmlconngaa.Cr

set_option maxHeartbeats 400000 in
theorem rnumber_any (n : Int) (k : Nat) {K : Int} (hK : (k : Int) = K) (hk : (k : Int) ≤ 8) (hn : -9223372036854775808 ≤ n ∧ n ≤ 9223372036854775807) (w : World) :
    Calls Try.prog 31 #[.int .i64 n, .int .i64 K] w fun e w' => e = .returned (.string (be n k)) ∧ Bl w w' := by
  subst hK
  go_enter Try.func31, Try.ntmps31
  go_wp2
  go_loopw [0, 5, 6] (fun v s i wr => ∃ j : Nat, j ≤ k ∧ i = .int .i64 j ∧ v = .int .i64 (n / pw j) ∧ s = .string (be n j) ∧ Hid (Bl w wr)) (fun _ _ i _ => k - (intOf i).toNat)
  case atStart => exact ⟨0, Nat.zero_le _, rfl, by rw [pw_zero, Int.ediv_one], rfl, Bl.refl _⟩
  case round =>
    obtain ⟨j, hj, rfl, rfl, rfl, hw⟩ := hrel
    by_cases hlt : j < k
    · have HS := Lib.hid (be_succ n j)
      have HD := Lib.hid (div_pw n j)
      have hb := div_in hn j
      have hsz := be_size n j
      generalize be n j = s at *
      generalize n / pw j = v at *
      have kc := fun (W : World) => convert_one (v % 256) W
      have hds : (strOfNums [v % 256]).size = 1 := by rw [strOfNums_size]; rfl
      generalize strOfNums [v % 256] = d at *
      have h0 : 0 ≤ v % 256 := Int.emod_nonneg _ (by decide)
      have h1 : v % 256 < 256 := Int.emod_lt_of_pos _ (by decide)
      go_wp2
      go_roundw
      case rel => exact ⟨j + 1, by omega, by go_num, by rw [← HD.out], by rw [← HS.out], hw.out.alloc _⟩
      case measure => simp [intOf]; omega
    · have e : j = k := by omega
      subst e
      go_wp2
      go_ret
      exact ⟨rfl, hw.out⟩

theorem vl_small {l : List UInt8} (h : l.length ≤ 6) : 0 ≤ vl 0 l ∧ vl 0 l ≤ 281474976710655 := by
  have hb := @vl_bound 0 l
  have hm := pw_mono h
  rw [show pw 6 = 281474976710656 by decide] at hm
  omega
set_option maxHeartbeats 400000 in
theorem value_any (s : ByteArray) (hs : (s.size : Int) ≤ 6) (w : World) :
    Calls Try.prog 61 #[.string s] w fun e w' => e = .returned (.int .i64 (vl 0 s.data.toList)) ∧ w = w' := by
  go_enter Try.func61, Try.ntmps61
  go_wp2
  go_loop [3, 4] (fun v i => ∃ j : Nat, j ≤ s.size ∧ i = .int .i64 j ∧ v = .int .i64 (vl 0 (s.data.toList.take j))) (fun _ i => s.size - (intOf i).toNat)
  case atStart => exact ⟨0, Nat.zero_le _, rfl, rfl⟩
  case round =>
    obtain ⟨j, hj, rfl, rfl⟩ := hrel
    by_cases hlt : j < s.size
    · have HS := Lib.hid (show vl 0 (s.data.toList.take (j + 1)) = 256 * vl 0 (s.data.toList.take j) + s[j].toNat by rw [take_snoc s j hlt, vl_snoc])
      have hb : 0 ≤ vl 0 (s.data.toList.take j) ∧ vl 0 (s.data.toList.take j) ≤ 281474976710655 := vl_small (by rw [List.length_take]; omega)
      have hc : s[j].toNat < 256 := s[j].toNat_lt
      generalize vl 0 (s.data.toList.take j) = v at *
      go_wp2
      go_round
      case rel => exact ⟨j + 1, by omega, by go_num, by rw [HS.out]⟩
      case measure => simp [intOf]; omega
    · have e := Lib.hid (show s.data.toList.take j = s.data.toList from List.take_of_length_le (by simp; omega))
      rw [e.out]
      go_wp2
      go_ret
      exact ⟨rfl, rfl⟩

end Go.Proofs.Ytmhdgpmlconngaa
