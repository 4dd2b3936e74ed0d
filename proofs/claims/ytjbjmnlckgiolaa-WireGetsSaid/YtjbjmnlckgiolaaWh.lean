/-
  What Get and GetSigned of the reference of package wire return.
-/
import Derived.Test.YtjbjmnlckgiolaaWg
namespace Go.Proofs.Ytjbjmnlckgiolaa
open Go.RowKit

set_option maxRecDepth 20000 in
set_option maxHeartbeats 400000 in
theorem rget_any (s : ByteArray) (a k : Int) (hs : (s.size : Int) ≤ 1000) (w : World) :
    Calls Try.prog 14 #[.string s, .int .i64 a, .int .i64 k] w fun e w' => e = gtR s a k ∧ w = w' := by
  by_cases c1 : a < 0
  · have E := Lib.hid (gtR_arg (s := s) (a := a) (k := k) (.inl c1))
    go_enter Try.func14, Try.ntmps14
    go_wp2
    go_ret2
    exact ⟨E.out, rfl⟩
  · by_cases c2 : k < 1
    · have E := Lib.hid (gtR_arg (s := s) (a := a) (k := k) (.inr (.inl c2)))
      go_enter Try.func14, Try.ntmps14
      go_wp2
      go_ret2
      exact ⟨E.out, rfl⟩
    · by_cases c3 : 7 < k
      · have E := Lib.hid (gtR_arg (s := s) (a := a) (k := k) (.inr (.inr c3)))
        go_enter Try.func14, Try.ntmps14
        go_wp2
        go_ret2
        exact ⟨E.out, rfl⟩
      · obtain ⟨p, rfl⟩ := Int.eq_ofNat_of_zero_le (show 0 ≤ a by omega)
        obtain ⟨m, rfl⟩ := Int.eq_ofNat_of_zero_le (show 0 ≤ k by omega)
        have KH := Lib.hid (fun w => has_any s p m hs (by omega) (by omega) w)
        by_cases c4 : (s.size : Int) < (p : Int) + (m : Int)
        · have E := Lib.hid (gtR_form (s := s) (a := p) (k := m) (by omega) c4)
          rw [decide_eq_false (by omega)] at KH
          go_enter Try.func14, Try.ntmps14
          go_wp2_with fail
          refine (KH.out _).mono ?_; rintro e w1 ⟨rfl, rfl⟩
          go_wp2_with fail
          go_ret2
          exact ⟨E.out, rfl⟩
        · have E := Lib.hid (gtR_ok (s := s) (a := p) (k := m) (by omega) (by omega))
          rw [decide_eq_true (by omega)] at KH
          have HF := Lib.hid (fits_u (show (sub s p m).length ≤ 7 by rw [sub_length (by omega)]; omega))
          go_enter Try.func14, Try.ntmps14
          go_wp2_with fail
          refine (KH.out _).mono ?_; rintro e w1 ⟨rfl, rfl⟩
          go_wp2_with fail
          go_loop [8, 9] (fun n i => ∃ j : Nat, j ≤ m ∧ i = .int .i64 j ∧ n = .int .i64 (vl 0 (sub s p j))) (fun _ i => m - (intOf i).toNat)
          case atStart => exact ⟨0, Nat.zero_le _, rfl, rfl⟩
          case round =>
            obtain ⟨j, hj, rfl, rfl⟩ := hrel
            by_cases hlt : j < m
            · have hb := HF.out j (by rw [sub_length (by omega)]; exact hlt)
              rw [sub_take (by omega)] at hb
              have hix : p + j < s.size := by omega
              have HS := Lib.hid (show vl 0 (sub s p (j + 1)) = 256 * vl 0 (sub s p j) + s[p + j].toNat by rw [sub_snoc hix, vl_snoc])
              have hc : (s[p + j].toNat : Int) < 256 := by have := s[p + j].toNat_lt; omega
              generalize vl 0 (sub s p j) = v at *
              go_wp2
              go_round
              case rel => exact ⟨j + 1, by omega, by go_num, by rw [HS.out]⟩
              case measure => simp [intOf]; omega
            · obtain rfl : j = m := by omega
              go_wp2
              go_ret2
              exact ⟨E.out, rfl⟩

set_option maxRecDepth 20000 in
set_option maxHeartbeats 400000 in
theorem rgetSigned_any (s : ByteArray) (a k : Int) (hs : (s.size : Int) ≤ 1000) (w : World) :
    Calls Try.prog 16 #[.string s, .int .i64 a, .int .i64 k] w fun e w' => e = gsR s a k ∧ w = w' := by
  by_cases c1 : a < 0
  · have E := Lib.hid (gsR_arg (s := s) (a := a) (k := k) (.inl c1))
    go_enter Try.func16, Try.ntmps16
    go_wp2
    go_ret2
    exact ⟨E.out, rfl⟩
  · by_cases c2 : k < 1
    · have E := Lib.hid (gsR_arg (s := s) (a := a) (k := k) (.inr (.inl c2)))
      go_enter Try.func16, Try.ntmps16
      go_wp2
      go_ret2
      exact ⟨E.out, rfl⟩
    · by_cases c3 : 8 < k
      · have E := Lib.hid (gsR_arg (s := s) (a := a) (k := k) (.inr (.inr c3)))
        go_enter Try.func16, Try.ntmps16
        go_wp2
        go_ret2
        exact ⟨E.out, rfl⟩
      · obtain ⟨p, rfl⟩ := Int.eq_ofNat_of_zero_le (show 0 ≤ a by omega)
        obtain ⟨m, rfl⟩ := Int.eq_ofNat_of_zero_le (show 0 ≤ k by omega)
        have KH := Lib.hid (fun w => has_any s p m hs (by omega) (by omega) w)
        by_cases c4 : (s.size : Int) < (p : Int) + (m : Int)
        · have E := Lib.hid (gsR_form (s := s) (a := p) (k := m) (by omega) c4)
          rw [decide_eq_false (by omega)] at KH
          go_enter Try.func16, Try.ntmps16
          go_wp2_with fail
          refine (KH.out _).mono ?_; rintro e w1 ⟨rfl, rfl⟩
          go_wp2_with fail
          go_ret2
          exact ⟨E.out, rfl⟩
        · have E := Lib.hid (gsR_ok (s := s) (a := p) (k := m) (by omega) (by omega))
          rw [decide_eq_true (by omega)] at KH
          have HF := Lib.hid (fits_s (show (sub s p m).length ≤ 8 by rw [sub_length (by omega)]; omega))
          have hp : p < s.size := by omega
          obtain ⟨z, hz⟩ : ∃ z, sg (sub s p m) = z := ⟨_, rfl⟩
          have e1 : sub s p 1 = [s[p]] := by have := sub_snoc (s := s) (a := p) (i := 0) (by omega); simpa [sub] using this
          have ez : z = if 128 ≤ s[p].toNat then -1 else 0 := by
            have h0 : (sub s p m).take 1 = [s[p]] := by rw [sub_take (by omega), e1]
            rw [← hz]
            cases hq : sub s p m with
            | nil => rw [hq] at h0; simp at h0
            | cons c r => rw [hq] at h0; simp at h0; rw [h0]; rfl
          have HV := Lib.hid (show vl z (sub s p 1) = 256 * z + s[p].toNat by rw [e1]; rfl)
          rw [hz] at HF E
          clear hz
          have hcp : (s[p].toNat : Int) < 256 := by have := s[p].toNat_lt; omega
          by_cases h8 : 128 ≤ (s[p].toNat : Int)
          · rw [if_pos (by omega)] at ez
            subst ez
            clear e1
            go_enter Try.func16, Try.ntmps16
            go_wp2_with fail
            refine (KH.out _).mono ?_; rintro e w1 ⟨rfl, rfl⟩
            go_wp2_with fail
            go_loop [8, 9] (fun n i => ∃ j : Nat, 1 ≤ j ∧ j ≤ m ∧ i = .int .i64 j ∧ n = .int .i64 (vl (-1) (sub s p j))) (fun _ i => m - (intOf i).toNat)
            case atStart => exact ⟨1, by omega, by omega, rfl, by rw [HV.out]; go_num⟩
            case round => 
              obtain ⟨j, hj1, hj, rfl, rfl⟩ := hrel
              by_cases hlt : j < m
              · have hb := HF.out j (by rw [sub_length (by omega)]; exact hlt)
                rw [sub_take (by omega)] at hb
                have hix : p + j < s.size := by omega
                have HS := Lib.hid (show vl (-1) (sub s p (j + 1)) = 256 * vl (-1) (sub s p j) + s[p + j].toNat by rw [sub_snoc hix, vl_snoc])
                have hc : (s[p + j].toNat : Int) < 256 := by have := s[p + j].toNat_lt; omega
                generalize vl (-1) (sub s p j) = v at *
                go_wp2
                go_round
                case rel => exact ⟨j + 1, by omega, by omega, by go_num, by rw [HS.out]⟩
                case measure => simp [intOf]; omega
              · obtain rfl : j = m := by omega
                go_wp2
                go_ret2
                exact ⟨E.out, rfl⟩
          · rw [if_neg (by omega)] at ez
            subst ez
            clear e1
            go_enter Try.func16, Try.ntmps16
            go_wp2_with fail
            refine (KH.out _).mono ?_; rintro e w1 ⟨rfl, rfl⟩
            go_wp2_with fail
            go_loop [8, 9] (fun n i => ∃ j : Nat, 1 ≤ j ∧ j ≤ m ∧ i = .int .i64 j ∧ n = .int .i64 (vl 0 (sub s p j))) (fun _ i => m - (intOf i).toNat)
            case atStart => exact ⟨1, by omega, by omega, rfl, by rw [HV.out]; go_num⟩
            case round => 
              obtain ⟨j, hj1, hj, rfl, rfl⟩ := hrel
              by_cases hlt : j < m
              · have hb := HF.out j (by rw [sub_length (by omega)]; exact hlt)
                rw [sub_take (by omega)] at hb
                have hix : p + j < s.size := by omega
                have HS := Lib.hid (show vl 0 (sub s p (j + 1)) = 256 * vl 0 (sub s p j) + s[p + j].toNat by rw [sub_snoc hix, vl_snoc])
                have hc : (s[p + j].toNat : Int) < 256 := by have := s[p + j].toNat_lt; omega
                generalize vl 0 (sub s p j) = v at *
                go_wp2
                go_round
                case rel => exact ⟨j + 1, by omega, by omega, by go_num, by rw [HS.out]⟩
                case measure => simp [intOf]; omega
              · obtain rfl : j = m := by omega
                go_wp2
                go_ret2
                exact ⟨E.out, rfl⟩

end Go.Proofs.Ytjbjmnlckgiolaa
