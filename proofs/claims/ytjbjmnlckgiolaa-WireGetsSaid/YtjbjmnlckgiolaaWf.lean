/-
  What PutSigned of package wire returns, and Put and PutSigned of its reference.
-/
import Derived.Test.YtjbjmnlckgiolaaWe
namespace Go.Proofs.Ytjbjmnlckgiolaa
open Go.RowKit

/-- What PutSigned gives. -/
def psE (n k : Int) : Int := if k < 1 ∨ 8 < k then 2 else if n < -(pw k.toNat / 2) ∨ pw k.toNat / 2 ≤ n then 6 else 0
def psS (s : ByteArray) (n k : Int) : ByteArray := if psE n k = 0 then s ++ be n k.toNat else noS
theorem psE_arg {n k : Int} (h : k < 1 ∨ 8 < k) : psE n k = 2 := by unfold psE; rw [if_pos h]
theorem psE_big {n k : Int} (h : ¬ (k < 1 ∨ 8 < k)) (h2 : n < -(pw k.toNat / 2) ∨ pw k.toNat / 2 ≤ n) : psE n k = 6 := by unfold psE; rw [if_neg h, if_pos h2]
theorem psE_ok {n k : Int} (h : ¬ (k < 1 ∨ 8 < k)) (h2 : ¬ (n < -(pw k.toNat / 2) ∨ pw k.toNat / 2 ≤ n)) : psE n k = 0 := by unfold psE; rw [if_neg h, if_neg h2]
theorem psS_ok {s : ByteArray} {n k : Int} (h : psE n k = 0) : psS s n k = s ++ be n k.toNat := by unfold psS; rw [if_pos h]
theorem psS_no {s : ByteArray} {n k : Int} (h : psE n k ≠ 0) : psS s n k = noS := by unfold psS; rw [if_neg h]
def psR (s : ByteArray) (n k : Int) : Ending := .returned (.tuple #[.string (psS s n k), .int .i64 (psE n k)])
theorem psR_arg {s : ByteArray} {n k : Int} (h : k < 1 ∨ 8 < k) : Ending.returned (.tuple #[.string ⟨#[]⟩, .int .i64 2]) = psR s n k := by
  unfold psR; rw [psS_no (by rw [psE_arg h]; decide), psE_arg h]; rfl
theorem psR_big {s : ByteArray} {n k : Int} (h : ¬ (k < 1 ∨ 8 < k)) (h2 : n < -(pw k.toNat / 2) ∨ pw k.toNat / 2 ≤ n) : Ending.returned (.tuple #[.string ⟨#[]⟩, .int .i64 6]) = psR s n k := by
  unfold psR; rw [psS_no (by rw [psE_big h h2]; decide), psE_big h h2]; rfl
theorem psR_ok {s : ByteArray} {n : Int} {k : Nat} (h : ¬ ((k : Int) < 1 ∨ 8 < (k : Int))) (h2 : ¬ (n < -(pw k / 2) ∨ pw k / 2 ≤ n)) : Ending.returned (.tuple #[.string (s ++ be n k), .int .i64 0]) = psR s n k := by
  have e : psE n k = 0 := psE_ok h (by rw [Int.toNat_natCast]; exact h2)
  unfold psR; rw [psS_ok e, e, Int.toNat_natCast]
theorem psR_ap {s : ByteArray} {n : Int} {k : Nat} (h1 : 1 ≤ k) (h8 : k ≤ 8) : Ending.returned (.tuple #[.string (apS (loL 1 k) (hiL 1 k) n s k), .int .i64 (apE (loL 1 k) (hiL 1 k) n)]) = psR s n k := by
  unfold psR apS apE loL hiL
  rw [if_neg (show ¬ (1 : Int) = 0 by decide), if_neg (show ¬ (1 : Int) = 0 by decide), Int.toNat_natCast]
  by_cases h : n < -(pw k / 2) ∨ pw k / 2 ≤ n
  · have e := psE_big (n := n) (k := (k : Int)) (by omega) (by rw [Int.toNat_natCast]; exact h)
    rw [if_neg (by omega), if_neg (by omega), psS_no (by rw [e]; decide), e]
  · have e := psE_ok (n := n) (k := (k : Int)) (by omega) (by rw [Int.toNat_natCast]; exact h)
    rw [if_pos (by omega), if_pos (by omega), psS_ok e, e, Int.toNat_natCast]

set_option maxHeartbeats 400000 in
theorem putSigned_any (s : ByteArray) (n k : Int) (hs : (s.size : Int) ≤ 1000) (hn : -9223372036854775808 ≤ n ∧ n ≤ 9223372036854775807) (w : World) :
    Calls Try.prog 10 #[.string s, .int .i64 n, .int .i64 k] w fun e w' => e = psR s n k ∧ Bl w w' := by
  by_cases c2 : k < 1
  · have E := Lib.hid (psR_arg (s := s) (n := n) (k := k) (.inl c2))
    go_enter Try.func10, Try.ntmps10
    go_wp2
    go_ret2
    exact ⟨E.out, Bl.refl _⟩
  · by_cases c3 : 8 < k
    · have E := Lib.hid (psR_arg (s := s) (n := n) (k := k) (.inr c3))
      go_enter Try.func10, Try.ntmps10
      go_wp2
      go_ret2
      exact ⟨E.out, Bl.refl _⟩
    · obtain ⟨m, rfl⟩ := Int.eq_ofNat_of_zero_le (show 0 ≤ k by omega)
      have E := Lib.hid (psR_ap (s := s) (n := n) (k := m) (by omega) (by omega))
      have KA := Lib.hid (fun (w : World) (a : Addr) (hc : w.cell? a = some (.int .i64 1)) => appended_any s n (loL 1 m) (hiL 1 m) m a hs hn (by omega) (by omega) w (limit1_any m (by omega) (by omega) a w hc))
      have KM := Lib.hid (fun w => limits_any 1 w)
      go_enter Try.func10, Try.ntmps10
      go_wp2_with fail
      refine (KM.out _).mono ?_; rintro e w1 ⟨rfl, rfl⟩
      go_wp2_with fail
      refine (KA.out _ _ (by simp [go_sem])).mono ?_; rintro e w1 ⟨rfl, gr⟩
      have G := Lib.hid (Bl.trans ((Bl.refl w).alloc _) gr); clear gr
      go_wp2_with fail
      go_ret2
      exact ⟨E.out, G.out⟩

theorem puR_big {s : ByteArray} {n : Int} {k : Nat} (h : ¬ (n < 0 ∨ (k : Int) < 1 ∨ 7 < (k : Int))) (h2 : pw k ≤ n) : Ending.returned (.tuple #[.string ⟨#[]⟩, .int .i64 6]) = puR s n k := by
  have e : puE n k = 6 := puE_big h (by rw [Int.toNat_natCast]; exact h2)
  unfold puR; rw [puS_no (by rw [e]; decide), e]; rfl
theorem puR_ok {s : ByteArray} {n : Int} {k : Nat} (h : ¬ (n < 0 ∨ (k : Int) < 1 ∨ 7 < (k : Int))) (h2 : ¬ pw k ≤ n) : Ending.returned (.tuple #[.string (s ++ be n k), .int .i64 0]) = puR s n k := by
  have e : puE n k = 0 := puE_ok h (by rw [Int.toNat_natCast]; exact h2)
  unfold puR; rw [puS_ok e, e, Int.toNat_natCast]

set_option maxHeartbeats 400000 in
theorem rput_any (s : ByteArray) (n k : Int) (hs : (s.size : Int) ≤ 1000) (hn : -9223372036854775808 ≤ n ∧ n ≤ 9223372036854775807) (w : World) :
    Calls Try.prog 9 #[.string s, .int .i64 n, .int .i64 k] w fun e w' => e = puR s n k ∧ Bl w w' := by
  by_cases c1 : n < 0
  · have E := Lib.hid (puR_arg (s := s) (n := n) (k := k) (.inl c1))
    go_enter Try.func9, Try.ntmps9
    go_wp2
    go_ret2
    exact ⟨E.out, Bl.refl _⟩
  · by_cases c2 : k < 1
    · have E := Lib.hid (puR_arg (s := s) (n := n) (k := k) (.inr (.inl c2)))
      go_enter Try.func9, Try.ntmps9
      go_wp2
      go_ret2
      exact ⟨E.out, Bl.refl _⟩
    · by_cases c3 : 7 < k
      · have E := Lib.hid (puR_arg (s := s) (n := n) (k := k) (.inr (.inr c3)))
        go_enter Try.func9, Try.ntmps9
        go_wp2
        go_ret2
        exact ⟨E.out, Bl.refl _⟩
      · obtain ⟨m, rfl⟩ := Int.eq_ofNat_of_zero_le (show 0 ≤ k by omega)
        have KP := Lib.hid (fun w => power_any m (by omega) w)
        have KD := Lib.hid (fun w => rdigits_any n m (by omega) hn w)
        have hbe := be_size n m
        by_cases c4 : pw m ≤ n
        · have E := Lib.hid (puR_big (s := s) (n := n) (k := m) (by omega) c4)
          generalize be n m = d at *
          generalize pw m = p at *
          go_enter Try.func9, Try.ntmps9
          go_wp2_with fail
          refine (KP.out _).mono ?_; rintro e w1 ⟨rfl, rfl⟩
          go_wp2_with fail
          go_ret2
          exact ⟨E.out, Bl.refl _⟩
        · have E := Lib.hid (puR_ok (s := s) (n := n) (k := m) (by omega) c4)
          generalize be n m = d at *
          generalize pw m = p at *
          go_enter Try.func9, Try.ntmps9
          go_wp2_with fail
          refine (KP.out _).mono ?_; rintro e w1 ⟨rfl, rfl⟩
          go_wp2_with fail
          refine (KD.out _).mono ?_; rintro e w1 ⟨rfl, gr⟩
          have G := Lib.hid gr; clear gr
          go_wp2_with fail
          go_ret2
          exact ⟨E.out, G.out⟩

theorem pw_half (k : Nat) (h1 : 1 ≤ k) (h7 : k ≤ 7) : ∃ h : Int, pw k = 2 * h ∧ 1 ≤ h ∧ h ≤ 36028797018963968 := by
  match k, h1, h7 with
  | 1, _, _ => exact ⟨128, by decide, by decide, by decide⟩
  | 2, _, _ => exact ⟨32768, by decide, by decide, by decide⟩
  | 3, _, _ => exact ⟨8388608, by decide, by decide, by decide⟩
  | 4, _, _ => exact ⟨2147483648, by decide, by decide, by decide⟩
  | 5, _, _ => exact ⟨549755813888, by decide, by decide, by decide⟩
  | 6, _, _ => exact ⟨140737488355328, by decide, by decide, by decide⟩
  | 7, _, _ => exact ⟨36028797018963968, by decide, by decide, by decide⟩

set_option maxHeartbeats 400000 in
theorem rputSigned_any (s : ByteArray) (n k : Int) (hs : (s.size : Int) ≤ 1000) (hn : -9223372036854775808 ≤ n ∧ n ≤ 9223372036854775807) (w : World) :
    Calls Try.prog 11 #[.string s, .int .i64 n, .int .i64 k] w fun e w' => e = psR s n k ∧ Bl w w' := by
  by_cases c2 : k < 1
  · have E := Lib.hid (psR_arg (s := s) (n := n) (k := k) (.inl c2))
    go_enter Try.func11, Try.ntmps11
    go_wp2
    go_ret2
    exact ⟨E.out, Bl.refl _⟩
  · by_cases c3 : 8 < k
    · have E := Lib.hid (psR_arg (s := s) (n := n) (k := k) (.inr c3))
      go_enter Try.func11, Try.ntmps11
      go_wp2
      go_ret2
      exact ⟨E.out, Bl.refl _⟩
    · by_cases c8 : k = 8
      · subst c8
        have E := Lib.hid (psR_ok (s := s) (n := n) (k := 8) (by decide) (by rw [show pw 8 / 2 = 9223372036854775808 by decide]; omega))
        have KD := Lib.hid (fun w => rdigits_any n 8 (by omega) hn w)
        have hbe := be_size n 8
        generalize be n 8 = d at *
        go_enter Try.func11, Try.ntmps11
        go_wp2_with fail
        refine (KD.out _).mono ?_; rintro e w1 ⟨rfl, gr⟩
        have G := Lib.hid gr; clear gr
        go_wp2_with fail
        go_ret2
        exact ⟨E.out, G.out⟩
      · obtain ⟨m, rfl⟩ := Int.eq_ofNat_of_zero_le (show 0 ≤ k by omega)
        obtain ⟨h, e2, b1, b2⟩ := pw_half m (by omega) (by omega)
        have KP := Lib.hid (fun w => power_any m (by omega) w)
        have KD := Lib.hid (fun w => rdigits_any n m (by omega) hn w)
        have hbe := be_size n m
        have EB := Lib.hid (fun h2 => psR_big (s := s) (n := n) (k := m) (by omega) h2)
        have EK := Lib.hid (fun h2 => psR_ok (s := s) (n := n) (k := m) (by omega) h2)
        rw [Int.toNat_natCast] at EB
        rw [e2, show 2 * h / 2 = h by omega] at EB EK
        rw [e2] at KP
        have t1 : (2 * h).tdiv 2 = h := by rw [Int.tdiv_eq_ediv_of_nonneg (by omega)]; omega
        have t2 : (-(2 * h)).tdiv 2 = -h := by rw [Int.neg_tdiv, t1]
        clear e2
        generalize be n m = d at *
        by_cases c4 : h ≤ n
        · have E := Lib.hid (EB.out (.inr c4))
          clear EB EK
          go_enter Try.func11, Try.ntmps11
          go_wp2_with fail
          refine (KP.out _).mono ?_; rintro e w1 ⟨rfl, rfl⟩
          go_wp2_with fail
          go_ret2
          exact ⟨E.out, Bl.refl _⟩
        · by_cases c5 : n < -h
          · have E := Lib.hid (EB.out (.inl c5))
            clear EB EK
            go_enter Try.func11, Try.ntmps11
            go_wp2_with fail
            refine (KP.out _).mono ?_; rintro e w1 ⟨rfl, rfl⟩
            go_wp2_with fail
            refine (KP.out _).mono ?_; rintro e w1 ⟨rfl, rfl⟩
            go_wp2_with fail
            go_ret2
            exact ⟨E.out, Bl.refl _⟩
          · have E := Lib.hid (EK.out (by omega))
            clear EB EK
            go_enter Try.func11, Try.ntmps11
            go_wp2_with fail
            refine (KP.out _).mono ?_; rintro e w1 ⟨rfl, rfl⟩
            go_wp2_with fail
            refine (KP.out _).mono ?_; rintro e w1 ⟨rfl, rfl⟩
            go_wp2_with fail
            refine (KD.out _).mono ?_; rintro e w1 ⟨rfl, gr⟩
            have G := Lib.hid gr; clear gr
            go_wp2_with fail
            go_ret2
            exact ⟨E.out, G.out⟩

end Go.Proofs.Ytjbjmnlckgiolaa
