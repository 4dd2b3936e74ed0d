/-
  What Get and GetSigned of package wire and of its reference return.
-/
import Derived.Test.YtmhdgpmlconngaaWf
namespace Go.Proofs.Ytmhdgpmlconngaa
open Go.RowKit

/-- The octets of s from a on, k of them. -/
def sub (s : ByteArray) (a k : Nat) : List UInt8 := (s.data.toList.drop a).take k
theorem sub_extract (s : ByteArray) (a k : Nat) : (s.extract a (a + k)).data.toList = sub s a k := by
  unfold sub
  rw [ByteArray.data_extract]
  simp
theorem sub_length {s : ByteArray} {a k : Nat} (h : a + k ≤ s.size) : (sub s a k).length = k := by
  have e : s.data.toList.length = s.size := by simp
  unfold sub
  rw [List.length_take, List.length_drop, e]
  omega
theorem sub_take {s : ByteArray} {a k i : Nat} (h : i ≤ k) : (sub s a k).take i = sub s a i := by
  unfold sub
  rw [List.take_take, Nat.min_eq_left h]
theorem sub_snoc {s : ByteArray} {a i : Nat} (h : a + i < s.size) : sub s a (i + 1) = sub s a i ++ [s[a + i]] := by
  have e : s.data.toList.length = s.size := by simp
  unfold sub
  rw [List.take_succ_eq_append_getElem (by rw [List.length_drop, e]; omega), List.getElem_drop]
  rfl

theorem pw_mono {a b : Nat} (h : a ≤ b) : pw a ≤ pw b := by
  induction b with
  | zero => obtain rfl : a = 0 := by omega
            exact Int.le_refl _
  | succ b ih =>
    rcases Nat.lt_or_ge b a with hlt | hge
    · obtain rfl : a = b + 1 := by omega
      exact Int.le_refl _
    · have := ih hge
      have hp := pw_pos b
      rw [pw_succ]; omega
theorem fits_u {l : List UInt8} (h : l.length ≤ 7) : fits 0 l := by
  intro k hk
  have hb := @vl_bound 0 (l.take k)
  have hm := pw_mono (show (l.take k).length ≤ 6 by rw [List.length_take]; omega)
  have hp := pw_pos (l.take k).length
  have e6 : pw 6 = 281474976710656 := by decide
  rw [e6] at hm
  omega
theorem fits_s {l : List UInt8} (h : l.length ≤ 8) : fits (sg l) l := by
  intro k hk
  cases l with
  | nil => simp at hk
  | cons c r =>
    cases k with
    | zero => rcases sg_or (c :: r) with e | e <;> rw [e] <;> simp [vl]
    | succ k =>
      rw [List.take_succ_cons]
      show _ ≤ vl (256 * sg (c :: r) + c.toNat) (r.take k) ∧ vl (256 * sg (c :: r) + c.toNat) (r.take k) < _
      have hr : r.length ≤ 7 := by simpa using h
      have hb := @vl_bound (256 * sg (c :: r) + c.toNat) (r.take k)
      have hm := pw_mono (show (r.take k).length ≤ 6 by rw [List.length_take]; simp at hk; omega)
      have hp := pw_pos (r.take k).length
      have e6 : pw 6 = 281474976710656 := by decide
      rw [e6] at hm
      have hc : c.toNat < 256 := c.toNat_lt
      have hx : -128 ≤ 256 * sg (c :: r) + c.toNat ∧ 256 * sg (c :: r) + c.toNat + 1 ≤ 128 := by
        have e0 : sg (c :: r) = if 128 ≤ c.toNat then -1 else 0 := rfl
        rw [e0]
        by_cases h8 : 128 ≤ c.toNat
        · rw [if_pos h8]; omega
        · rw [if_neg h8]; omega
      have m1 := Int.mul_le_mul_of_nonneg_right hx.1 (Int.le_of_lt hp)
      have m2 := Int.mul_le_mul_of_nonneg_right hx.2 (Int.le_of_lt hp)
      omega

/-- What Get gives. -/
def gtE (s : ByteArray) (a k : Int) : Int := if a < 0 ∨ k < 1 ∨ 7 < k then 2 else if (s.size : Int) < a + k then 5 else 0
def gtV (s : ByteArray) (a k : Int) : Int := if gtE s a k = 0 then vl 0 (sub s a.toNat k.toNat) else 0
def gtR (s : ByteArray) (a k : Int) : Ending := .returned (.tuple #[.int .i64 (gtV s a k), .int .i64 (gtE s a k)])
theorem gtE_arg {s : ByteArray} {a k : Int} (h : a < 0 ∨ k < 1 ∨ 7 < k) : gtE s a k = 2 := by unfold gtE; rw [if_pos h]
theorem gtE_form {s : ByteArray} {a k : Int} (h : ¬ (a < 0 ∨ k < 1 ∨ 7 < k)) (h2 : (s.size : Int) < a + k) : gtE s a k = 5 := by unfold gtE; rw [if_neg h, if_pos h2]
theorem gtE_ok {s : ByteArray} {a k : Int} (h : ¬ (a < 0 ∨ k < 1 ∨ 7 < k)) (h2 : ¬ (s.size : Int) < a + k) : gtE s a k = 0 := by unfold gtE; rw [if_neg h, if_neg h2]
theorem gtV_ok {s : ByteArray} {a k : Int} (h : gtE s a k = 0) : gtV s a k = vl 0 (sub s a.toNat k.toNat) := by unfold gtV; rw [if_pos h]
theorem gtV_no {s : ByteArray} {a k : Int} (h : gtE s a k ≠ 0) : gtV s a k = 0 := by unfold gtV; rw [if_neg h]
theorem gtR_arg {s : ByteArray} {a k : Int} (h : a < 0 ∨ k < 1 ∨ 7 < k) : Ending.returned (.tuple #[.int .i64 0, .int .i64 2]) = gtR s a k := by
  unfold gtR; rw [gtV_no (by rw [gtE_arg h]; decide), gtE_arg h]
theorem gtR_form {s : ByteArray} {a k : Int} (h : ¬ (a < 0 ∨ k < 1 ∨ 7 < k)) (h2 : (s.size : Int) < a + k) : Ending.returned (.tuple #[.int .i64 0, .int .i64 5]) = gtR s a k := by
  unfold gtR; rw [gtV_no (by rw [gtE_form h h2]; decide), gtE_form h h2]
theorem gtR_ok {s : ByteArray} {a k : Nat} (h : 1 ≤ k ∧ k ≤ 7) (h2 : a + k ≤ s.size) : Ending.returned (.tuple #[.int .i64 (vl 0 (sub s a k)), .int .i64 0]) = gtR s a k := by
  have e := gtE_ok (s := s) (a := (a : Int)) (k := (k : Int)) (by omega) (by omega)
  unfold gtR; rw [gtV_ok e, e, Int.toNat_natCast, Int.toNat_natCast]
/-- What GetSigned gives. -/
def gsE (s : ByteArray) (a k : Int) : Int := if a < 0 ∨ k < 1 ∨ 8 < k then 2 else if (s.size : Int) < a + k then 5 else 0
def gsV (s : ByteArray) (a k : Int) : Int := if gsE s a k = 0 then vl (sg (sub s a.toNat k.toNat)) (sub s a.toNat k.toNat) else 0
def gsR (s : ByteArray) (a k : Int) : Ending := .returned (.tuple #[.int .i64 (gsV s a k), .int .i64 (gsE s a k)])
theorem gsE_arg {s : ByteArray} {a k : Int} (h : a < 0 ∨ k < 1 ∨ 8 < k) : gsE s a k = 2 := by unfold gsE; rw [if_pos h]
theorem gsE_form {s : ByteArray} {a k : Int} (h : ¬ (a < 0 ∨ k < 1 ∨ 8 < k)) (h2 : (s.size : Int) < a + k) : gsE s a k = 5 := by unfold gsE; rw [if_neg h, if_pos h2]
theorem gsE_ok {s : ByteArray} {a k : Int} (h : ¬ (a < 0 ∨ k < 1 ∨ 8 < k)) (h2 : ¬ (s.size : Int) < a + k) : gsE s a k = 0 := by unfold gsE; rw [if_neg h, if_neg h2]
theorem gsV_ok {s : ByteArray} {a k : Int} (h : gsE s a k = 0) : gsV s a k = vl (sg (sub s a.toNat k.toNat)) (sub s a.toNat k.toNat) := by unfold gsV; rw [if_pos h]
theorem gsV_no {s : ByteArray} {a k : Int} (h : gsE s a k ≠ 0) : gsV s a k = 0 := by unfold gsV; rw [if_neg h]
theorem gsR_arg {s : ByteArray} {a k : Int} (h : a < 0 ∨ k < 1 ∨ 8 < k) : Ending.returned (.tuple #[.int .i64 0, .int .i64 2]) = gsR s a k := by
  unfold gsR; rw [gsV_no (by rw [gsE_arg h]; decide), gsE_arg h]
theorem gsR_form {s : ByteArray} {a k : Int} (h : ¬ (a < 0 ∨ k < 1 ∨ 8 < k)) (h2 : (s.size : Int) < a + k) : Ending.returned (.tuple #[.int .i64 0, .int .i64 5]) = gsR s a k := by
  unfold gsR; rw [gsV_no (by rw [gsE_form h h2]; decide), gsE_form h h2]
theorem gsR_ok {s : ByteArray} {a k : Nat} (h : 1 ≤ k ∧ k ≤ 8) (h2 : a + k ≤ s.size) : Ending.returned (.tuple #[.int .i64 (vl (sg (sub s a k)) (sub s a k)), .int .i64 0]) = gsR s a k := by
  have e := gsE_ok (s := s) (a := (a : Int)) (k := (k : Int)) (by omega) (by omega)
  unfold gsR; rw [gsV_ok e, e, Int.toNat_natCast, Int.toNat_natCast]

set_option maxHeartbeats 400000 in
theorem get_any (s : ByteArray) (a k : Int) (hs : (s.size : Int) ≤ 8000) (ha : a ≤ 9223372036854775807) (w : World) :
    Calls Try.prog 58 #[.string s, .int .i64 a, .int .i64 k] w fun e w' => e = gtR s a k ∧ w = w' := by
  by_cases c2 : k < 1
  · have E := Lib.hid (gtR_arg (s := s) (a := a) (k := k) (.inr (.inl c2)))
    go_enter Try.func58, Try.ntmps58
    go_wp2
    go_ret2
    exact ⟨E.out, rfl⟩
  · by_cases c3 : 7 < k
    · have E := Lib.hid (gtR_arg (s := s) (a := a) (k := k) (.inr (.inr c3)))
      go_enter Try.func58, Try.ntmps58
      go_wp2
      go_ret2
      exact ⟨E.out, rfl⟩
    · have KF := Lib.hid (fun w => field_any s a k hs ha (by omega) w)
      have KN := Lib.hid (fun w => decoded_any 0 noS (by decide) (fits_u (by decide)) w)
      by_cases c1 : a < 0
      · have E := Lib.hid (gtR_arg (s := s) (a := a) (k := k) (.inl c1))
        rw [fdE_arg (.inl c1), fdS_no (by rw [fdE_arg (.inl c1)]; decide)] at KF
        go_enter Try.func58, Try.ntmps58
        go_wp2_with fail
        refine (KF.out _).mono ?_; rintro e w1 ⟨rfl, rfl⟩
        go_wp2_with fail
        refine (KN.out _).mono ?_; rintro e w1 ⟨rfl, rfl⟩
        go_wp2_with fail
        go_ret2
        exact ⟨E.out, rfl⟩
      · by_cases c4 : (s.size : Int) < a + k
        · have E := Lib.hid (gtR_form (s := s) (a := a) (k := k) (by omega) c4)
          have ef := fdE_form (s := s) (a := a) (k := k) (by omega) c4
          rw [ef, fdS_no (by rw [ef]; decide)] at KF
          clear ef
          go_enter Try.func58, Try.ntmps58
          go_wp2_with fail
          refine (KF.out _).mono ?_; rintro e w1 ⟨rfl, rfl⟩
          go_wp2_with fail
          refine (KN.out _).mono ?_; rintro e w1 ⟨rfl, rfl⟩
          go_wp2_with fail
          go_ret2
          exact ⟨E.out, rfl⟩
        · obtain ⟨p, rfl⟩ := Int.eq_ofNat_of_zero_le (show 0 ≤ a by omega)
          obtain ⟨m, rfl⟩ := Int.eq_ofNat_of_zero_le (show 0 ≤ k by omega)
          have E := Lib.hid (gtR_ok (s := s) (a := p) (k := m) (by omega) (by omega))
          rw [fdE_ok (by omega) c4, fdS_ok (by omega) c4, Int.toNat_natCast, show ((p : Int) + (m : Int)).toNat = p + m by omega] at KF
          have KD := Lib.hid (fun w => decoded_any 0 (s.extract p (p + m)) (by rw [ByteArray.size_extract]; omega) (fits_u (by rw [sub_extract, sub_length (by omega)]; omega)) w)
          rw [sub_extract] at KD
          generalize s.extract p (p + m) = x at *
          go_enter Try.func58, Try.ntmps58
          go_wp2_with fail
          refine (KF.out _).mono ?_; rintro e w1 ⟨rfl, rfl⟩
          go_wp2_with fail
          refine (KD.out _).mono ?_; rintro e w1 ⟨rfl, rfl⟩
          go_wp2_with fail
          go_ret2
          exact ⟨E.out, rfl⟩

end Go.Proofs.Ytmhdgpmlconngaa
