/-
  What MulDiv and Mul of package num return, for all integers that fit 64 bits: the floor of a * b / c where the arguments and the result are in range and c is at least 1.
-/
import Derived.Test.YtaekofoonekkkaaMd
namespace Go.Proofs.Ytaekofoonekkkaa
open Go.RowKit

theorem bl_drewN (w : World) (n : Nat) : Bl w (w.drewN n) := (Bl.refl w).drewN n
theorem div64_any (hi lo y : Nat) (h0 : 1 ≤ y) (h1 : hi < y) (hy : y < 9223372036854775808) (hlo : lo < 18446744073709551616) (w : World) :
    Calls Try.prog 39 #[.int .u64 hi, .int .u64 lo, .int .u64 y] w fun e w' => e = .returned (.tuple #[.int .u64 (((hi * 18446744073709551616 + lo) / y : Nat) : Int), .int .u64 (((hi * 18446744073709551616 + lo) % y : Nat) : Int)]) ∧ Bl w w' := by
  rcases Nat.eq_zero_or_pos hi with h | h
  · subst h
    refine (div64_low lo y h0 hy hlo w).mono ?_
    rintro e w' ⟨rfl, n, rfl⟩
    rw [Nat.zero_mul, Nat.zero_add]
    exact ⟨rfl, bl_drewN w n⟩
  · refine (div64_high hi lo y h h1 hy hlo w).mono ?_
    rintro e w' ⟨rfl, rfl⟩
    exact ⟨rfl, Bl.refl w⟩

/-- The condition of MulDiv. -/
def mdB (a b c : Int) : Bool := inB a && inB b && inB c && decide (1 ≤ c) && inB (a * b / c)

theorem sign_pos {a b : Int} (h : decide (a < 0) = decide (b < 0)) : a * b = ((a.natAbs * b.natAbs : Nat) : Int) := by
  rw [Int.natCast_mul]
  by_cases ha : a < 0
  · have hb : b < 0 := by simpa [ha] using h
    have e1 : ((a.natAbs : Nat) : Int) = -a := by omega
    have e2 : ((b.natAbs : Nat) : Int) = -b := by omega
    rw [e1, e2, Int.neg_mul_neg]
  · have hb : ¬ b < 0 := by simpa [ha] using h
    have e1 : ((a.natAbs : Nat) : Int) = a := by omega
    have e2 : ((b.natAbs : Nat) : Int) = b := by omega
    rw [e1, e2]
theorem sign_neg {a b : Int} (h : ¬ decide (a < 0) = decide (b < 0)) : a * b = -((a.natAbs * b.natAbs : Nat) : Int) := by
  rw [Int.natCast_mul]
  by_cases ha : a < 0
  · have hb : ¬ b < 0 := by simpa [ha] using h
    have e1 : ((a.natAbs : Nat) : Int) = -a := by omega
    have e2 : ((b.natAbs : Nat) : Int) = b := by omega
    rw [e1, e2, Int.neg_mul, Int.neg_neg]
  · have hb : b < 0 := by simpa [ha] using h
    have e1 : ((a.natAbs : Nat) : Int) = a := by omega
    have e2 : ((b.natAbs : Nat) : Int) = -b := by omega
    rw [e1, e2, Int.mul_neg, Int.neg_neg]
theorem neg_floor (N C : Nat) (hC : 1 ≤ C) : (N % C = 0 → -(N : Int) / (C : Int) = -((N / C : Nat) : Int)) ∧ (0 < N % C → -(N : Int) / (C : Int) = -((N / C : Nat) : Int) - 1) := by
  have h := Nat.div_add_mod' N C
  have hm := Nat.mod_lt N (show C > 0 by omega)
  have hc : (0 : Int) < (C : Int) := by omega
  have e : (N : Int) = ((N / C * C : Nat) : Int) + ((N % C : Nat) : Int) := by omega
  have e1 : ((N / C * C : Nat) : Int) = ((N / C : Nat) : Int) * (C : Int) := Int.natCast_mul _ _
  refine ⟨fun h0 => ?_, fun h0 => ?_⟩
  · have e2 : -(N : Int) = -((N / C : Nat) : Int) * (C : Int) := by rw [Int.neg_mul, ← e1]; omega
    rw [e2, Int.mul_ediv_cancel _ (by omega)]
  · have e3 : (-((N / C : Nat) : Int) - 1) * (C : Int) = -((N / C * C : Nat) : Int) - (C : Int) := by rw [Int.sub_mul, Int.neg_mul, ← e1, Int.one_mul]
    apply Int.le_antisymm
    · apply Int.le_of_lt_add_one
      rw [Int.ediv_lt_iff_lt_mul hc, Int.add_mul, e3]
      omega
    · rw [Int.le_ediv_iff_mul_le hc, e3]
      omega

set_option maxHeartbeats 1000000 in
theorem muldiv_core (a b c : Int) (H L q r : Nat) (w : World) (ha1 : -1125899906842624 ≤ a) (ha2 : a ≤ 1125899906842624) (hb1 : -1125899906842624 ≤ b) (hb2 : b ≤ 1125899906842624) (hc1 : 1 ≤ c) (hc2 : c ≤ 1125899906842624)
    (hM : ∀ w, Calls Try.prog 37 #[.int .u64 ((a.natAbs : Nat) : Int), .int .u64 ((b.natAbs : Nat) : Int)] w fun e w' => e = .returned (.tuple #[.int .u64 (H : Int), .int .u64 (L : Int)]) ∧ w = w')
    (hD : (H : Int) < c → ∀ w, Calls Try.prog 39 #[.int .u64 H, .int .u64 L, .int .u64 c] w fun e w' => e = .returned (.tuple #[.int .u64 (q : Int), .int .u64 (r : Int)]) ∧ Bl w w')
    (C : Bool) (V : Int)
    (v1 : c ≤ H → C = false) (v2 : (H : Int) < c → 1125899906842624 < (q : Int) → C = false)
    (v3 : (H : Int) < c → (q : Int) ≤ 1125899906842624 → decide (a < 0) = decide (b < 0) → C = inB q ∧ V = q)
    (v4 : (H : Int) < c → (q : Int) ≤ 1125899906842624 → ¬ decide (a < 0) = decide (b < 0) → r = 0 → C = inB (-(q : Int)) ∧ V = -(q : Int))
    (v5 : (H : Int) < c → (q : Int) ≤ 1125899906842624 → ¬ decide (a < 0) = decide (b < 0) → (0 : Int) < r → C = inB (-(q : Int) - 1) ∧ V = -(q : Int) - 1) :
    Calls Try.prog 35 #[.int .i64 a, .int .i64 b, .int .i64 c] w fun e w' => e = res C V ∧ Bl w w' := by
  have ia := inB_iff.2 ⟨ha1, ha2⟩
  have ib := inB_iff.2 ⟨hb1, hb2⟩
  have ic := inB_iff.2 ⟨show -1125899906842624 ≤ c by omega, hc2⟩
  have HM := Lib.hid hM; clear hM
  have G : ∀ w : World, Bl w (w.alloc (.cells #[.int .i64 a, .int .i64 b, .int .i64 c] 3)) := fun w => (Bl.refl w).alloc _
  have HG := Lib.hid G; clear G
  by_cases h1 : c ≤ H
  · have HC := Lib.hid (v1 h1)
    clear hD v1 v2 v3 v4 v5
    go_enter Try.func35, Try.ntmps35
    go_wp2_with (first | (go_at_call 36; refine (inRange_three _ _ _ _).mono ?_; rintro e w' ⟨rfl, rfl⟩) | (go_at_call 38; refine (mag_any _ _ (by assumption) (by assumption)).mono ?_; rintro e w' ⟨rfl, rfl⟩) | (go_at_call 37; refine (HM.out _).mono ?_; rintro e w' ⟨rfl, rfl⟩))
    go_ret2
    exact ⟨res_f HC.out, HG.out _⟩
  · have h1' : (H : Int) < c := by omega
    have HD := Lib.hid (hD h1')
    clear hD
    by_cases h2 : 1125899906842624 < (q : Int)
    · have HC := Lib.hid (v2 h1' h2)
      clear v1 v2 v3 v4 v5
      go_enter Try.func35, Try.ntmps35
      go_wp2_with (first | (go_at_call 36; refine (inRange_three _ _ _ _).mono ?_; rintro e w' ⟨rfl, rfl⟩) | (go_at_call 38; refine (mag_any _ _ (by assumption) (by assumption)).mono ?_; rintro e w' ⟨rfl, rfl⟩) | (go_at_call 37; refine (HM.out _).mono ?_; rintro e w' ⟨rfl, rfl⟩) | (go_at_call 39; refine (HD.out _).mono ?_; rintro e w' ⟨rfl, hg⟩))
      go_ret2
      exact ⟨res_f HC.out, Bl.trans (HG.out _) hg⟩
    · have h2' : (q : Int) ≤ 1125899906842624 := by omega
      by_cases h3 : decide (a < 0) = decide (b < 0)
      · obtain ⟨c1, c2⟩ := v3 h1' h2' h3
        clear v1 v2 v3 v4 v5
        subst c1 c2
        by_cases ha0 : a < 0
        · have hb0 : b < 0 := by simpa [ha0] using h3
          have d1 : decide (a < 0) = true := decide_eq_true ha0
          have d2 : decide (b < 0) = true := decide_eq_true hb0
          clear h3 ha0 hb0
          go_enter Try.func35, Try.ntmps35
          go_wp2_with (first | (go_at_call 36; refine (inRange_three _ _ _ _).mono ?_; rintro e w' ⟨rfl, rfl⟩) | (go_at_call 38; refine (mag_any _ _ (by assumption) (by assumption)).mono ?_; rintro e w' ⟨rfl, rfl⟩) | (go_at_call 37; refine (HM.out _).mono ?_; rintro e w' ⟨rfl, rfl⟩) | (go_at_call 39; refine (HD.out _).mono ?_; rintro e w' ⟨rfl, hg⟩) | (go_at_call 40; refine (bounded_any _ _).mono ?_; rintro e w' ⟨rfl, hg2⟩; unfold res))
          go_ret2
          exact ⟨rfl, Bl.trans (HG.out _) (Bl.trans hg hg2)⟩
        · have hb0 : ¬ b < 0 := by simpa [ha0] using h3
          have d1 : decide (a < 0) = false := decide_eq_false ha0
          have d2 : decide (b < 0) = false := decide_eq_false hb0
          clear h3 ha0 hb0
          go_enter Try.func35, Try.ntmps35
          go_wp2_with (first | (go_at_call 36; refine (inRange_three _ _ _ _).mono ?_; rintro e w' ⟨rfl, rfl⟩) | (go_at_call 38; refine (mag_any _ _ (by assumption) (by assumption)).mono ?_; rintro e w' ⟨rfl, rfl⟩) | (go_at_call 37; refine (HM.out _).mono ?_; rintro e w' ⟨rfl, rfl⟩) | (go_at_call 39; refine (HD.out _).mono ?_; rintro e w' ⟨rfl, hg⟩) | (go_at_call 40; refine (bounded_any _ _).mono ?_; rintro e w' ⟨rfl, hg2⟩; unfold res))
          go_ret2
          exact ⟨rfl, Bl.trans (HG.out _) (Bl.trans hg hg2)⟩
      · rcases Nat.eq_zero_or_pos r with hr | hr
        · obtain ⟨c1, c2⟩ := v4 h1' h2' h3 hr
          clear v1 v2 v3 v4 v5
          have hr' : ¬ (0 : Int) < r := by omega
          clear hr
          subst c1 c2
          by_cases ha0 : a < 0
          · have hb0 : ¬ b < 0 := by simpa [ha0] using h3
            have d1 : decide (a < 0) = true := decide_eq_true ha0
            have d2 : decide (b < 0) = false := decide_eq_false hb0
            clear h3 ha0 hb0
            go_enter Try.func35, Try.ntmps35
            go_wp2_with (first | (go_at_call 36; refine (inRange_three _ _ _ _).mono ?_; rintro e w' ⟨rfl, rfl⟩) | (go_at_call 38; refine (mag_any _ _ (by assumption) (by assumption)).mono ?_; rintro e w' ⟨rfl, rfl⟩) | (go_at_call 37; refine (HM.out _).mono ?_; rintro e w' ⟨rfl, rfl⟩) | (go_at_call 39; refine (HD.out _).mono ?_; rintro e w' ⟨rfl, hg⟩) | (go_at_call 40; refine (bounded_any _ _).mono ?_; rintro e w' ⟨rfl, hg2⟩; unfold res))
            go_ret2
            exact ⟨rfl, Bl.trans (HG.out _) (Bl.trans hg hg2)⟩
          · have hb0 : b < 0 := by simpa [ha0] using h3
            have d1 : decide (a < 0) = false := decide_eq_false ha0
            have d2 : decide (b < 0) = true := decide_eq_true hb0
            clear h3 ha0 hb0
            go_enter Try.func35, Try.ntmps35
            go_wp2_with (first | (go_at_call 36; refine (inRange_three _ _ _ _).mono ?_; rintro e w' ⟨rfl, rfl⟩) | (go_at_call 38; refine (mag_any _ _ (by assumption) (by assumption)).mono ?_; rintro e w' ⟨rfl, rfl⟩) | (go_at_call 37; refine (HM.out _).mono ?_; rintro e w' ⟨rfl, rfl⟩) | (go_at_call 39; refine (HD.out _).mono ?_; rintro e w' ⟨rfl, hg⟩) | (go_at_call 40; refine (bounded_any _ _).mono ?_; rintro e w' ⟨rfl, hg2⟩; unfold res))
            go_ret2
            exact ⟨rfl, Bl.trans (HG.out _) (Bl.trans hg hg2)⟩
        · have hr' : (0 : Int) < r := by omega
          obtain ⟨c1, c2⟩ := v5 h1' h2' h3 hr'
          clear v1 v2 v3 v4 v5 hr
          subst c1 c2
          by_cases ha0 : a < 0
          · have hb0 : ¬ b < 0 := by simpa [ha0] using h3
            have d1 : decide (a < 0) = true := decide_eq_true ha0
            have d2 : decide (b < 0) = false := decide_eq_false hb0
            clear h3 ha0 hb0
            go_enter Try.func35, Try.ntmps35
            go_wp2_with (first | (go_at_call 36; refine (inRange_three _ _ _ _).mono ?_; rintro e w' ⟨rfl, rfl⟩) | (go_at_call 38; refine (mag_any _ _ (by assumption) (by assumption)).mono ?_; rintro e w' ⟨rfl, rfl⟩) | (go_at_call 37; refine (HM.out _).mono ?_; rintro e w' ⟨rfl, rfl⟩) | (go_at_call 39; refine (HD.out _).mono ?_; rintro e w' ⟨rfl, hg⟩) | (go_at_call 40; refine (bounded_any _ _).mono ?_; rintro e w' ⟨rfl, hg2⟩; unfold res))
            go_ret2
            exact ⟨rfl, Bl.trans (HG.out _) (Bl.trans hg hg2)⟩
          · have hb0 : b < 0 := by simpa [ha0] using h3
            have d1 : decide (a < 0) = false := decide_eq_false ha0
            have d2 : decide (b < 0) = true := decide_eq_true hb0
            clear h3 ha0 hb0
            go_enter Try.func35, Try.ntmps35
            go_wp2_with (first | (go_at_call 36; refine (inRange_three _ _ _ _).mono ?_; rintro e w' ⟨rfl, rfl⟩) | (go_at_call 38; refine (mag_any _ _ (by assumption) (by assumption)).mono ?_; rintro e w' ⟨rfl, rfl⟩) | (go_at_call 37; refine (HM.out _).mono ?_; rintro e w' ⟨rfl, rfl⟩) | (go_at_call 39; refine (HD.out _).mono ?_; rintro e w' ⟨rfl, hg⟩) | (go_at_call 40; refine (bounded_any _ _).mono ?_; rintro e w' ⟨rfl, hg2⟩; unfold res))
            go_ret2
            exact ⟨rfl, Bl.trans (HG.out _) (Bl.trans hg hg2)⟩

theorem muldiv_any (a b c : Int) (w : World) :
    Calls Try.prog 35 #[.int .i64 a, .int .i64 b, .int .i64 c] w fun e w' => e = res (mdB a b c) (a * b / c) ∧ Bl w w' := by
  rcases bcase (inB a && inB b && inB c) with h | h
  · have h' := h
    rw [Bool.and_eq_true, Bool.and_eq_true, inB_iff, inB_iff, inB_iff] at h'
    obtain ⟨⟨⟨ha1, ha2⟩, hb1, hb2⟩, hc1, hc2⟩ := h'
    by_cases h1 : 1 ≤ c
    · have e0 : mdB a b c = inB (a * b / c) := by unfold mdB; rw [h, decide_eq_true h1]; simp
      obtain ⟨C, hC⟩ : ∃ C : Nat, c = C := ⟨c.toNat, by omega⟩
      have hN : a.natAbs * b.natAbs ≤ 1125899906842624 * 1125899906842624 := Nat.mul_le_mul (by omega) (by omega)
      have hdm := Nat.div_add_mod (a.natAbs * b.natAbs) 18446744073709551616
      have hm := Nat.mod_lt (a.natAbs * b.natAbs) (show 18446744073709551616 > 0 by omega)
      have sp := @sign_pos a b
      have sn := @sign_neg a b
      have hMul := fun w => mul64_any a.natAbs b.natAbs (by omega) (by omega) w
      rw [e0]
      generalize a.natAbs * b.natAbs = N at *
      obtain ⟨nf0, nf1⟩ := neg_floor N C (by omega)
      have hbig : c ≤ ((N / 18446744073709551616 : Nat) : Int) → 1125899906842624 < N / C := by
        intro hx
        have h2 : 18446744073709551616 * C ≤ N := by
          have : C ≤ N / 18446744073709551616 := by omega
          have := Nat.mul_le_mul_left 18446744073709551616 this
          omega
        have h3 : 18446744073709551616 ≤ N / C := (Nat.le_div_iff_mul_le (by omega)).2 h2
        omega
      have out : ∀ q : Nat, N / C = q → 1125899906842624 < q → inB (a * b / c) = false := by
        intro q hq hlt
        rw [inB_not]
        by_cases hs : decide (a < 0) = decide (b < 0)
        · have e : a * b / c = ((N / C : Nat) : Int) := by rw [sp hs, hC]; exact (Int.natCast_ediv N C).symm
          omega
        · rw [sn hs, hC]
          rcases Nat.eq_zero_or_pos (N % C) with hr | hr
          · rw [nf0 hr]; omega
          · rw [nf1 hr]; omega
      refine muldiv_core a b c (N / 18446744073709551616) (N % 18446744073709551616) (N / C) (N % C) w ha1 ha2 hb1 hb2 h1 hc2 hMul ?_ _ _ ?_ ?_ ?_ ?_ ?_
      · intro hlt w
        have := div64_any (N / 18446744073709551616) (N % 18446744073709551616) C (by omega) (by omega) (by omega) hm w
        rw [Nat.mul_comm, hdm] at this
        rw [hC]
        exact this
      · intro hx; exact out _ rfl (hbig hx)
      · intro _ hx; exact out _ rfl (by omega)
      · intro _ _ hs
        have e : a * b / c = ((N / C : Nat) : Int) := by rw [sp hs, hC]; exact (Int.natCast_ediv N C).symm
        rw [e]; exact ⟨rfl, rfl⟩
      · intro _ _ hs hr
        rw [sn hs, hC, nf0 hr]; exact ⟨rfl, rfl⟩
      · intro _ _ hs hr
        rw [sn hs, hC, nf1 (by omega)]; exact ⟨rfl, rfl⟩
    · have hd : mdB a b c = false := by unfold mdB; rw [decide_eq_false h1]; simp
      rw [hd]
      clear hd
      have HX := Lib.hid h; clear h
      have X : ∀ w : World, Calls Try.prog 36 #[.slice (some ⟨w.heap.size, 0, none⟩) 3 3] (w.alloc (.cells #[.int .i64 a, .int .i64 b, .int .i64 c] 3)) fun e w' => e = .returned (.bool true) ∧ (w.alloc (.cells #[.int .i64 a, .int .i64 b, .int .i64 c] 3)) = w' := fun w => by
        have := inRange_three a b c w
        rw [HX.out] at this; exact this
      have HI := Lib.hid X; clear X
      go_enter Try.func35, Try.ntmps35
      go_wp2_with (go_at_call 36; refine (HI.out _).mono ?_; rintro e w' ⟨rfl, rfl⟩)
      go_ret2
      exact ⟨res_f rfl, (Bl.refl _).alloc _⟩
  · have hd : mdB a b c = false := by unfold mdB; rw [h]; simp
    rw [hd]
    clear hd
    have HX := Lib.hid h; clear h
    have X : ∀ w : World, Calls Try.prog 36 #[.slice (some ⟨w.heap.size, 0, none⟩) 3 3] (w.alloc (.cells #[.int .i64 a, .int .i64 b, .int .i64 c] 3)) fun e w' => e = .returned (.bool false) ∧ (w.alloc (.cells #[.int .i64 a, .int .i64 b, .int .i64 c] 3)) = w' := fun w => by
      have := inRange_three a b c w
      rw [HX.out] at this; exact this
    have HI := Lib.hid X; clear X
    go_enter Try.func35, Try.ntmps35
    go_wp2_with (go_at_call 36; refine (HI.out _).mono ?_; rintro e w' ⟨rfl, rfl⟩)
    go_ret2
    exact ⟨res_f rfl, (Bl.refl _).alloc _⟩

end Go.Proofs.Ytaekofoonekkkaa
