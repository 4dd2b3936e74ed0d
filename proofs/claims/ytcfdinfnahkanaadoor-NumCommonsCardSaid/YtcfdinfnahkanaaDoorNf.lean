/-
  What MulDiv and Mul of the reference of layer 1 return, for all integers that fit 64 bits: the same as the program's.
-/
import Derived.Test.YtcfdinfnahkanaaDoorNe
namespace Go.Proofs.YtcfdinfnahkanaaDoor
open Go.RowKit

theorem rabs_quiet (n : Int) (w : World) (h1 : -1125899906842624 ≤ n) (h2 : n ≤ 1125899906842624) :
    Calls Tryd.prog 40 #[.int .i64 n] w fun e w' => e = .returned (.int .i64 ((n.natAbs : Nat) : Int)) ∧ w' = w := by
  refine (rabs_any n w h1 h2).mono ?_
  rintro e w' ⟨rfl, rfl⟩
  exact ⟨rfl, rfl⟩

theorem bit_step (A B C Q R P j : Nat) (hP : A / 2 ^ j = P) (h : Q * C + R = A / 2 ^ (j + 1) * B) :
    (P % 2 = 1 → (2 * Q + B / C) * C + (2 * R + B % C) = P * B) ∧ (¬ P % 2 = 1 → (2 * Q) * C + (2 * R) = P * B) := by
  have e : A / 2 ^ (j + 1) = P / 2 := by rw [Nat.pow_succ, ← Nat.div_div_eq_div_mul, hP]
  rw [e] at h
  have hb := Nat.div_add_mod' B C
  have h2 : 2 * Q * C = 2 * (Q * C) := Nat.mul_assoc 2 Q C
  have hp : P = 2 * (P / 2) + P % 2 := by omega
  have h3 : 2 * (P / 2) * B = 2 * (P / 2 * B) := Nat.mul_assoc 2 (P / 2) B
  constructor
  · intro ho
    rw [hp, ho, Nat.add_mul, Nat.add_mul, h2, h3, Nat.one_mul]
    generalize P / 2 * B = x at *
    generalize B / C * C = y at *
    generalize Q * C = z at *
    omega
  · intro ho
    have : P % 2 = 0 := by omega
    rw [hp, this, Nat.add_zero, h2, h3]
    generalize P / 2 * B = x at *
    generalize Q * C = z at *
    omega
theorem carry (q r C X : Nat) (h : q * C + r = X) : (q + r / C) * C + r % C = X := by
  have := Nat.div_add_mod' r C
  rw [Nat.add_mul]
  omega

theorem quot_of (Q R C N : Nat) (h : Q * C + R = N) (hR : R < C) : Q = N / C ∧ R = N % C := by
  subst h
  constructor
  · rw [Nat.add_comm, Nat.add_mul_div_right _ _ (by omega), Nat.div_eq_of_lt hR, Nat.zero_add]
  · rw [Nat.add_comm, Nat.add_mul_mod_self_right, Nat.mod_eq_of_lt hR]
theorem part_le (Q R C P A B j : Nat) (hC : 1 ≤ C) (hP : A / 2 ^ j = P) (h : Q * C + R = P * B) : Q ≤ A * B / C := by
  have : P ≤ A := by rw [← hP]; exact Nat.div_le_self _ _
  have h2 : P * B ≤ A * B := Nat.mul_le_mul_right _ this
  exact (Nat.le_div_iff_mul_le (by omega)).2 (by omega)

set_option maxRecDepth 100000 in
set_option maxHeartbeats 2000000 in
theorem rmuldiv_core (a b : Int) (A B C : Nat) (w : World) (ha1 : -1125899906842624 ≤ a) (ha2 : a ≤ 1125899906842624) (hb1 : -1125899906842624 ≤ b) (hb2 : b ≤ 1125899906842624) (hc1 : (1 : Int) ≤ C) (hc2 : (C : Int) ≤ 1125899906842624)
    (hA : a.natAbs = A) (hB : b.natAbs = B) (D : Bool) (V : Int)
    (v1 : 2251799813685248 < A * B / C → D = false)
    (v2 : ¬ (decide (a < 0) != decide (b < 0) && (a != 0) && (b != 0)) = true → D = inB ((A * B / C : Nat) : Int) ∧ V = ((A * B / C : Nat) : Int))
    (v3 : (decide (a < 0) != decide (b < 0) && (a != 0) && (b != 0)) = true → A * B % C = 0 → D = inB (-((A * B / C : Nat) : Int)) ∧ V = -((A * B / C : Nat) : Int))
    (v4 : (decide (a < 0) != decide (b < 0) && (a != 0) && (b != 0)) = true → 0 < A * B % C → D = inB (-(((A * B / C : Nat) : Int) + 1)) ∧ V = -(((A * B / C : Nat) : Int) + 1)) :
    Calls Tryd.prog 26 #[.int .i64 a, .int .i64 b, .int .i64 C] w fun e w' => e = res D V ∧ ∃ n, w' = w.drewN n := by
  have ia := inB_iff.2 ⟨ha1, ha2⟩
  have ib := inB_iff.2 ⟨hb1, hb2⟩
  have ic := inB_iff.2 ⟨show -1125899906842624 ≤ (C : Int) by omega, hc2⟩
  have bA : (A : Int) ≤ 1125899906842624 := by omega
  have bB : (B : Int) ≤ 1125899906842624 := by omega
  have HA := fun w => rabs_any a w ha1 ha2
  have HB := fun w => rabs_quiet b w hb1 hb2
  rw [hA] at HA
  rw [hB] at HB
  have HA := Lib.hid HA
  have HB := Lib.hid HB
  have V1 := Lib.hid v1; clear v1
  have V2 := Lib.hid v2; clear v2
  have V3 := Lib.hid v3; clear v3
  have V4 := Lib.hid v4; clear v4
  have EA := Lib.hid hA; clear hA
  have EB := Lib.hid hB; clear hB
  go_enter Tryd.func26, Tryd.ntmps26
  go_wp2_with (go_at_call 35; refine (rIn_any _ _).mono ?_; rintro e w' ⟨rfl, rfl⟩)
  go_loopw [8, 9, 10] (fun q r i wr => ∃ (k Q R : Nat), k ≤ 51 ∧ i = .int .i64 ((k : Int) - 1) ∧ q = .int .i64 (Q : Int) ∧ r = .int .i64 (R : Int) ∧ (R : Int) < C ∧ (Q : Int) ≤ 2251799813685248 ∧ Hid (Q * C + R = A / 2 ^ k * B) ∧ Hid (∃ m, wr = w.drewN m)) (fun _ _ i _ => (intOf i + 1).toNat)
  case atStart =>
    refine ⟨51, 0, 0, by omega, rfl, rfl, rfl, by omega, by omega, ?_, (⟨0, rfl⟩ : ∃ m, w = w.drewN m)⟩
    have : A / 2 ^ 51 = 0 := Nat.div_eq_of_lt (by omega)
    unfold Hid
    rw [this]; simp
  case round =>
    obtain ⟨k, Q, R, hk, rfl, rfl, rfl, hR, hQ, hinv, hw⟩ := hrel
    rcases Nat.eq_zero_or_pos k with h0 | h0
    · subst h0
      have hq : Hid (Q = A * B / C ∧ R = A * B % C) := by
        have h := hinv.out
        rw [Nat.pow_zero, Nat.div_one] at h
        exact quot_of Q R C _ h (by omega)
      clear hinv
      rcases Int.lt_trichotomy a 0 with ha | ha | ha
      · rcases Int.lt_trichotomy b 0 with hb | hb | hb
        · have da : decide (a < 0) = true := decide_eq_true ha
          have db : decide (b < 0) = true := decide_eq_true hb
          have na : (a != 0) = true := by simp; omega
          have nb : (b != 0) = true := by simp; omega
          have hc : Hid (¬ (decide (a < 0) != decide (b < 0) && (a != 0) && (b != 0)) = true) := by unfold Hid; rw [da, db, na, nb]; decide
          obtain ⟨c1, c2⟩ := V2.out hc.out
          rw [← hq.out.1] at c1 c2
          subst c1 c2
          go_wp2_with (go_at_call 36; refine (rResult_any _ _).mono ?_; rintro e w' ⟨rfl, rfl⟩; unfold res)
          go_ret2
          exact ⟨rfl, hw.out⟩
        · have da : decide (a < 0) = true := decide_eq_true ha
          have db : decide (b < 0) = false := decide_eq_false (by omega)
          have na : (a != 0) = true := by simp; omega
          have nb : (b != 0) = false := by simp; omega
          have hc : Hid (¬ (decide (a < 0) != decide (b < 0) && (a != 0) && (b != 0)) = true) := by unfold Hid; rw [da, db, na, nb]; decide
          obtain ⟨c1, c2⟩ := V2.out hc.out
          rw [← hq.out.1] at c1 c2
          subst c1 c2
          go_wp2_with (go_at_call 36; refine (rResult_any _ _).mono ?_; rintro e w' ⟨rfl, rfl⟩; unfold res)
          go_ret2
          exact ⟨rfl, hw.out⟩
        · have da : decide (a < 0) = true := decide_eq_true ha
          have db : decide (b < 0) = false := decide_eq_false (by omega)
          have na : (a != 0) = true := by simp; omega
          have nb : (b != 0) = true := by simp; omega
          have hc : Hid ((decide (a < 0) != decide (b < 0) && (a != 0) && (b != 0)) = true) := by unfold Hid; rw [da, db, na, nb]; rfl
          rcases Nat.eq_zero_or_pos R with hr | hr
          · have hr' : ¬ (0 : Int) < R := by omega
            obtain ⟨c1, c2⟩ := V3.out hc.out (by rw [← hq.out.2]; exact hr)
            rw [← hq.out.1] at c1 c2
            clear hr
            have C1 := Lib.hid c1
            have C2 := Lib.hid c2
            clear c1 c2
            go_wp2_with (go_at_call 36; refine (rResult_any _ _).mono ?_; rintro e w' ⟨rfl, rfl⟩; unfold res)
            go_ret2
            rw [C1.out, C2.out]
            exact ⟨rfl, hw.out⟩
          · have hr' : (1 : Int) ≤ R := by omega
            obtain ⟨c1, c2⟩ := V4.out hc.out (by rw [← hq.out.2]; exact hr)
            rw [← hq.out.1] at c1 c2
            clear hr
            have C1 := Lib.hid c1
            have C2 := Lib.hid c2
            clear c1 c2
            go_wp2_with (go_at_call 36; refine (rResult_any _ _).mono ?_; rintro e w' ⟨rfl, rfl⟩; unfold res)
            go_ret2
            rw [C1.out, C2.out]
            exact ⟨rfl, hw.out⟩
      · rcases Int.lt_trichotomy b 0 with hb | hb | hb
        · have da : decide (a < 0) = false := decide_eq_false (by omega)
          have db : decide (b < 0) = true := decide_eq_true hb
          have na : (a != 0) = false := by simp; omega
          have nb : (b != 0) = true := by simp; omega
          have hc : Hid (¬ (decide (a < 0) != decide (b < 0) && (a != 0) && (b != 0)) = true) := by unfold Hid; rw [da, db, na, nb]; decide
          obtain ⟨c1, c2⟩ := V2.out hc.out
          rw [← hq.out.1] at c1 c2
          subst c1 c2
          go_wp2_with (go_at_call 36; refine (rResult_any _ _).mono ?_; rintro e w' ⟨rfl, rfl⟩; unfold res)
          go_ret2
          exact ⟨rfl, hw.out⟩
        · have da : decide (a < 0) = false := decide_eq_false (by omega)
          have db : decide (b < 0) = false := decide_eq_false (by omega)
          have na : (a != 0) = false := by simp; omega
          have nb : (b != 0) = false := by simp; omega
          have hc : Hid (¬ (decide (a < 0) != decide (b < 0) && (a != 0) && (b != 0)) = true) := by unfold Hid; rw [da, db, na, nb]; decide
          obtain ⟨c1, c2⟩ := V2.out hc.out
          rw [← hq.out.1] at c1 c2
          subst c1 c2
          go_wp2_with (go_at_call 36; refine (rResult_any _ _).mono ?_; rintro e w' ⟨rfl, rfl⟩; unfold res)
          go_ret2
          exact ⟨rfl, hw.out⟩
        · have da : decide (a < 0) = false := decide_eq_false (by omega)
          have db : decide (b < 0) = false := decide_eq_false (by omega)
          have na : (a != 0) = false := by simp; omega
          have nb : (b != 0) = true := by simp; omega
          have hc : Hid (¬ (decide (a < 0) != decide (b < 0) && (a != 0) && (b != 0)) = true) := by unfold Hid; rw [da, db, na, nb]; decide
          obtain ⟨c1, c2⟩ := V2.out hc.out
          rw [← hq.out.1] at c1 c2
          subst c1 c2
          go_wp2_with (go_at_call 36; refine (rResult_any _ _).mono ?_; rintro e w' ⟨rfl, rfl⟩; unfold res)
          go_ret2
          exact ⟨rfl, hw.out⟩
      · rcases Int.lt_trichotomy b 0 with hb | hb | hb
        · have da : decide (a < 0) = false := decide_eq_false (by omega)
          have db : decide (b < 0) = true := decide_eq_true hb
          have na : (a != 0) = true := by simp; omega
          have nb : (b != 0) = true := by simp; omega
          have hc : Hid ((decide (a < 0) != decide (b < 0) && (a != 0) && (b != 0)) = true) := by unfold Hid; rw [da, db, na, nb]; rfl
          rcases Nat.eq_zero_or_pos R with hr | hr
          · have hr' : ¬ (0 : Int) < R := by omega
            obtain ⟨c1, c2⟩ := V3.out hc.out (by rw [← hq.out.2]; exact hr)
            rw [← hq.out.1] at c1 c2
            clear hr
            have C1 := Lib.hid c1
            have C2 := Lib.hid c2
            clear c1 c2
            go_wp2_with (go_at_call 36; refine (rResult_any _ _).mono ?_; rintro e w' ⟨rfl, rfl⟩; unfold res)
            go_ret2
            rw [C1.out, C2.out]
            exact ⟨rfl, hw.out⟩
          · have hr' : (1 : Int) ≤ R := by omega
            obtain ⟨c1, c2⟩ := V4.out hc.out (by rw [← hq.out.2]; exact hr)
            rw [← hq.out.1] at c1 c2
            clear hr
            have C1 := Lib.hid c1
            have C2 := Lib.hid c2
            clear c1 c2
            go_wp2_with (go_at_call 36; refine (rResult_any _ _).mono ?_; rintro e w' ⟨rfl, rfl⟩; unfold res)
            go_ret2
            rw [C1.out, C2.out]
            exact ⟨rfl, hw.out⟩
        · have da : decide (a < 0) = false := decide_eq_false (by omega)
          have db : decide (b < 0) = false := decide_eq_false (by omega)
          have na : (a != 0) = true := by simp; omega
          have nb : (b != 0) = false := by simp; omega
          have hc : Hid (¬ (decide (a < 0) != decide (b < 0) && (a != 0) && (b != 0)) = true) := by unfold Hid; rw [da, db, na, nb]; decide
          obtain ⟨c1, c2⟩ := V2.out hc.out
          rw [← hq.out.1] at c1 c2
          subst c1 c2
          go_wp2_with (go_at_call 36; refine (rResult_any _ _).mono ?_; rintro e w' ⟨rfl, rfl⟩; unfold res)
          go_ret2
          exact ⟨rfl, hw.out⟩
        · have da : decide (a < 0) = false := decide_eq_false (by omega)
          have db : decide (b < 0) = false := decide_eq_false (by omega)
          have na : (a != 0) = true := by simp; omega
          have nb : (b != 0) = true := by simp; omega
          have hc : Hid (¬ (decide (a < 0) != decide (b < 0) && (a != 0) && (b != 0)) = true) := by unfold Hid; rw [da, db, na, nb]; decide
          obtain ⟨c1, c2⟩ := V2.out hc.out
          rw [← hq.out.1] at c1 c2
          subst c1 c2
          go_wp2_with (go_at_call 36; refine (rResult_any _ _).mono ?_; rintro e w' ⟨rfl, rfl⟩; unfold res)
          go_ret2
          exact ⟨rfl, hw.out⟩
    · obtain ⟨j, rfl⟩ : ∃ j, k = j + 1 := ⟨k - 1, by omega⟩
      have ej : ((j + 1 : Nat) : Int) - 1 = (j : Int) := by omega
      rw [ej]
      clear ej h0
      obtain ⟨P, hP⟩ : ∃ P, A / 2 ^ j = P := ⟨_, rfl⟩
      have hPi : (A : Int) / 2 ^ j = (P : Int) := by rw [← hP, Int.natCast_ediv, Int.natCast_pow]; rfl
      have hst := bit_step A B C Q R P j hP hinv.out
      have EP := Lib.hid hP; clear hP
      have i1 : (B : Int) / (C : Int) = ((B / C : Nat) : Int) := (Int.natCast_ediv B C).symm
      have i0 : (B : Int) % (C : Int) = ((B % C : Nat) : Int) := (Int.natCast_emod B C).symm
      have q1 : B / C ≤ 1125899906842624 := Nat.le_trans (Nat.div_le_self _ _) (by omega)
      have q0 : B % C < C := Nat.mod_lt _ (by omega)
      obtain ⟨b1, e1⟩ : ∃ b1, B / C = b1 := ⟨_, rfl⟩
      obtain ⟨b0, e0⟩ : ∃ b0, B % C = b0 := ⟨_, rfl⟩
      rw [e1] at i1 q1 hst
      rw [e0] at i0 q0 hst
      clear e1 e0
      have q1' : (b1 : Int) ≤ 1125899906842624 := by omega
      have q0' : (b0 : Int) < C := by omega
      clear q1 q0
      by_cases ho : P % 2 = 1
      · have ho' : ((P : Int) % 2 == 1) = true := by simp; omega
        have hs := carry (2 * Q + b1) (2 * R + b0) C (P * B) (hst.1 ho)
        clear ho hst
        have j1 : (2 * (R : Int) + (b0 : Int)) / (C : Int) = (((2 * R + b0) / C : Nat) : Int) := by rw [Int.natCast_ediv]; congr 1
        have j0 : (2 * (R : Int) + (b0 : Int)) % (C : Int) = (((2 * R + b0) % C : Nat) : Int) := by rw [Int.natCast_emod]; congr 1
        have p1 : (2 * R + b0) / C ≤ 3 := by
          have : (2 * R + b0) / C < 4 := (Nat.div_lt_iff_lt_mul (by omega)).2 (by omega)
          omega
        have p0 : (2 * R + b0) % C < C := Nat.mod_lt _ (by omega)
        obtain ⟨d1, f1⟩ : ∃ d1, (2 * R + b0) / C = d1 := ⟨_, rfl⟩
        obtain ⟨d0, f0⟩ : ∃ d0, (2 * R + b0) % C = d0 := ⟨_, rfl⟩
        rw [f1] at j1 p1 hs
        rw [f0] at j0 p0 hs
        clear f1 f0
        have p1' : (d1 : Int) ≤ 3 := by omega
        have p0' : (d0 : Int) < C := by omega
        clear p1 p0
        have hpl : Hid ((2 * Q + b1) + d1 ≤ A * B / C) := part_le ((2 * Q + b1) + d1) d0 C P A B j (by omega) EP.out hs
        have HS := Lib.hid hs; clear hs
        by_cases hbig : 2251799813685248 < 2 * (Q : Int) + (b1 : Int) + (d1 : Int)
        · have HD := Lib.hid (V1.out (by have := hpl.out; omega))
          go_wp2_with (first | (go_at_call 40; refine (HA.out _).mono ?_; rintro e w' ⟨rfl, rfl⟩))
          go_quiet ((go_at_call 40; exact Calls.quiet_of_same (HB.out _)))
          go_wp2
          go_quiet (fail)
          go_wp2
          go_ret2
          refine ⟨res_f HD.out, ?_⟩
          obtain ⟨m, hm⟩ := hw.out
          subst hm
          exact ⟨_, World.drewN_drewN _ _ _⟩
        · go_wp2_with (first | (go_at_call 40; refine (HA.out _).mono ?_; rintro e w' ⟨rfl, rfl⟩))
          go_quiet ((go_at_call 40; exact Calls.quiet_of_same (HB.out _)))
          go_wp2
          go_quiet (fail)
          go_wp2
          go_roundw
          case rel =>
            refine ⟨j, (2 * Q + b1) + d1, d0, by omega, rfl, ?_, ?_, by omega, by omega, ?_, ?_⟩
            · go_num
            · go_num
            · unfold Hid; rw [EP.out]; exact HS.out
            · obtain ⟨m, hm⟩ := hw.out
              subst hm
              exact ⟨_, World.drewN_drewN _ _ _⟩
          case measure => simp [intOf] <;> omega
      · have ho' : ((P : Int) % 2 == 1) = false := by simp; omega
        have hs := carry (2 * Q) (2 * R) C (P * B) (hst.2 ho)
        clear ho hst
        have j1 : (2 * (R : Int)) / (C : Int) = (((2 * R) / C : Nat) : Int) := by rw [Int.natCast_ediv]; congr 1
        have j0 : (2 * (R : Int)) % (C : Int) = (((2 * R) % C : Nat) : Int) := by rw [Int.natCast_emod]; congr 1
        have p1 : (2 * R) / C ≤ 3 := by
          have : (2 * R) / C < 4 := (Nat.div_lt_iff_lt_mul (by omega)).2 (by omega)
          omega
        have p0 : (2 * R) % C < C := Nat.mod_lt _ (by omega)
        obtain ⟨d1, f1⟩ : ∃ d1, (2 * R) / C = d1 := ⟨_, rfl⟩
        obtain ⟨d0, f0⟩ : ∃ d0, (2 * R) % C = d0 := ⟨_, rfl⟩
        rw [f1] at j1 p1 hs
        rw [f0] at j0 p0 hs
        clear f1 f0
        have p1' : (d1 : Int) ≤ 3 := by omega
        have p0' : (d0 : Int) < C := by omega
        clear p1 p0
        have hpl : Hid ((2 * Q) + d1 ≤ A * B / C) := part_le ((2 * Q) + d1) d0 C P A B j (by omega) EP.out hs
        have HS := Lib.hid hs; clear hs
        by_cases hbig : 2251799813685248 < 2 * (Q : Int) + (d1 : Int)
        · have HD := Lib.hid (V1.out (by have := hpl.out; omega))
          go_wp2_with (first | (go_at_call 40; refine (HA.out _).mono ?_; rintro e w' ⟨rfl, rfl⟩))
          go_quiet (fail)
          go_wp2
          go_ret2
          refine ⟨res_f HD.out, ?_⟩
          obtain ⟨m, hm⟩ := hw.out
          subst hm
          exact ⟨_, World.drewN_drewN _ _ _⟩
        · go_wp2_with (first | (go_at_call 40; refine (HA.out _).mono ?_; rintro e w' ⟨rfl, rfl⟩))
          go_quiet (fail)
          go_wp2
          go_roundw
          case rel =>
            refine ⟨j, (2 * Q) + d1, d0, by omega, rfl, ?_, ?_, by omega, by omega, ?_, ?_⟩
            · go_num
            · go_num
            · unfold Hid; rw [EP.out]; exact HS.out
            · obtain ⟨m, hm⟩ := hw.out
              subst hm
              exact ⟨_, World.drewN_drewN _ _ _⟩
          case measure => simp [intOf] <;> omega

end Go.Proofs.YtcfdinfnahkanaaDoor
