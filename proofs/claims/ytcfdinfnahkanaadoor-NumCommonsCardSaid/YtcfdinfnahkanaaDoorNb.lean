/-
  What In, result, Add, Sub, FloorDiv, CeilDiv and Mod of the reference of layer 1 return: one contract a function, for all integers that fit 64 bits.
-/
import Derived.Test.YtcfdinfnahkanaaDoorNa
namespace Go.Proofs.YtcfdinfnahkanaaDoor
open Go.RowKit

set_option maxHeartbeats 400000 in
theorem rIn_any (n : Int) (w : World) :
    Calls Tryd.prog 35 #[.int .i64 n] w fun e w' => e = .returned (.bool (inB n)) ∧ w = w' := by
  by_cases h1 : -1125899906842624 ≤ n
  · by_cases h2 : n ≤ 1125899906842624
    · go_enter Tryd.func35, Tryd.ntmps35
      go_wp2
      go_ret
      exact ⟨ret_bool (by rw [inB_iff.2 ⟨h1, h2⟩]), rfl⟩
    · go_enter Tryd.func35, Tryd.ntmps35
      go_wp2
      go_ret
      exact ⟨ret_bool (by rw [inB_not.2 (by omega)]), rfl⟩
  · go_enter Tryd.func35, Tryd.ntmps35
    go_wp2
    go_ret
    exact ⟨ret_bool (by rw [inB_not.2 (by omega)]), rfl⟩

set_option maxHeartbeats 400000 in
theorem rResult_any (n : Int) (w : World) :
    Calls Tryd.prog 36 #[.int .i64 n] w fun e w' => e = res (inB n) n ∧ w = w' := by
  rcases bcase (inB n) with h | h
  all_goals
    go_enter Tryd.func36, Tryd.ntmps36
    go_wp2_with (go_at_call 35; refine (rIn_any _ _).mono ?_; rintro e w' ⟨rfl, rfl⟩)
    go_ret2
  · exact ⟨res_t h rfl, rfl⟩
  · exact ⟨res_f h, rfl⟩

set_option maxHeartbeats 400000 in
theorem rAdd_any (a b : Int) (w : World) :
    Calls Tryd.prog 13 #[.int .i64 a, .int .i64 b] w fun e w' => e = res (inB a && inB b && inB (a + b)) (a + b) ∧ w = w' := by
  rcases bcase (inB a) with ha | ha
  · rcases bcase (inB b) with hb | hb
    · obtain ⟨ha1, ha2⟩ := inB_iff.1 ha
      obtain ⟨hb1, hb2⟩ := inB_iff.1 hb
      have X : (inB a && inB b && inB (a + b)) = inB (a + b) := by rw [ha, hb]; simp
      rw [X]; clear X
      go_enter Tryd.func13, Tryd.ntmps13
      go_wp2_with (first | (go_at_call 35; refine (rIn_any _ _).mono ?_; rintro e w' ⟨rfl, rfl⟩) | (go_at_call 36; refine (rResult_any _ _).mono ?_; rintro e w' ⟨rfl, rfl⟩; unfold res))
      go_ret2
      exact ⟨rfl, rfl⟩
    · go_enter Tryd.func13, Tryd.ntmps13
      go_wp2_with (go_at_call 35; refine (rIn_any _ _).mono ?_; rintro e w' ⟨rfl, rfl⟩)
      go_ret2
      exact ⟨res_f (by rw [hb]; simp), rfl⟩
  · go_enter Tryd.func13, Tryd.ntmps13
    go_wp2_with (go_at_call 35; refine (rIn_any _ _).mono ?_; rintro e w' ⟨rfl, rfl⟩)
    go_ret2
    exact ⟨res_f (by rw [ha]; simp), rfl⟩

set_option maxHeartbeats 400000 in
theorem rSub_any (a b : Int) (w : World) :
    Calls Tryd.prog 15 #[.int .i64 a, .int .i64 b] w fun e w' => e = res (inB a && inB b && inB (a - b)) (a - b) ∧ w = w' := by
  rcases bcase (inB a) with ha | ha
  · rcases bcase (inB b) with hb | hb
    · obtain ⟨ha1, ha2⟩ := inB_iff.1 ha
      obtain ⟨hb1, hb2⟩ := inB_iff.1 hb
      have X : (inB a && inB b && inB (a - b)) = inB (a - b) := by rw [ha, hb]; simp
      rw [X]; clear X
      go_enter Tryd.func15, Tryd.ntmps15
      go_wp2_with (first | (go_at_call 35; refine (rIn_any _ _).mono ?_; rintro e w' ⟨rfl, rfl⟩) | (go_at_call 36; refine (rResult_any _ _).mono ?_; rintro e w' ⟨rfl, rfl⟩; unfold res))
      go_ret2
      exact ⟨rfl, rfl⟩
    · go_enter Tryd.func15, Tryd.ntmps15
      go_wp2_with (go_at_call 35; refine (rIn_any _ _).mono ?_; rintro e w' ⟨rfl, rfl⟩)
      go_ret2
      exact ⟨res_f (by rw [hb]; simp), rfl⟩
  · go_enter Tryd.func15, Tryd.ntmps15
    go_wp2_with (go_at_call 35; refine (rIn_any _ _).mono ?_; rintro e w' ⟨rfl, rfl⟩)
    go_ret2
    exact ⟨res_f (by rw [ha]; simp), rfl⟩

theorem tdiv_floor (a b : Int) (hb : 1 ≤ b) :
    (a < a.tdiv b * b → a.tdiv b - 1 = a / b) ∧ (a.tdiv b * b ≤ a → a.tdiv b = a / b) ∧ (-(1125899906842624 : Int) ≤ a → a ≤ 1125899906842624 → (-1125899906842624 ≤ a.tdiv b * b ∧ a.tdiv b * b ≤ 1125899906842624) ∧ -1125899906842624 ≤ a.tdiv b ∧ a.tdiv b ≤ 1125899906842624) := by
  have h1 := Int.mul_tdiv_add_tmod a b
  have h2 := tmod_bd a b hb
  have h3 := tmod_pos_of a b hb
  have h4 := tmod_neg_of a b hb
  have h5 := Int.mul_ediv_add_emod a b
  rw [Int.mul_comm (a.tdiv b) b]
  have key : ∀ x y : Int, b * x = b * y → x = y := fun x y h => Int.eq_of_mul_eq_mul_left (by omega) h
  have e0 : b * (a.tdiv b - 1) = b * a.tdiv b - b := by rw [Int.mul_sub, Int.mul_one]
  refine ⟨fun h => ?_, fun h => ?_, fun l1 l2 => ?_⟩
  · have := h4 (by omega)
    exact key _ _ (by rw [e0]; omega)
  · have := h3 (by omega)
    exact key _ _ (by omega)
  · clear e0 key
    have hs : 0 ≤ a → 0 ≤ a.tmod b := fun h => Int.tmod_nonneg b h
    have hs' : a ≤ 0 → a.tmod b ≤ 0 := fun h => by have := Int.tmod_nonneg b (show 0 ≤ -a by omega); rw [Int.neg_tmod] at this; omega
    have hq : 0 ≤ a → 0 ≤ a.tdiv b := fun h => Int.tdiv_nonneg h (by omega)
    have hq' : a ≤ 0 → a.tdiv b ≤ 0 := fun h => by have := Int.tdiv_nonneg (show 0 ≤ -a by omega) (show 0 ≤ b by omega); rw [Int.neg_tdiv] at this; omega
    by_cases h0 : 0 ≤ a
    · have := hs h0; have := hq h0
      have : b * a.tdiv b ≤ a := by omega
      have h8 : a.tdiv b * 1 ≤ a.tdiv b * b := Int.mul_le_mul_of_nonneg_left hb (hq h0)
      rw [Int.mul_comm (a.tdiv b) b] at h8
      omega
    · have := hs' (by omega)
      have : a ≤ b * a.tdiv b := by omega
      have h9 := hq' (by omega)
      have h8 : -a.tdiv b * 1 ≤ -a.tdiv b * b := Int.mul_le_mul_of_nonneg_left hb (by omega)
      rw [Int.neg_mul (a.tdiv b) b, Int.mul_comm (a.tdiv b) b] at h8
      omega

set_option maxHeartbeats 400000 in
theorem rFloorDiv_any (a b : Int) (w : World) :
    Calls Tryd.prog 20 #[.int .i64 a, .int .i64 b] w fun e w' => e = res (dvB a b) (a / b) ∧ w = w' := by
  rcases bcase (inB a) with ha | ha
  · rcases bcase (inB b) with hb | hb
    · by_cases h1 : 1 ≤ b
      · obtain ⟨ha1, ha2⟩ := inB_iff.1 ha
        obtain ⟨hb1, hb2⟩ := inB_iff.1 hb
        have hd : dvB a b = true := dvB_iff.2 ⟨⟨⟨ha1, ha2⟩, hb1, hb2⟩, h1⟩
        obtain ⟨f1, f2, f3⟩ := tdiv_floor a b h1
        obtain ⟨⟨p1, p2⟩, q1, q2⟩ := f3 ha1 ha2
        clear f3
        obtain ⟨q, hq0⟩ : ∃ q, a.tdiv b = q := ⟨_, rfl⟩
        rw [hq0] at f1 f2 p1 p2 q1 q2
        obtain ⟨p, hp0⟩ : ∃ p, q * b = p := ⟨_, rfl⟩
        rw [hp0] at f1 f2 p1 p2
        have F1 := Lib.hid f1; clear f1
        have F2 := Lib.hid f2; clear f2
        have HD := Lib.hid hd; clear hd
        go_enter Tryd.func20, Tryd.ntmps20
        go_wp2_with (go_at_call 35; refine (rIn_any _ _).mono ?_; rintro e w' ⟨rfl, rfl⟩)
        all_goals go_ret2
        · exact ⟨res_t HD.out (F1.out (by assumption)).symm, rfl⟩
        · exact ⟨res_t HD.out (F2.out (by omega)).symm, rfl⟩
      · have hd : dvB a b = false := by unfold dvB; rw [decide_eq_false h1]; simp
        have HD := Lib.hid hd; clear hd
        go_enter Tryd.func20, Tryd.ntmps20
        go_wp2_with (go_at_call 35; refine (rIn_any _ _).mono ?_; rintro e w' ⟨rfl, rfl⟩)
        go_ret2
        exact ⟨res_f HD.out, rfl⟩
    · go_enter Tryd.func20, Tryd.ntmps20
      go_wp2_with (go_at_call 35; refine (rIn_any _ _).mono ?_; rintro e w' ⟨rfl, rfl⟩)
      go_ret2
      exact ⟨res_f (by unfold dvB; rw [hb]; simp), rfl⟩
  · go_enter Tryd.func20, Tryd.ntmps20
    go_wp2_with (go_at_call 35; refine (rIn_any _ _).mono ?_; rintro e w' ⟨rfl, rfl⟩)
    go_ret2
    exact ⟨res_f (by unfold dvB; rw [ha]; simp), rfl⟩

theorem cdv_eq (a b : Int) (hb : 1 ≤ b) (hb2 : b ≤ 1125899906842624) : (a / b * b < a → a / b + 1 = cdv a b) ∧ (¬ a / b * b < a → a / b = cdv a b) ∧ (-(1125899906842624 : Int) ≤ a → a ≤ 1125899906842624 → -2251799813685248 ≤ a / b * b ∧ a / b * b ≤ 1125899906842624) := by
  have h5 := Int.mul_ediv_add_emod a b
  have h6 := Int.mul_ediv_add_emod (-a) b
  have m1 := Int.emod_nonneg a (show b ≠ 0 by omega)
  have m2 := Int.emod_lt_of_pos a (show 0 < b by omega)
  have n1 := Int.emod_nonneg (-a) (show b ≠ 0 by omega)
  have n2 := Int.emod_lt_of_pos (-a) (show 0 < b by omega)
  have key : ∀ x y : Int, b * x = b * y → x = y := fun x y h => Int.eq_of_mul_eq_mul_left (by omega) h
  unfold cdv
  rw [Int.mul_comm (a / b) b]
  have e0 : b * (a / b + 1) = b * (a / b) + b := by rw [Int.mul_add, Int.mul_one]
  have e1 : b * (-(-a / b)) = -(b * (-a / b)) := Int.mul_neg _ _
  have le_of : ∀ x y : Int, b * x < b * y → x < y := fun x y h => Int.lt_of_mul_lt_mul_left h (by omega)
  have e2 : b * (a / b + 1 + 1) = b * (a / b) + b + b := by rw [Int.mul_add, e0, Int.mul_one]
  have e3 : b * (a / b + -1) = b * (a / b) - b := by rw [Int.mul_add, Int.mul_neg, Int.mul_one]; omega
  have up1 : -(-a / b) < a / b + 1 + 1 := le_of _ _ (by rw [e1, e2]; omega)
  have lo1 : a / b + -1 < -(-a / b) := le_of _ _ (by rw [e1, e3]; omega)
  refine ⟨fun h => ?_, fun h => ?_, fun l1 l2 => ?_⟩
  · have : a / b < -(-a / b) := le_of _ _ (by rw [e1]; omega)
    omega
  · have : -(-a / b) < a / b + 1 := le_of _ _ (by rw [e1, e0]; omega)
    omega
  · omega


set_option maxHeartbeats 400000 in
theorem rCeilDiv_any (a b : Int) (w : World) :
    Calls Tryd.prog 22 #[.int .i64 a, .int .i64 b] w fun e w' => e = res (dvB a b) (cdv a b) ∧ w = w' := by
  have M := fun w => rFloorDiv_any a b w
  rcases bcase (dvB a b) with hd | hd
  · obtain ⟨⟨⟨ha1, ha2⟩, hb1, hb2⟩, h1⟩ := dvB_iff.1 hd
    obtain ⟨f1, f2, f3⟩ := cdv_eq a b h1 hb2
    obtain ⟨p1, p2⟩ := f3 ha1 ha2
    obtain ⟨q1, q2⟩ := div_bd a b h1 1125899906842624 (by omega) ha1 ha2
    clear f3
    obtain ⟨q, hq0⟩ : ∃ q, a / b = q := ⟨_, rfl⟩
    rw [hd, hq0] at M
    rw [hq0] at f1 f2 p1 p2 q1 q2
    clear hq0
    obtain ⟨p, hp0⟩ : ∃ p, q * b = p := ⟨_, rfl⟩
    rw [hp0] at f1 f2 p1 p2
    have F1 := Lib.hid f1; clear f1
    have F2 := Lib.hid f2; clear f2
    have HD := Lib.hid hd; clear hd
    have HM := Lib.hid M; clear M
    go_enter Tryd.func22, Tryd.ntmps22
    go_wp2_with (go_at_call 20; refine (HM.out _).mono ?_; rintro e w' ⟨rfl, rfl⟩; unfold res okv)
    all_goals go_ret2
    · exact ⟨res_t HD.out (F1.out (by assumption)).symm, rfl⟩
    · exact ⟨res_t HD.out (F2.out (by omega)).symm, rfl⟩
  · rw [hd] at M
    have HM := Lib.hid M; clear M
    have HD := Lib.hid hd; clear hd
    go_enter Tryd.func22, Tryd.ntmps22
    go_wp2_with (go_at_call 20; refine (HM.out _).mono ?_; rintro e w' ⟨rfl, rfl⟩; unfold res okv)
    go_ret2
    exact ⟨res_f HD.out, rfl⟩

set_option maxHeartbeats 400000 in
theorem rMod_any (a b : Int) (w : World) :
    Calls Tryd.prog 24 #[.int .i64 a, .int .i64 b] w fun e w' => e = res (dvB a b) (a % b) ∧ w = w' := by
  have M := fun w => rFloorDiv_any a b w
  rcases bcase (dvB a b) with hd | hd
  · obtain ⟨⟨⟨ha1, ha2⟩, hb1, hb2⟩, h1⟩ := dvB_iff.1 hd
    obtain ⟨p1, p2⟩ := (cdv_eq a b h1 hb2).2.2 ha1 ha2
    have h5 := Int.mul_ediv_add_emod a b
    rw [Int.mul_comm] at h5
    have m1 := Int.emod_nonneg a (show b ≠ 0 by omega)
    have m2 := Int.emod_lt_of_pos a (show 0 < b by omega)
    obtain ⟨q, hq0⟩ : ∃ q, a / b = q := ⟨_, rfl⟩
    rw [hd, hq0] at M
    rw [hq0] at p1 p2 h5
    clear hq0
    obtain ⟨p, hp0⟩ : ∃ p, q * b = p := ⟨_, rfl⟩
    rw [hp0] at p1 p2 h5
    obtain ⟨m, hm0⟩ : ∃ m, a % b = m := ⟨_, rfl⟩
    rw [hm0] at m1 m2 h5
    rw [hm0]
    have H5 := Lib.hid h5; clear h5
    have HD := Lib.hid hd; clear hd
    have HM := Lib.hid M; clear M
    go_enter Tryd.func24, Tryd.ntmps24
    go_wp2_with (go_at_call 20; refine (HM.out _).mono ?_; rintro e w' ⟨rfl, rfl⟩; unfold res okv)
    go_ret2
    have h5 := H5.out
    exact ⟨res_t HD.out (by omega), rfl⟩
  · rw [hd] at M
    have HM := Lib.hid M; clear M
    have HD := Lib.hid hd; clear hd
    go_enter Tryd.func24, Tryd.ntmps24
    go_wp2_with (go_at_call 20; refine (HM.out _).mono ?_; rintro e w' ⟨rfl, rfl⟩; unfold res okv)
    go_ret2
    exact ⟨res_f HD.out, rfl⟩

end Go.Proofs.YtcfdinfnahkanaaDoor
