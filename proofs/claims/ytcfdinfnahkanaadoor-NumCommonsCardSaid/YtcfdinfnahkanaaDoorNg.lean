/-
  What MulDiv and Mul of the reference of layer 1 return, for all integers that fit 64 bits: the same as the program's.
-/
import Derived.Test.YtcfdinfnahkanaaDoorNf
namespace Go.Proofs.YtcfdinfnahkanaaDoor
open Go.RowKit

theorem sign_cond (a b : Int) : (decide (a < 0) != decide (b < 0) && (a != 0) && (b != 0)) = decide (a * b < 0) := by
  have hp := @Int.mul_neg_of_neg_of_pos a b
  have hp2 := @Int.mul_neg_of_pos_of_neg a b
  rcases Int.lt_trichotomy a 0 with ha | ha | ha
  · rcases Int.lt_trichotomy b 0 with hb | hb | hb
    · have := Int.mul_pos_of_neg_of_neg ha hb
      rw [decide_eq_true ha, decide_eq_true hb, decide_eq_false (by omega)]; rfl
    · subst hb; simp
    · have := hp ha hb
      have h1 : (a != 0) = true := by simp; omega
      have h2 : (b != 0) = true := by simp; omega
      rw [decide_eq_true ha, decide_eq_false (show ¬ b < 0 by omega), h1, h2, decide_eq_true this]; rfl
  · subst ha; simp
  · rcases Int.lt_trichotomy b 0 with hb | hb | hb
    · have := hp2 ha hb
      have h1 : (a != 0) = true := by simp; omega
      have h2 : (b != 0) = true := by simp; omega
      rw [decide_eq_false (show ¬ a < 0 by omega), decide_eq_true hb, h1, h2, decide_eq_true this]; rfl
    · subst hb; simp
    · have := Int.mul_pos ha hb
      rw [decide_eq_false (show ¬ a < 0 by omega), decide_eq_false (show ¬ b < 0 by omega), decide_eq_false (by omega)]; rfl

set_option maxHeartbeats 400000 in
theorem rmuldiv_any (a b c : Int) (w : World) :
    Calls Tryd.prog 26 #[.int .i64 a, .int .i64 b, .int .i64 c] w fun e w' => e = res (mdB a b c) (a * b / c) ∧ Grown w w' := by
  rcases bcase (inB a) with ha | ha
  · rcases bcase (inB b) with hb | hb
    · rcases bcase (inB c) with hc | hc
      · by_cases h1 : 1 ≤ c
        · obtain ⟨ha1, ha2⟩ := inB_iff.1 ha
          obtain ⟨hb1, hb2⟩ := inB_iff.1 hb
          obtain ⟨hc1, hc2⟩ := inB_iff.1 hc
          obtain ⟨C, rfl⟩ : ∃ C : Nat, c = C := ⟨c.toNat, by omega⟩
          have e0 : mdB a b C = inB (a * b / C) := by unfold mdB; rw [ha, hb, hc, decide_eq_true h1]; simp
          rw [e0]
          have key := rmuldiv_core a b a.natAbs b.natAbs C w ha1 ha2 hb1 hb2 h1 hc2 rfl rfl (inB (a * b / C)) (a * b / C)
          have hn : (a * b).natAbs = a.natAbs * b.natAbs := Int.natAbs_mul a b
          rw [sign_cond] at key
          generalize a.natAbs * b.natAbs = N at *
          obtain ⟨nf0, nf1⟩ := neg_floor N C (by omega)
          have pos : ¬ a * b < 0 → a * b / C = ((N / C : Nat) : Int) := fun h => by
            have : a * b = (N : Int) := by omega
            rw [this]; exact (Int.natCast_ediv N C).symm
          have neg : a * b < 0 → a * b = -(N : Int) := fun h => by omega
          refine (key ?_ ?_ ?_ ?_).mono ?_
          · intro hbig
            rw [inB_not]
            by_cases hs : a * b < 0
            · rw [neg hs]
              rcases Nat.eq_zero_or_pos (N % C) with hr | hr
              · rw [nf0 hr]; omega
              · rw [nf1 hr]; omega
            · rw [pos hs]; omega
          · intro hs
            rw [pos (by simpa using hs)]; exact ⟨rfl, rfl⟩
          · intro hs hr
            rw [neg (by simpa using hs), nf0 hr]; exact ⟨rfl, rfl⟩
          · intro hs hr
            rw [neg (by simpa using hs), nf1 hr]
            have : -((N / C : Nat) : Int) - 1 = -(((N / C : Nat) : Int) + 1) := by omega
            rw [this]; exact ⟨rfl, rfl⟩
          · rintro e w' ⟨rfl, n, rfl⟩
            exact ⟨rfl, grown_drewN w n⟩
        · have hd : decide (1 ≤ c) = false := decide_eq_false h1
          have HD := Lib.hid hd; clear hd
          go_enter Tryd.func26, Tryd.ntmps26
          go_wp2_with (go_at_call 35; refine (rIn_any _ _).mono ?_; rintro e w' ⟨rfl, rfl⟩)
          go_ret2
          exact ⟨res_f (by unfold mdB; rw [HD.out]; simp), Grown.refl _⟩
      · go_enter Tryd.func26, Tryd.ntmps26
        go_wp2_with (go_at_call 35; refine (rIn_any _ _).mono ?_; rintro e w' ⟨rfl, rfl⟩)
        go_ret2
        exact ⟨res_f (by unfold mdB; rw [hc]; simp), Grown.refl _⟩
    · go_enter Tryd.func26, Tryd.ntmps26
      go_wp2_with (go_at_call 35; refine (rIn_any _ _).mono ?_; rintro e w' ⟨rfl, rfl⟩)
      go_ret2
      exact ⟨res_f (by unfold mdB; rw [hb]; simp), Grown.refl _⟩
  · go_enter Tryd.func26, Tryd.ntmps26
    go_wp2_with (go_at_call 35; refine (rIn_any _ _).mono ?_; rintro e w' ⟨rfl, rfl⟩)
    go_ret2
    exact ⟨res_f (by unfold mdB; rw [ha]; simp), Grown.refl _⟩

set_option maxHeartbeats 400000 in
theorem rmul_any (a b : Int) (w : World) :
    Calls Tryd.prog 17 #[.int .i64 a, .int .i64 b] w fun e w' => e = res (inB a && inB b && inB (a * b)) (a * b) ∧ Grown w w' := by
  have X : ∀ w, Calls Tryd.prog 26 #[.int .i64 a, .int .i64 b, .int .i64 1] w fun e w' => e = res (inB a && inB b && inB (a * b)) (a * b) ∧ Grown w w' := fun w => by
    have := rmuldiv_any a b 1 w
    have e : mdB a b 1 = (inB a && inB b && inB (a * b)) := by unfold mdB; rw [Int.ediv_one, show inB 1 = true from rfl]; simp
    rw [e, Int.ediv_one] at this
    exact this
  have HX := Lib.hid X; clear X
  go_enter Tryd.func17, Tryd.ntmps17
  go_wp2_with (go_at_call 26; refine (HX.out _).mono ?_; rintro e w' ⟨rfl, hg⟩; unfold res)
  go_ret2
  exact ⟨rfl, hg⟩

end Go.Proofs.YtcfdinfnahkanaaDoor
