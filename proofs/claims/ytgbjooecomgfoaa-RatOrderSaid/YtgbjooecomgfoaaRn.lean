/-
  What inRange, Mod, FloorDiv and CeilDiv of package num return (those that package rat calls).
-/
import Derived.Test.YtgbjooecomgfoaaRb
namespace Go.Proofs.Ytgbjooecomgfoaa
open Go.RowKit

/-- In range: the absolute value is at most 2^50. -/
def inB (n : Int) : Bool := decide (-1125899906842624 ≤ n ∧ n ≤ 1125899906842624)
theorem inB_iff {n : Int} : inB n = true ↔ (-1125899906842624 ≤ n ∧ n ≤ 1125899906842624) := by unfold inB; exact decide_eq_true_iff
theorem inB_not {n : Int} : inB n = false ↔ ¬ (-1125899906842624 ≤ n ∧ n ≤ 1125899906842624) := by unfold inB; exact decide_eq_false_iff_not
def allB (l : List Int) : Bool := l.all inB
/-- A value if the condition holds, else 0. -/
def okv (c : Bool) (v : Int) : Int := if c then v else 0
def res (c : Bool) (v : Int) : Ending := .returned (.tuple #[.int .i64 (okv c v), .bool c])
theorem okv_t {c : Bool} {v : Int} (h : c = true) : okv c v = v := by unfold okv; rw [if_pos h]
theorem okv_f {c : Bool} {v : Int} (h : c = false) : okv c v = 0 := by unfold okv; rw [if_neg (by simp [h])]
theorem res_t {c : Bool} {v u : Int} (h : c = true) (hv : v = u) : Ending.returned (.tuple #[.int .i64 u, .bool true]) = res c v := by unfold res; rw [okv_t h, h, hv]
theorem res_f {c : Bool} {v : Int} (h : c = false) : Ending.returned (.tuple #[.int .i64 0, .bool false]) = res c v := by unfold res; rw [okv_f h, h]
theorem allB_take (zs : List Int) (k : Nat) (h : k < zs.length) : allB (zs.take (k + 1)) = (allB (zs.take k) && inB (zs.getD k 0)) := by
  unfold allB
  rw [List.take_succ_eq_append_getElem h, List.all_append]
  simp [h]
theorem allB_of_bad (zs : List Int) (k : Nat) (h : k < zs.length) (hb : inB (zs.getD k 0) = false) : allB zs = false := by
  unfold allB
  rw [List.all_eq_false]
  refine ⟨zs.getD k 0, ?_, by rw [hb]; simp⟩
  simp only [List.getD_eq_getElem?_getD, List.getElem?_eq_getElem h, Option.getD_some]
  exact List.getElem_mem h

set_option maxHeartbeats 400000 in
theorem inRange_row (zs : List Int) (b off cap : Nat) (w : World) (hl : zs.length ≤ 9223372036854775807)
    (hc : ∀ k, k < zs.length → w.cell? ⟨b, off + k, none⟩ = some (.int .i64 (zs.getD k 0))) :
    Calls Try.prog 56 #[.slice (some ⟨b, off, none⟩) zs.length cap] w fun e w' => e = .returned (.bool (allB zs)) ∧ w = w' := by
  have HC := Lib.hid hc; clear hc
  go_enter Try.func56, Try.ntmps56
  go_wp2
  go_loop [4, 7] (fun _ i => ∃ k : Nat, k ≤ zs.length ∧ i = .int .i64 k ∧ Hid (allB (zs.take k) = true)) (fun _ i => zs.length - (intOf i).toNat)
  case atStart => exact ⟨0, Nat.zero_le _, rfl, by unfold Hid; rfl⟩
  case round =>
    obtain ⟨k, hk, rfl, ha⟩ := hrel
    by_cases hlt : k < zs.length
    · have hcell := HC.out k hlt
      have h1 := allB_take zs k hlt
      have h2 := allB_of_bad zs k hlt
      generalize hz : zs.getD k 0 = z at hcell h1 h2
      have HZ := Lib.hid hz; clear hz
      have H1 := Lib.hid h1; clear h1
      have H2 := Lib.hid h2; clear h2
      by_cases hin : -1125899906842624 ≤ z ∧ z ≤ 1125899906842624
      · obtain ⟨hi1, hi2⟩ := hin
        go_wp2
        go_round
        case rel => exact ⟨k + 1, by omega, by go_num, by unfold Hid; rw [H1.out, ha.out, inB_iff.2 ⟨hi1, hi2⟩]; rfl⟩
        case measure => simp [intOf]; omega
      · by_cases hlo : z < -1125899906842624
        · go_wp2
          go_ret
          exact ⟨ret_bool (H2.out (inB_not.2 hin)).symm, rfl⟩
        · have hhi : 1125899906842624 < z := by omega
          go_wp2
          go_ret
          exact ⟨ret_bool (H2.out (inB_not.2 hin)).symm, rfl⟩
    · go_wp2
      go_ret
      have e : zs.take k = zs := List.take_of_length_le (by omega)
      exact ⟨ret_bool (by rw [← ha.out, e]), rfl⟩

/-- A variadic call with two numbers: the new block is the row. -/
theorem inRange_two (a c : Int) (w : World) :
    Calls Try.prog 56 #[.slice (some ⟨w.heap.size, 0, none⟩) 2 2] (w.alloc (.cells #[.int .i64 a, .int .i64 c] 3)) fun e w' => e = .returned (.bool (inB a && inB c)) ∧ (w.alloc (.cells #[.int .i64 a, .int .i64 c] 3)) = w' := by
  have h := inRange_row [a, c] w.heap.size 0 2 (w.alloc (.cells #[.int .i64 a, .int .i64 c] 3)) (by simp) (by
    intro k hk
    match k, hk with
    | 0, _ => simp [go_sem]
    | 1, _ => simp [go_sem])
  have e : allB [a, c] = (inB a && inB c) := by simp [allB]
  rw [e] at h
  exact h

/-- The condition of the three divisions. -/
def dvB (a b : Int) : Bool := inB a && inB b && decide (1 ≤ b)
theorem dvB_iff {a b : Int} : dvB a b = true ↔ ((-1125899906842624 ≤ a ∧ a ≤ 1125899906842624) ∧ (-1125899906842624 ≤ b ∧ b ≤ 1125899906842624)) ∧ 1 ≤ b := by
  unfold dvB; rw [Bool.and_eq_true, Bool.and_eq_true, inB_iff, inB_iff, decide_eq_true_iff]

theorem tmod_neg_of (a b : Int) (hb : 1 ≤ b) (h : a.tmod b < 0) : a.tmod b + b = a % b := by
  have h1 := Int.emod_nonneg a (show b ≠ 0 by omega)
  have h2 := Int.emod_lt_of_pos a (show 0 < b by omega)
  rw [Int.tmod_eq_emod] at h ⊢
  split at h
  · omega
  · rename_i hn
    rw [if_neg hn]
    have : b.natAbs = b := by omega
    omega
theorem tmod_pos_of (a b : Int) (hb : 1 ≤ b) (h : ¬ a.tmod b < 0) : a.tmod b = a % b := by
  have h1 := Int.emod_nonneg a (show b ≠ 0 by omega)
  have h2 := Int.emod_lt_of_pos a (show 0 < b by omega)
  rw [Int.tmod_eq_emod] at h ⊢
  split
  · omega
  · rename_i hn
    rw [if_neg hn] at h
    have : b.natAbs = b := by omega
    omega
theorem tmod_bd (a b : Int) (hb : 1 ≤ b) : -b < a.tmod b ∧ a.tmod b < b := by
  have h1 := Int.emod_nonneg a (show b ≠ 0 by omega)
  have h2 := Int.emod_lt_of_pos a (show 0 < b by omega)
  rw [Int.tmod_eq_emod]
  split
  · omega
  · rename_i hn
    have h3 : a % b ≠ 0 := fun h => hn (Or.inr (Int.dvd_of_emod_eq_zero h))
    have : b.natAbs = b := by omega
    omega

set_option maxHeartbeats 400000 in
theorem mod_any (a b : Int) (w : World) :
    Calls Try.prog 55 #[.int .i64 a, .int .i64 b] w fun e w' => e = res (dvB a b) (a % b) ∧ Grown w w' := by
  rcases bcase (inB a && inB b) with h | h
  · have h' := h
    rw [Bool.and_eq_true, inB_iff, inB_iff] at h'
    obtain ⟨⟨ha1, ha2⟩, hb1, hb2⟩ := h'
    by_cases h1 : 1 ≤ b
    · have hd : dvB a b = true := dvB_iff.2 ⟨⟨⟨ha1, ha2⟩, hb1, hb2⟩, h1⟩
      have hm := tmod_bd a b h1
      have p1 := tmod_pos_of a b h1
      have p2 := tmod_neg_of a b h1
      obtain ⟨m, hm0⟩ : ∃ m, a.tmod b = m := ⟨_, rfl⟩
      rw [hm0] at hm p1 p2
      obtain ⟨hm1, hm2⟩ := hm
      have P1 := Lib.hid p1; clear p1
      have P2 := Lib.hid p2; clear p2
      go_enter Try.func55, Try.ntmps55
      go_wp2_with (go_at_call 56; refine (inRange_two _ _ _).mono ?_; rintro e w' ⟨rfl, rfl⟩)
      all_goals go_ret2
      · exact ⟨res_t hd (P2.out (by assumption)).symm, (Grown.refl _).alloc _ _⟩
      · exact ⟨res_t hd (P1.out (by omega)).symm, (Grown.refl _).alloc _ _⟩
    · have hd : dvB a b = false := by unfold dvB; rw [decide_eq_false h1]; simp
      go_enter Try.func55, Try.ntmps55
      go_wp2_with (go_at_call 56; refine (inRange_two _ _ _).mono ?_; rintro e w' ⟨rfl, rfl⟩)
      go_ret2
      exact ⟨res_f hd, (Grown.refl _).alloc _ _⟩
  · have hd : dvB a b = false := by unfold dvB; rw [h]; simp
    go_enter Try.func55, Try.ntmps55
    go_wp2_with (go_at_call 56; refine (inRange_two _ _ _).mono ?_; rintro e w' ⟨rfl, rfl⟩)
    go_ret2
    exact ⟨res_f hd, (Grown.refl _).alloc _ _⟩

theorem mod_yes (a b m : Int) (w : World) (h : dvB a b = true) (hm : a % b = m) :
    Calls Try.prog 55 #[.int .i64 a, .int .i64 b] w fun e w' => e = .returned (.tuple #[.int .i64 m, .bool true]) ∧ Grown w w' := by
  have := mod_any a b w
  rw [h, hm] at this
  exact this
theorem mod_no (a b : Int) (w : World) (h : dvB a b = false) :
    Calls Try.prog 55 #[.int .i64 a, .int .i64 b] w fun e w' => e = .returned (.tuple #[.int .i64 0, .bool false]) ∧ Grown w w' := by
  have := mod_any a b w
  rw [h] at this
  exact this
theorem sub_mod_tdiv (a b : Int) (hb : 1 ≤ b) : (a - a % b).tdiv b = a / b := by
  have h := Int.mul_ediv_add_emod a b
  have e : a - a % b = b * (a / b) := by omega
  rw [e, Int.mul_tdiv_cancel_left _ (show b ≠ 0 by omega)]
theorem div_bd (a b : Int) (hb : 1 ≤ b) (M : Int) (hM : 0 ≤ M) (h1 : -M ≤ a) (h2 : a ≤ M) : -M ≤ a / b ∧ a / b ≤ M := by
  constructor
  · rw [Int.le_ediv_iff_mul_le (by omega)]
    have : M * 1 ≤ M * b := Int.mul_le_mul_of_nonneg_left hb hM
    have e : -M * b = -(M * b) := Int.neg_mul M b
    rw [e]; omega
  · have h3 : a / b < M + 1 := by
      rw [Int.ediv_lt_iff_lt_mul (by omega)]
      have : (M + 1) * 1 ≤ (M + 1) * b := Int.mul_le_mul_of_nonneg_left hb (by omega)
      omega
    omega

set_option maxHeartbeats 400000 in
theorem fdiv_any (a b : Int) (w : World) :
    Calls Try.prog 52 #[.int .i64 a, .int .i64 b] w fun e w' => e = res (dvB a b) (a / b) ∧ Grown w w' := by
  rcases bcase (dvB a b) with hd | hd
  · obtain ⟨⟨⟨ha1, ha2⟩, hb1, hb2⟩, h1⟩ := dvB_iff.1 hd
    have hm1 := Int.emod_nonneg a (show b ≠ 0 by omega)
    have hm2 := Int.emod_lt_of_pos a (show 0 < b by omega)
    have hq := sub_mod_tdiv a b h1
    obtain ⟨hq1, hq2⟩ := div_bd a b h1 1125899906842624 (by omega) (by omega) ha2
    have M := fun w => mod_yes a b (a % b) w hd rfl
    obtain ⟨q, hq0⟩ : ∃ q, a / b = q := ⟨_, rfl⟩
    obtain ⟨m, hm0⟩ : ∃ m, a % b = m := ⟨_, rfl⟩
    rw [hq0] at hq hq1 hq2
    rw [hm0] at hm1 hm2 hq M
    rw [hq0]
    have HM := Lib.hid M; clear M
    have Q0 := Lib.hid hq0; clear hq0
    have M0 := Lib.hid hm0; clear hm0
    have HD := Lib.hid hd; clear hd
    go_enter Try.func52, Try.ntmps52
    go_wp2_with (go_at_call 55; refine (HM.out _).mono ?_; rintro e w' ⟨rfl, hg⟩)
    go_ret2
    exact ⟨res_t HD.out rfl, hg⟩
  · go_enter Try.func52, Try.ntmps52
    go_wp2_with (go_at_call 55; refine (mod_no _ _ _ hd).mono ?_; rintro e w' ⟨rfl, hg⟩)
    go_ret2
    exact ⟨res_f hd, hg⟩

theorem dvB_neg (a b : Int) : dvB (-a) b = dvB a b := by
  rw [Bool.eq_iff_iff, dvB_iff, dvB_iff]; omega

/-- The least integer that is at least a / b. -/
def cdv (a b : Int) : Int := -((-a) / b)

set_option maxHeartbeats 400000 in
theorem cdiv_any (a b : Int) (w : World) (wa : -9223372036854775808 ≤ a) (wa' : a ≤ 9223372036854775807) :
    Calls Try.prog 53 #[.int .i64 a, .int .i64 b] w fun e w' => e = res (dvB a b) (cdv a b) ∧ Grown w w' := by
  rcases bcase (dvB a b) with hd | hd
  · obtain ⟨⟨⟨ha1, ha2⟩, hb1, hb2⟩, h1⟩ := dvB_iff.1 hd
    obtain ⟨hq1, hq2⟩ := div_bd (-a) b h1 1125899906842624 (by omega) (by omega) (by omega)
    have M := fun w => fdiv_any (-a) b w
    rw [dvB_neg, hd] at M
    unfold cdv
    obtain ⟨q, hq0⟩ : ∃ q, -a / b = q := ⟨_, rfl⟩
    rw [hq0] at hq1 hq2 M
    rw [hq0]
    have HM := Lib.hid M; clear M
    have Q0 := Lib.hid hq0; clear hq0
    have HD := Lib.hid hd; clear hd
    go_enter Try.func53, Try.ntmps53
    go_wp2_with (go_at_call 52; refine (HM.out _).mono ?_; rintro e w' ⟨rfl, hg⟩; unfold res okv)
    go_ret2
    exact ⟨res_t HD.out rfl, hg⟩
  · have hx : dvB (wrap64 (-a)) b = false := by
      by_cases hmin : a = -9223372036854775808
      · subst hmin
        have : wrap64 (- -9223372036854775808) = -9223372036854775808 := by unfold wrap64; omega
        rw [this]; exact hd
      · have : wrap64 (-a) = -a := by unfold wrap64; omega
        rw [this, dvB_neg]; exact hd
    have M := fun w => fdiv_any (wrap64 (-a)) b w
    rw [hx] at M
    have HM := Lib.hid M; clear M
    have HX := Lib.hid hx; clear hx
    go_enter Try.func53, Try.ntmps53
    go_wp2_with (go_at_call 52; refine (HM.out _).mono ?_; rintro e w' ⟨rfl, hg⟩; unfold res okv)
    go_ret2
    exact ⟨res_f hd, hg⟩


theorem cdv_eq (a b : Int) (hb : 1 ≤ b) (hb2 : b ≤ 1125899906842624) : (a / b * b < a → a / b + 1 = cdv a b) ∧ (¬ a / b * b < a → a / b = cdv a b) ∧ (-(1125899906842624 : Int) ≤ a → a ≤ 1125899906842624 → -2251799813685248 ≤ a / b * b ∧ a / b * b ≤ 1125899906842624) := by
  have h5 := Int.mul_ediv_add_emod a b
  have h6 := Int.mul_ediv_add_emod (-a) b
  have m1 := Int.emod_nonneg a (show b ≠ 0 by omega)
  have m2 := Int.emod_lt_of_pos a (show 0 < b by omega)
  have n1 := Int.emod_nonneg (-a) (show b ≠ 0 by omega)
  have n2 := Int.emod_lt_of_pos (-a) (show 0 < b by omega)
  have key : ∀ x y : Int, b * x = b * y → x = y := fun x y h => Int.eq_of_mul_eq_mul_left (by omega) h
  unfold cdv
  rw [Int.mul_comm (a / b) b]
  have e0 : b * (a / b + 1) = b * (a / b) + b := by rw [Int.mul_add, Int.mul_one]
  have e1 : b * (-(-a / b)) = -(b * (-a / b)) := Int.mul_neg _ _
  have le_of : ∀ x y : Int, b * x < b * y → x < y := fun x y h => Int.lt_of_mul_lt_mul_left h (by omega)
  have e2 : b * (a / b + 1 + 1) = b * (a / b) + b + b := by rw [Int.mul_add, e0, Int.mul_one]
  have e3 : b * (a / b + -1) = b * (a / b) - b := by rw [Int.mul_add, Int.mul_neg, Int.mul_one]; omega
  have up1 : -(-a / b) < a / b + 1 + 1 := le_of _ _ (by rw [e1, e2]; omega)
  have lo1 : a / b + -1 < -(-a / b) := le_of _ _ (by rw [e1, e3]; omega)
  refine ⟨fun h => ?_, fun h => ?_, fun l1 l2 => ?_⟩
  · have : a / b < -(-a / b) := le_of _ _ (by rw [e1]; omega)
    omega
  · have : -(-a / b) < a / b + 1 := le_of _ _ (by rw [e1, e0]; omega)
    omega
  · omega

end Go.Proofs.Ytgbjooecomgfoaa
