/-
  What drift and local of package clock and Floor, At and Drift of its reference return.
-/
import Derived.Test.YtaekofoonekkkaaTa
import Derived.Deep.RegionHeld3
namespace Go.Proofs.Ytaekofoonekkkaa
open Go.RowKit

attribute [local go_sem] Oper.semAt_some

set_option maxHeartbeats 400000 in
theorem drift_any (p t : Int) (w : World) (hp : -200000 ≤ p ∧ p ≤ 200000) (ht : tmB t = true) :
    Calls Try.prog 30 #[.int .i64 p, .int .i64 t] w fun e w' => e = .returned (.int .i64 (t * p / 1000000000)) ∧ Bl w w' := by
  have h1 := dr_bd hp (tmB_iff.1 ht)
  have h2 := tmB_iff.1 ht
  have hm : mdB p t 1000000000 = true := by
    unfold mdB
    rw [inB_iff.2 (by omega), inB_iff.2 (by omega), inB_iff.2 (by omega), Int.mul_comm, inB_iff.2 (by omega)]
    rfl
  have K := Lib.hid (fun w => by have := muldiv_any p t 1000000000 w; rw [hm, Int.mul_comm p t] at this; unfold res at this; rw [okv_t rfl] at this; exact this)
  generalize t * p / 1000000000 = v at *
  clear h1 h2 hm
  go_enter Try.func30, Try.ntmps30
  go_wp2_with fail
  refine (K.out _).mono ?_; rintro e w1 ⟨rfl, hg⟩
  go_wp2_with fail
  go_ret
  exact ⟨rfl, hg⟩

set_option maxHeartbeats 1000000 in
theorem local_any (o p t : Int) (w : World) (hc : ckB o p = true) (ht : tmB t = true) :
    Calls Try.prog 26 #[.agg #[.int .i64 o, .int .i64 p], .int .i64 t] w fun e w' => e = .returned (.int .i64 (atV o p t)) ∧ Bl w w' := by
  obtain ⟨ho, hp⟩ := ckB_iff.1 hc
  have h1 := dr_bd hp (tmB_iff.1 ht)
  have h2 := tmB_iff.1 ht
  have KD := Lib.hid (fun w => drift_any p t w hp ht)
  unfold atV
  generalize t * p / 1000000000 = v at *
  have w1 : IntKind.i64.wrap (t + o) = t + o := IntWalk.i64_in _ (by omega)
  have w2 : IntKind.i64.wrap (t + o + v) = t + o + v := IntWalk.i64_in _ (by omega)
  clear h1 h2 hc ht ho hp
  go_enter Try.func26, Try.ntmps26
  go_upto_region 1 with fail
  have k0 : (w.alloc (.cells #[.int .i64 o, .int .i64 p] 48)).cell? ⟨w.heap.size, 0, none⟩ = some (.int .i64 o) := by simp [go_sem]
  have k1 : (w.alloc (.cells #[.int .i64 o, .int .i64 p] 48)).cell? ⟨w.heap.size, 1, none⟩ = some (.int .i64 p) := by simp [go_sem]
  have G := Lib.hid ((Bl.refl w).alloc (.cells #[.int .i64 o, .int .i64 p] 48))
  have ha := cell_lt k0
  generalize w.alloc (.cells #[.int .i64 o, .int .i64 p] 48) = W at *
  generalize w.heap.size = a at *
  have HD := Lib.hid (show ∀ w', Bl W w' → (w'.cell? ⟨a, 0, none⟩ = some (.int .i64 o) ∧ w'.cell? ⟨a, 1, none⟩ = some (.int .i64 p) ∧ Hid (Bl W w')) from fun w' g => ⟨(g.cell (p := ⟨a, 0, none⟩) ha).trans k0, (g.cell (p := ⟨a, 1, none⟩) ha).trans k1, g⟩)
  clear ha
  go_region_held3 (fun w' => w'.cell? ⟨a, 0, none⟩ = some (.int .i64 o) ∧ w'.cell? ⟨a, 1, none⟩ = some (.int .i64 p) ∧ Hid (Bl W w'))
    (first | with_reducible assumption | (refine HD.out _ ?_; (repeat (first | exact BA.out | exact Bl.refl _ | with_reducible refine Bl.drew ?_)); done) | fail)
    (first | (go_at_call 30; rename _ ∧ _ ∧ Hid (Bl W _) => hq; (with_reducible refine (KD.out _).mono ?_); rintro e w2 ⟨rfl, hgr⟩; have BA := Lib.hid (Bl.trans (Hid.out hq.2.2) hgr)) | fail)
  all_goals go_wp2_with fail
  all_goals go_ret
  all_goals exact ⟨rfl, G.out.trans (And.right (And.right (by assumption : _ ∧ _ ∧ Hid (Bl W _)))).out⟩

theorem tdiv_bd (a : Int) (h : a < 0) : ∃ q r : Int, a.tdiv 1000000000 = -q ∧ a.tmod 1000000000 = -r ∧ -a = q * 1000000000 + r ∧ 0 ≤ r ∧ r < 1000000000 ∧ 0 ≤ q := by
  refine ⟨(-a) / 1000000000, (-a) % 1000000000, ?_, ?_, by omega, by omega, by omega, by omega⟩
  · have e : a = -(-a) := by omega
    rw [e, Int.neg_tdiv, Int.tdiv_eq_ediv_of_nonneg (by omega)]
    simp
  · have e : a = -(-a) := by omega
    rw [e, Int.neg_tmod, Int.tmod_eq_emod_of_nonneg (by omega)]
    simp
set_option maxHeartbeats 400000 in
theorem floor_any (a : Int) (w : World) (h1 : -4611686018427387904 ≤ a) (h2 : a ≤ 4611686018427387904) :
    Calls Try.prog 32 #[.int .i64 a, .int .i64 1000000000] w fun e w' => e = .returned (.int .i64 (a / 1000000000)) ∧ w = w' := by
  by_cases h0 : 0 ≤ a
  · go_enter Try.func32, Try.ntmps32
    go_wp2
    go_ret
    exact ⟨rfl, rfl⟩
  · obtain ⟨q, r, hq, hr, he, r0, r1, q0⟩ := tdiv_bd a (by omega)
    go_enter Try.func32, Try.ntmps32
    go_wp2
    · go_ret
      exact ⟨ret_int (by omega), rfl⟩
    · go_ret
      exact ⟨ret_int (by omega), rfl⟩

set_option maxHeartbeats 1000000 in
theorem at_any (o p t : Int) (w : World) (hc : ckB o p = true) (ht : tmB t = true) :
    Calls Try.prog 27 #[.agg #[.int .i64 o, .int .i64 p], .int .i64 t] w fun e w' => e = .returned (.int .i64 (atV o p t)) ∧ Bl w w' := by
  obtain ⟨ho, hp⟩ := ckB_iff.1 hc
  have h0 := mul_bd hp (tmB_iff.1 ht)
  have h1 := dr_bd hp (tmB_iff.1 ht)
  have h2 := tmB_iff.1 ht
  have KD := Lib.hid (fun w => floor_any (t * p) w (by omega) (by omega))
  unfold atV
  obtain ⟨m, hm⟩ : ∃ m, t * p = m := ⟨_, rfl⟩
  have w0 : IntKind.i64.wrap (t * p) = m := by rw [IntWalk.i64_in _ (by omega)]; exact hm
  rw [hm] at KD h0 h1
  rw [hm]
  generalize m / 1000000000 = v at *
  have w1 : IntKind.i64.wrap (t + o) = t + o := IntWalk.i64_in _ (by omega)
  have w2 : IntKind.i64.wrap (t + o + v) = t + o + v := IntWalk.i64_in _ (by omega)
  clear h0 h1 h2 hc ht ho hp hm
  go_enter Try.func27, Try.ntmps27
  go_upto_region 1 with fail
  have k0 : (w.alloc (.cells #[.int .i64 o, .int .i64 p] 23)).cell? ⟨w.heap.size, 0, none⟩ = some (.int .i64 o) := by simp [go_sem]
  have k1 : (w.alloc (.cells #[.int .i64 o, .int .i64 p] 23)).cell? ⟨w.heap.size, 1, none⟩ = some (.int .i64 p) := by simp [go_sem]
  have G := Lib.hid ((Bl.refl w).alloc (.cells #[.int .i64 o, .int .i64 p] 23))
  have ha := cell_lt k0
  generalize w.alloc (.cells #[.int .i64 o, .int .i64 p] 23) = W at *
  generalize w.heap.size = a at *
  have HD := Lib.hid (show ∀ w', Bl W w' → (w'.cell? ⟨a, 0, none⟩ = some (.int .i64 o) ∧ w'.cell? ⟨a, 1, none⟩ = some (.int .i64 p) ∧ Hid (Bl W w')) from fun w' g => ⟨(g.cell (p := ⟨a, 0, none⟩) ha).trans k0, (g.cell (p := ⟨a, 1, none⟩) ha).trans k1, g⟩)
  clear ha
  go_region_held3 (fun w' => w'.cell? ⟨a, 0, none⟩ = some (.int .i64 o) ∧ w'.cell? ⟨a, 1, none⟩ = some (.int .i64 p) ∧ Hid (Bl W w'))
    (first | with_reducible assumption | (refine HD.out _ ?_; (repeat (first | exact BA.out | exact Bl.refl _ | with_reducible refine Bl.drew ?_)); done) | fail)
    (first | (go_at_call 32; rename _ ∧ _ ∧ Hid (Bl W _) => hq; (with_reducible refine (KD.out _).mono ?_); rintro e w2 ⟨rfl, rfl⟩; have BA := Lib.hid (Hid.out hq.2.2)) | fail)
  all_goals go_wp2_with fail
  all_goals go_ret
  all_goals exact ⟨rfl, G.out.trans (And.right (And.right (by assumption : _ ∧ _ ∧ Hid (Bl W _)))).out⟩

set_option maxHeartbeats 400000 in
theorem rdrift_any (p d : Int) (w : World) (hp : 0 ≤ p ∧ p ≤ 200000) (hd : tmB d = true) :
    Calls Try.prog 31 #[.int .i64 p, .int .i64 d] w fun e w' => e = .returned (.int .i64 (-(d * (-p) / 1000000000))) ∧ Bl w w' := by
  have h0 := mul_bd (p := -p) (by omega) (tmB_iff.1 hd)
  have h2 := tmB_iff.1 hd
  have em : (-d) * p = d * -p := by rw [Int.neg_mul, Int.mul_neg]
  have KD := Lib.hid (fun w => floor_any (d * -p) w (by omega) (by omega))
  obtain ⟨m, hm⟩ : ∃ m, d * -p = m := ⟨_, rfl⟩
  have w0 : IntKind.i64.wrap ((-d) * p) = m := by rw [em, IntWalk.i64_in _ (by omega)]; exact hm
  rw [hm] at KD h0
  rw [hm]
  have w3 : IntKind.i64.wrap (-(m / 1000000000)) = -(m / 1000000000) := IntWalk.i64_in _ (by omega)
  generalize m / 1000000000 = v at *
  have w1 : IntKind.i64.wrap (-d) = -d := IntWalk.i64_in _ (by omega)
  clear hp hd em hm
  go_enter Try.func31, Try.ntmps31
  go_wp2_with fail
  refine (KD.out _).mono ?_; rintro e w1 ⟨rfl, rfl⟩
  go_wp2_with fail
  go_ret
  exact ⟨rfl, Bl.refl _⟩

end Go.Proofs.Ytaekofoonekkkaa
