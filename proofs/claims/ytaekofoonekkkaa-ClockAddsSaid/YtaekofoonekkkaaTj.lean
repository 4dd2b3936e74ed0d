/-
  ClockDrifts: in d ticks a clock advances by d, up to Bound ticks more or less.
-/
import Derived.Test.YtaekofoonekkkaaTi
namespace Go.Proofs.Ytaekofoonekkkaa
open Go.RowKit

theorem el_ok {o p t d : Int} (hc : ckB o p = true) (ht : 0 ≤ t) (hd : 0 ≤ d) (hs : t + d ≤ 1099511627776) : elV o p t d = atV o p (t + d) - atV o p t ∧ elE o p t d = 0 := by
  have h1 := (tmB_iff (t := t)).2 (by omega)
  have h2 := (tmB_iff (t := d)).2 (by omega)
  have h3 := (tmB_iff (t := t + d)).2 (by omega)
  unfold elV elE elB; simp [hc, h1, h2, h3]
theorem bo_ok {p d : Int} (hp : 0 ≤ p ∧ p ≤ 200000) (hd : 0 ≤ d ∧ d ≤ 1099511627776) : boV p d = -(d * -p / 1000000000) ∧ boE p d = 0 := by
  have h1 := btB_iff.2 hp
  have h2 := tmB_iff.2 hd
  unfold boV boE boB; simp [h1, h2]
/-- How far a clock advances. -/
theorem adv (o p t n : Int) (hn : 0 ≤ n) (m : Int) (hm : m = max p (-p)) : n - -(n * -m / 1000000000) ≤ atV o p (t + n) - atV o p t ∧ atV o p (t + n) - atV o p t ≤ n + -(n * -m / 1000000000) := by
  unfold atV
  rw [Int.add_mul]
  by_cases hp : 0 ≤ p
  · have e : m = p := by omega
    rw [e, Int.mul_neg]
    have := Int.mul_nonneg hn hp
    generalize t * p = A at *
    generalize n * p = B at *
    omega
  · have e : -m = p := by omega
    rw [e]
    have := Int.mul_nonneg hn (show 0 ≤ -p by omega)
    rw [Int.mul_neg] at this
    generalize t * p = A at *
    generalize n * p = B at *
    omega
/-- A number reduced to those from 0 to m - 1. -/
def red (x m : Int) : Int := (IntKind.u64.wrap x) % m
theorem red_bd (x : Int) {m : Int} (hm : 0 < m) : 0 ≤ red x m ∧ red x m < m := ⟨Int.emod_nonneg _ (by omega), Int.emod_lt_of_pos _ hm⟩
theorem red_tmod (x m : Int) : (IntKind.u64.wrap x).tmod m = red x m := by
  unfold red
  exact Int.tmod_eq_emod_of_nonneg (by rw [IntKind.wrap_u64]; omega)

set_option maxRecDepth 100000 in
set_option maxHeartbeats 4000000 in
theorem drifts_law (O P t0 l0 : Int) (w : World) :
    Calls Try.prog 7 #[.agg #[.int .i64 O, .int .i32 P], .int .i64 t0, .int .i64 l0] w fun e w' => e = .returned (.bool true) ∧ Bl w w' := by
  have hc := d_ok O P
  have KW := Lib.hid (fun w => tworks_any w)
  have KC := Lib.hid (fun w => dclock_any O P w)
  have KT := Lib.hid (fun w => time_any t0 w)
  have ht := tm_bd t0
  generalize tm t0 = t at *
  generalize dO O = o at *
  generalize dP P = p at *
  obtain ⟨ho, hp⟩ := ckB_iff.1 hc
  obtain ⟨m1, hm1, q0⟩ : ∃ x, 1099511627776 - t = x ∧ IntKind.i64.wrap (1099511627776 - t) = x := ⟨_, rfl, IntWalk.i64_in _ (by omega)⟩
  obtain ⟨m2, hm2, q1⟩ : ∃ x, m1 + 1 = x ∧ IntKind.i64.wrap (m1 + 1) = x := ⟨_, rfl, IntWalk.i64_in _ (by omega)⟩
  have q2 : IntKind.u64.wrap m2 = m2 := IntWalk.u64_in _ (by omega)
  have q3 := red_tmod l0 m2
  have hr := red_bd l0 (m := m2) (by omega)
  generalize red l0 m2 = n at *
  have q4 : IntKind.i64.wrap n = n := IntWalk.i64_in _ (by omega)
  have q5 : IntKind.i64.wrap (-p) = -p := IntWalk.i64_in _ (by omega)
  obtain ⟨m, hm⟩ : ∃ x, x = max p (-p) := ⟨_, rfl⟩
  have hel := el_ok hc ht.1 hr.1 (by omega)
  have hbo := bo_ok (p := m) (d := n) (by omega) (by omega)
  have K1 := Lib.hid (fun w => celapsed_v hel.1 hel.2 w)
  have ha := adv o p t n hr.1 m hm
  have hmo := atV_mono (o := o) hp.1 (show t ≤ t + n by omega)
  have b1 := dr_bd (p := -m) (by omega) (show 0 ≤ n ∧ n ≤ 1099511627776 by omega)
  have x0 : 0 ≤ atV o p (t + n) - atV o p t := by omega
  generalize atV o p (t + n) - atV o p t = x at *
  obtain ⟨b, hb⟩ : ∃ b, -(n * -m / 1000000000) = b := ⟨_, rfl⟩
  rw [hb] at hbo ha
  have K2a := fun w => cbound_v hbo.1 hbo.2 w
  have K2 := Lib.hid (show ∀ y, y = m → ∀ w, Calls Try.prog 22 #[.int .i64 y, .int .i64 n] w fun e w' => e = .returned (.tuple #[.int .i64 b, .int .i64 0]) ∧ Bl w w' from fun y hy w => by rw [hy]; exact K2a w)
  clear K2a
  have HM := Lib.hid hm
  have q6 : IntKind.i64.wrap (n - b) = n - b := IntWalk.i64_in _ (by omega)
  have q7 : IntKind.i64.wrap (n + b) = n + b := IntWalk.i64_in _ (by omega)
  have d1 : decide (n - b ≤ x) = true := decide_eq_true (by omega)
  have d2 : decide (x ≤ n + b) = true := decide_eq_true (by omega)
  have d3 : decide (0 ≤ x) = true := decide_eq_true (by omega)
  have m3 : 1 ≤ m2 := by omega
  clear hm hc hel hbo hmo b1 ha x0 hb ho hm1 hm2 hr ht
  go_enter Try.func7, Try.ntmps7
  go_wp2_with fail
  refine (KW.out _).mono ?_; rintro e w1 ⟨rfl, gr⟩
  have k0 := (gr.cell (p := ⟨w.heap.size, 0, none⟩) (by simp; try omega)).trans (show _ = some (Value.int .i64 O) by simp [go_sem])
  have k1 := (gr.cell (p := ⟨w.heap.size, 1, none⟩) (by simp; try omega)).trans (show _ = some (Value.int .i32 P) by simp [go_sem])
  have G := Lib.hid (Bl.trans ((Bl.refl w).alloc _) gr)
  clear gr
  go_wp2_with fail
  refine (KC.out _).mono ?_; rintro e w2 ⟨rfl, gr⟩
  replace G := Lib.hid (G.out.trans gr); clear gr k0 k1
  go_wp2_with fail
  refine (KT.out _).mono ?_; rintro e w3 ⟨rfl, rfl⟩
  go_wp2_with fail
  refine (K1.out _).mono ?_; rintro e w3 ⟨rfl, gr⟩
  have k0 := (gr.cell (p := ⟨w2.heap.size, 0, none⟩) (by simp; try omega)).trans (show _ = some (Value.int .i64 o) by simp [go_sem])
  have k1 := (gr.cell (p := ⟨w2.heap.size, 1, none⟩) (by simp; try omega)).trans (show _ = some (Value.int .i64 p) by simp [go_sem])
  replace G := Lib.hid ((G.out.alloc _).trans gr); clear gr
  go_wp2_with fail
  all_goals refine (K2.out _ (by have := HM.out; omega) _).mono ?_
  all_goals (rintro e w4 ⟨rfl, gr⟩)
  all_goals (replace G := Lib.hid (G.out.trans gr); clear gr k0 k1)
  all_goals go_wp2_with fail
  all_goals go_ret
  all_goals exact ⟨rfl, G.out⟩

end Go.Proofs.Ytaekofoonekkkaa
