/-
  What Within of package bucket and of its reference return.
-/
import Derived.Test.YtajlcagbfebbjaaBf
import Derived.Test.YtajlcagbfebbjaaMe
namespace Go.Proofs.Ytajlcagbfebbjaa
open Go.RowKit

/-- What Within gives. -/
def wiV (u R t : Int) : Int × Int := if bkB u R then (if btB 0 t 1099511627776 then (u + R * t / 1048576, 0) else (0, 2)) else (0, 130)
theorem wiV_ok {u R t : Int} (h : bkB u R = true) (k : btB 0 t 1099511627776 = true) : wiV u R t = (u + R * t / 1048576, 0) := by unfold wiV; rw [if_pos h, if_pos k]
theorem wiV_arg {u R t : Int} (h : bkB u R = true) (k : btB 0 t 1099511627776 = false) : wiV u R t = (0, 2) := by unfold wiV; rw [if_pos h, if_neg (by simp [k])]
theorem wiV_bk {u R t : Int} (h : bkB u R = false) : wiV u R t = (0, 130) := by unfold wiV; rw [if_neg (by simp [h])]
theorem rt_bd {R t : Int} (hR1 : 1 ≤ R) (hR2 : R ≤ 2097152) (h0 : 0 ≤ t) (h1 : t ≤ 1099511627776) : 0 ≤ R * t ∧ R * t ≤ 2305843009213693952 := by
  have e1 : R * t ≤ 2097152 * t := Int.mul_le_mul_of_nonneg_right hR2 (by omega)
  exact ⟨Int.mul_nonneg (by omega) h0, by omega⟩

set_option maxHeartbeats 1000000 in
theorem within_any (u R t : Int) (w : World) :
    Calls Try.prog 13 #[.agg #[.int .i64 u, .int .i64 R], .int .i64 t] w fun e w' => e = ires (wiV u R t) ∧ Bl w w' := by
  rcases bcase (bkB u R) with hb | hb
  · have K1 := Lib.hid (fun w => check_v (bkE_t hb) w)
    rcases bcase (btB 0 t 1099511627776) with ht | ht
    · have K2 := Lib.hid (fun w => between_v ht w)
      obtain ⟨⟨hu1, hu2⟩, hR1, hR2⟩ := bkB_iff.1 hb
      obtain ⟨t0, t1⟩ := btB_iff.1 ht
      obtain ⟨p0, p1⟩ := rt_bd hR1 hR2 t0 t1
      have hmd : mdB R t 1048576 = true := by
        unfold mdB
        rw [inB_iff.2 (by omega), inB_iff.2 (by omega), inB_iff.2 (by omega), inB_iff.2 (by omega)]
        rfl
      obtain ⟨Q, hQ⟩ : ∃ Q, R * t / 1048576 = Q := ⟨_, rfl⟩
      have q0 : 0 ≤ Q := by omega
      have q1 : Q ≤ 2199023255552 := by omega
      have K3 := Lib.hid (fun w => show Calls Try.prog 22 #[.int .i64 R, .int .i64 t, .int .i64 1048576] w fun e w' => e = .returned (.tuple #[.int .i64 Q, .bool true]) ∧ Bl w w' by
        have := muldiv_any R t 1048576 w
        rw [hmd, hQ, ← res_t (rfl : true = true) (rfl : Q = Q)] at this
        exact this)
      have E := Lib.hid ((wiV_ok hb ht).trans (by rw [hQ]))
      clear hb ht hmd hQ p0 p1
      go_enter Try.func13, Try.ntmps13
      go_wp2_with fail
      refine (K1.out _).mono ?_; rintro e w1 ⟨rfl, gr⟩
      have c0 := (gr.cell (p := ⟨w.heap.size, 0, none⟩) (by simp)).trans (show _ = some (.int .i64 u) by simp [go_sem])
      have c1 := (gr.cell (p := ⟨w.heap.size, 1, none⟩) (by simp)).trans (show _ = some (.int .i64 R) by simp [go_sem])
      have z1 : w.heap.size < w1.heap.size := by have := gr.size; simp at this; omega
      have G1 := Lib.hid (((Bl.refl w).alloc _).trans gr); clear gr
      go_wp2_with fail
      refine (K2.out _).mono ?_; rintro e w2 ⟨rfl, rfl⟩
      go_wp2_with fail
      refine (K3.out _).mono ?_; rintro e w2 ⟨rfl, gr⟩
      have d0 := (gr.cell (p := ⟨w.heap.size, 0, none⟩) z1).trans c0
      have G2 := Lib.hid (G1.out.trans gr); clear gr c0 c1 z1
      go_wp2_with fail
      go_ret2
      exact ⟨ires_mk E.out, G2.out⟩
    · have K2 := Lib.hid (fun w => between_v ht w)
      have E := Lib.hid (wiV_arg hb ht)
      clear hb ht
      go_enter Try.func13, Try.ntmps13
      go_wp2_with fail
      refine (K1.out _).mono ?_; rintro e w1 ⟨rfl, gr⟩
      have G1 := Lib.hid (((Bl.refl w).alloc _).trans gr); clear gr
      go_wp2_with fail
      refine (K2.out _).mono ?_; rintro e w2 ⟨rfl, rfl⟩
      go_wp2_with fail
      go_ret2
      exact ⟨ires_mk E.out, G1.out⟩
  · have K1 := Lib.hid (fun w => check_v (bkE_f hb) w)
    have E := Lib.hid (wiV_bk (t := t) hb)
    clear hb
    go_enter Try.func13, Try.ntmps13
    go_wp2_with fail
    refine (K1.out _).mono ?_; rintro e w1 ⟨rfl, gr⟩
    have G1 := Lib.hid (((Bl.refl w).alloc _).trans gr); clear gr
    go_wp2_with fail
    go_ret2
    exact ⟨ires_mk E.out, G1.out⟩
theorem within_v {u R t v E : Int} (h : wiV u R t = (v, E)) (w : World) :
    Calls Try.prog 13 #[.agg #[.int .i64 u, .int .i64 R], .int .i64 t] w fun e w' => e = .returned (.tuple #[.int .i64 v, .int .i64 E]) ∧ Bl w w' := by
  have := within_any u R t w; rw [h] at this; exact this

end Go.Proofs.Ytajlcagbfebbjaa
