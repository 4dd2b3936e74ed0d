/-
  What firstUnless, Min and Max of package rat, and Min and Max of its reference, return.
-/
import Derived.Test.YtgbjooecomgfoaaRk
namespace Go.Proofs.Ytgbjooecomgfoaa
open Go.RowKit

/-- The first fraction, or the second one if they compare so. -/
def fuV (o a b c d : Int) : Int × Int × Int := if bothV a b c d = 0 then (if cmpI a b c d = o then (c, d, 0) else (a, b, 0)) else (0, 0, 120)
theorem fuV_b {o a b c d : Int} (h : bothV a b c d = 0) (k : cmpI a b c d = o) : fuV o a b c d = (c, d, 0) := by unfold fuV; rw [if_pos h, if_pos k]
theorem fuV_a {o a b c d : Int} (h : bothV a b c d = 0) (k : ¬ cmpI a b c d = o) : fuV o a b c d = (a, b, 0) := by unfold fuV; rw [if_pos h, if_neg k]
theorem fuV_no {o a b c d : Int} (h : bothV a b c d = 120) : fuV o a b c d = (0, 0, 120) := if_neg (by rw [h]; decide)
theorem cmpI_ways (a b c d : Int) : cmpI a b c d = -1 ∨ cmpI a b c d = 0 ∨ cmpI a b c d = 1 := by unfold cmpI; split <;> (try split) <;> omega
theorem cmp_v (a b c d n e0 : Int) (w : World) (h : cmpR a b c d = (n, e0)) :
    Calls Try.prog 24 #[.agg #[.int .i64 a, .int .i64 b], .agg #[.int .i64 c, .int .i64 d]] w fun e w' => e = .returned (.tuple #[.int .i64 n, .int .i64 e0]) ∧ Grown w w' := by
  have := cmp_any a b c d w; rw [h] at this; exact this
theorem rcmp_v (a b c d n e0 : Int) (w : World) (h : cmpR a b c d = (n, e0)) :
    Calls Try.prog 25 #[.agg #[.int .i64 a, .int .i64 b], .agg #[.int .i64 c, .int .i64 d]] w fun e w' => e = .returned (.tuple #[.int .i64 n, .int .i64 e0]) ∧ Grown w w' := by
  have := rcmp_any a b c d w; rw [h] at this; exact this

set_option maxHeartbeats 1000000 in
theorem fu_any (o a b c d : Int) (w : World) :
    Calls Try.prog 51 #[.int .i64 o, .agg #[.int .i64 a, .int .i64 b], .agg #[.int .i64 c, .int .i64 d]] w fun e w' => e = fres (fuV o a b c d) ∧ Grown w w' := by
  rcases both_ways a b c d with ⟨hv, r1, r2⟩ | hv
  · obtain ⟨v, hc⟩ : ∃ v, cmpI a b c d = v := ⟨_, rfl⟩
    have hR := cmpR_yes hv
    rw [hc] at hR
    by_cases ho : v = o
    · rw [fuV_b hv (hc.trans ho)]
      obtain rfl : o = v := ho.symm
      have R := fun w => cmp_v a b c d _ _ w hR
      have HR := Lib.hid R; clear R hv hR hc r1 r2
      go_enter Try.func51, Try.ntmps51
      go_wp2_with fail
      refine (HR.out _).mono ?_; rintro e w1 ⟨rfl, gr⟩
      have k0 := (grown_cell gr (p := ⟨w.heap.size, 0, none⟩) (by simp <;> omega)).trans (show _ = some (.int .i64 a) by simp [go_sem])
      have k1 := (grown_cell gr (p := ⟨w.heap.size, 1, none⟩) (by simp <;> omega)).trans (show _ = some (.int .i64 b) by simp [go_sem])
      have k2 := (grown_cell gr (p := ⟨w.heap.size + 1, 0, none⟩) (by simp <;> omega)).trans (show _ = some (.int .i64 c) by simp [go_sem])
      have k3 := (grown_cell gr (p := ⟨w.heap.size + 1, 1, none⟩) (by simp <;> omega)).trans (show _ = some (.int .i64 d) by simp [go_sem])
      have k4 := (grown_cell gr (p := ⟨w.heap.size + 1 + 1, 0, none⟩) (by simp <;> omega)).trans (show _ = some (.int .i64 0) by simp [go_sem])
      have k5 := (grown_cell gr (p := ⟨w.heap.size + 1 + 1, 1, none⟩) (by simp <;> omega)).trans (show _ = some (.int .i64 0) by simp [go_sem])
      have f4 := (gr.2.1 ⟨w.heap.size + 1 + 1, 0, none⟩).trans (show _ = false by simp [go_sem])
      have f5 := (gr.2.1 ⟨w.heap.size + 1 + 1, 1, none⟩).trans (show _ = false by simp [go_sem])
      have G1 := Lib.hid (grown_trans ((((Grown.refl w).alloc _ _).alloc _ _).alloc _ _) gr); clear gr
      go_wp2_with fail
      refine bodyPost_ret (v := .tuple #[.agg #[.int .i64 c, .int .i64 d], .int .i64 0]) (by simp [results, Try.results51, go_sem, k4, k5]) rfl ⟨rfl, ?_⟩
      (repeat (first | with_reducible exact G1.out | with_reducible refine Grown.setCell ?_ (by simp <;> omega) _))
    · rw [fuV_a hv (fun h => ho (hc.symm.trans h))]
      have R := fun w => cmp_v a b c d _ _ w hR
      have HR := Lib.hid R; clear R hv hR hc r1 r2
      go_enter Try.func51, Try.ntmps51
      go_wp2_with fail
      refine (HR.out _).mono ?_; rintro e w1 ⟨rfl, gr⟩
      have k0 := (grown_cell gr (p := ⟨w.heap.size, 0, none⟩) (by simp <;> omega)).trans (show _ = some (.int .i64 a) by simp [go_sem])
      have k1 := (grown_cell gr (p := ⟨w.heap.size, 1, none⟩) (by simp <;> omega)).trans (show _ = some (.int .i64 b) by simp [go_sem])
      have k2 := (grown_cell gr (p := ⟨w.heap.size + 1, 0, none⟩) (by simp <;> omega)).trans (show _ = some (.int .i64 c) by simp [go_sem])
      have k3 := (grown_cell gr (p := ⟨w.heap.size + 1, 1, none⟩) (by simp <;> omega)).trans (show _ = some (.int .i64 d) by simp [go_sem])
      have k4 := (grown_cell gr (p := ⟨w.heap.size + 1 + 1, 0, none⟩) (by simp <;> omega)).trans (show _ = some (.int .i64 0) by simp [go_sem])
      have k5 := (grown_cell gr (p := ⟨w.heap.size + 1 + 1, 1, none⟩) (by simp <;> omega)).trans (show _ = some (.int .i64 0) by simp [go_sem])
      have f4 := (gr.2.1 ⟨w.heap.size + 1 + 1, 0, none⟩).trans (show _ = false by simp [go_sem])
      have f5 := (gr.2.1 ⟨w.heap.size + 1 + 1, 1, none⟩).trans (show _ = false by simp [go_sem])
      have G1 := Lib.hid (grown_trans ((((Grown.refl w).alloc _ _).alloc _ _).alloc _ _) gr); clear gr
      go_wp2_with fail
      refine bodyPost_ret (v := .tuple #[.agg #[.int .i64 a, .int .i64 b], .int .i64 0]) (by simp [results, Try.results51, go_sem, k4, k5]) rfl ⟨rfl, ?_⟩
      (repeat (first | with_reducible exact G1.out | with_reducible refine Grown.setCell ?_ (by simp <;> omega) _))
  · rw [fuV_no hv]
    have R := fun w => cmp_v a b c d _ _ w (cmpR_no hv)
    have HR := Lib.hid R; clear R hv
    go_enter Try.func51, Try.ntmps51
    go_wp2_with fail
    refine (HR.out _).mono ?_; rintro e w1 ⟨rfl, gr⟩
    have k0 := (grown_cell gr (p := ⟨w.heap.size, 0, none⟩) (by simp <;> omega)).trans (show _ = some (.int .i64 a) by simp [go_sem])
    have k1 := (grown_cell gr (p := ⟨w.heap.size, 1, none⟩) (by simp <;> omega)).trans (show _ = some (.int .i64 b) by simp [go_sem])
    have k2 := (grown_cell gr (p := ⟨w.heap.size + 1, 0, none⟩) (by simp <;> omega)).trans (show _ = some (.int .i64 c) by simp [go_sem])
    have k3 := (grown_cell gr (p := ⟨w.heap.size + 1, 1, none⟩) (by simp <;> omega)).trans (show _ = some (.int .i64 d) by simp [go_sem])
    have k4 := (grown_cell gr (p := ⟨w.heap.size + 1 + 1, 0, none⟩) (by simp <;> omega)).trans (show _ = some (.int .i64 0) by simp [go_sem])
    have k5 := (grown_cell gr (p := ⟨w.heap.size + 1 + 1, 1, none⟩) (by simp <;> omega)).trans (show _ = some (.int .i64 0) by simp [go_sem])
    have f4 := (gr.2.1 ⟨w.heap.size + 1 + 1, 0, none⟩).trans (show _ = false by simp [go_sem])
    have f5 := (gr.2.1 ⟨w.heap.size + 1 + 1, 1, none⟩).trans (show _ = false by simp [go_sem])
    have G1 := Lib.hid (grown_trans ((((Grown.refl w).alloc _ _).alloc _ _).alloc _ _) gr); clear gr
    go_wp2_with fail
    refine bodyPost_ret (v := .tuple #[.agg #[.int .i64 0, .int .i64 0], .int .i64 120]) (by simp [results, Try.results51, go_sem, k4, k5]) rfl ⟨rfl, ?_⟩
    (repeat (first | with_reducible exact G1.out | with_reducible refine Grown.setCell ?_ (by simp <;> omega) _))

theorem fu_v (o a b c d N D E : Int) (w : World) (h : fuV o a b c d = (N, D, E)) :
    Calls Try.prog 51 #[.int .i64 o, .agg #[.int .i64 a, .int .i64 b], .agg #[.int .i64 c, .int .i64 d]] w fun e w' => e = .returned (.tuple #[.agg #[.int .i64 N, .int .i64 D], .int .i64 E]) ∧ Grown w w' := by
  have := fu_any o a b c d w; rw [h] at this; exact this

set_option maxHeartbeats 1000000 in
theorem min_any (a b c d : Int) (w : World) :
    Calls Try.prog 26 #[.agg #[.int .i64 a, .int .i64 b], .agg #[.int .i64 c, .int .i64 d]] w fun e w' => e = fres (fuV 1 a b c d) ∧ Grown w w' := by
  obtain ⟨⟨N, D, E⟩, hm⟩ : ∃ t, fuV 1 a b c d = t := ⟨_, rfl⟩
  rw [hm]
  have R := fun w => fu_v 1 a b c d N D E w hm
  have HR := Lib.hid R; clear R hm
  go_enter Try.func26, Try.ntmps26
  go_wp2_with fail
  refine (HR.out _).mono ?_; rintro e w1 ⟨rfl, gr⟩
  have k0 := (grown_cell gr (p := ⟨w.heap.size, 0, none⟩) (by simp <;> omega)).trans (show _ = some (.int .i64 a) by simp [go_sem])
  have k1 := (grown_cell gr (p := ⟨w.heap.size, 1, none⟩) (by simp <;> omega)).trans (show _ = some (.int .i64 b) by simp [go_sem])
  have k2 := (grown_cell gr (p := ⟨w.heap.size + 1, 0, none⟩) (by simp <;> omega)).trans (show _ = some (.int .i64 c) by simp [go_sem])
  have k3 := (grown_cell gr (p := ⟨w.heap.size + 1, 1, none⟩) (by simp <;> omega)).trans (show _ = some (.int .i64 d) by simp [go_sem])
  have k4 := (grown_cell gr (p := ⟨w.heap.size + 1 + 1, 0, none⟩) (by simp <;> omega)).trans (show _ = some (.int .i64 0) by simp [go_sem])
  have k5 := (grown_cell gr (p := ⟨w.heap.size + 1 + 1, 1, none⟩) (by simp <;> omega)).trans (show _ = some (.int .i64 0) by simp [go_sem])
  have f4 := (gr.2.1 ⟨w.heap.size + 1 + 1, 0, none⟩).trans (show _ = false by simp [go_sem])
  have f5 := (gr.2.1 ⟨w.heap.size + 1 + 1, 1, none⟩).trans (show _ = false by simp [go_sem])
  have G1 := Lib.hid (grown_trans ((((Grown.refl w).alloc _ _).alloc _ _).alloc _ _) gr); clear gr
  go_wp2_with fail
  refine bodyPost_ret (v := .tuple #[.agg #[.int .i64 N, .int .i64 D], .int .i64 E]) (by simp [results, Try.results26, go_sem, k4, k5]) rfl ⟨rfl, ?_⟩
  (repeat (first | with_reducible exact G1.out | with_reducible refine Grown.setCell ?_ (by simp <;> omega) _))

set_option maxHeartbeats 1000000 in
theorem max_any (a b c d : Int) (w : World) :
    Calls Try.prog 28 #[.agg #[.int .i64 a, .int .i64 b], .agg #[.int .i64 c, .int .i64 d]] w fun e w' => e = fres (fuV (-1) a b c d) ∧ Grown w w' := by
  obtain ⟨⟨N, D, E⟩, hm⟩ : ∃ t, fuV (-1) a b c d = t := ⟨_, rfl⟩
  rw [hm]
  have R := fun w => fu_v (-1) a b c d N D E w hm
  have HR := Lib.hid R; clear R hm
  go_enter Try.func28, Try.ntmps28
  go_wp2_with fail
  refine (HR.out _).mono ?_; rintro e w1 ⟨rfl, gr⟩
  have k0 := (grown_cell gr (p := ⟨w.heap.size, 0, none⟩) (by simp <;> omega)).trans (show _ = some (.int .i64 a) by simp [go_sem])
  have k1 := (grown_cell gr (p := ⟨w.heap.size, 1, none⟩) (by simp <;> omega)).trans (show _ = some (.int .i64 b) by simp [go_sem])
  have k2 := (grown_cell gr (p := ⟨w.heap.size + 1, 0, none⟩) (by simp <;> omega)).trans (show _ = some (.int .i64 c) by simp [go_sem])
  have k3 := (grown_cell gr (p := ⟨w.heap.size + 1, 1, none⟩) (by simp <;> omega)).trans (show _ = some (.int .i64 d) by simp [go_sem])
  have k4 := (grown_cell gr (p := ⟨w.heap.size + 1 + 1, 0, none⟩) (by simp <;> omega)).trans (show _ = some (.int .i64 0) by simp [go_sem])
  have k5 := (grown_cell gr (p := ⟨w.heap.size + 1 + 1, 1, none⟩) (by simp <;> omega)).trans (show _ = some (.int .i64 0) by simp [go_sem])
  have f4 := (gr.2.1 ⟨w.heap.size + 1 + 1, 0, none⟩).trans (show _ = false by simp [go_sem])
  have f5 := (gr.2.1 ⟨w.heap.size + 1 + 1, 1, none⟩).trans (show _ = false by simp [go_sem])
  have G1 := Lib.hid (grown_trans ((((Grown.refl w).alloc _ _).alloc _ _).alloc _ _) gr); clear gr
  go_wp2_with fail
  refine bodyPost_ret (v := .tuple #[.agg #[.int .i64 N, .int .i64 D], .int .i64 E]) (by simp [results, Try.results28, go_sem, k4, k5]) rfl ⟨rfl, ?_⟩
  (repeat (first | with_reducible exact G1.out | with_reducible refine Grown.setCell ?_ (by simp <;> omega) _))

set_option maxHeartbeats 1000000 in
theorem rmin_any (a b c d : Int) (w : World) :
    Calls Try.prog 27 #[.agg #[.int .i64 a, .int .i64 b], .agg #[.int .i64 c, .int .i64 d]] w fun e w' => e = fres (fuV 1 a b c d) ∧ Grown w w' := by
  rcases both_ways a b c d with ⟨hv, r1, r2⟩ | hv
  · obtain ⟨v, hc⟩ : ∃ v, cmpI a b c d = v := ⟨_, rfl⟩
    have hR := cmpR_yes hv
    have hw := cmpI_ways a b c d
    rw [hc] at hR hw
    by_cases ho : v = 1
    · rw [fuV_b hv (hc.trans ho)]
      have hp : 0 < v := by omega
      have R := fun w => rcmp_v a b c d _ _ w hR
      have HR := Lib.hid R; clear R hv hR hc r1 r2 ho hw
      go_enter Try.func27, Try.ntmps27
      go_wp2_with fail
      refine (HR.out _).mono ?_; rintro e w1 ⟨rfl, gr⟩
      have k0 := (grown_cell gr (p := ⟨w.heap.size, 0, none⟩) (by simp <;> omega)).trans (show _ = some (.int .i64 a) by simp [go_sem])
      have k1 := (grown_cell gr (p := ⟨w.heap.size, 1, none⟩) (by simp <;> omega)).trans (show _ = some (.int .i64 b) by simp [go_sem])
      have k2 := (grown_cell gr (p := ⟨w.heap.size + 1, 0, none⟩) (by simp <;> omega)).trans (show _ = some (.int .i64 c) by simp [go_sem])
      have k3 := (grown_cell gr (p := ⟨w.heap.size + 1, 1, none⟩) (by simp <;> omega)).trans (show _ = some (.int .i64 d) by simp [go_sem])
      have k4 := (grown_cell gr (p := ⟨w.heap.size + 1 + 1, 0, none⟩) (by simp <;> omega)).trans (show _ = some (.int .i64 0) by simp [go_sem])
      have k5 := (grown_cell gr (p := ⟨w.heap.size + 1 + 1, 1, none⟩) (by simp <;> omega)).trans (show _ = some (.int .i64 0) by simp [go_sem])
      have f4 := (gr.2.1 ⟨w.heap.size + 1 + 1, 0, none⟩).trans (show _ = false by simp [go_sem])
      have f5 := (gr.2.1 ⟨w.heap.size + 1 + 1, 1, none⟩).trans (show _ = false by simp [go_sem])
      have G1 := Lib.hid (grown_trans ((((Grown.refl w).alloc _ _).alloc _ _).alloc _ _) gr); clear gr
      go_wp2_with fail
      refine bodyPost_ret (v := .tuple #[.agg #[.int .i64 c, .int .i64 d], .int .i64 0]) (by simp [results, Try.results27, go_sem, k4, k5]) rfl ⟨rfl, ?_⟩
      (repeat (first | with_reducible exact G1.out | with_reducible refine Grown.setCell ?_ (by simp <;> omega) _))
    · rw [fuV_a hv (fun h => ho (hc.symm.trans h))]
      have hp : ¬ 0 < v := by omega
      have R := fun w => rcmp_v a b c d _ _ w hR
      have HR := Lib.hid R; clear R hv hR hc r1 r2 ho hw
      go_enter Try.func27, Try.ntmps27
      go_wp2_with fail
      refine (HR.out _).mono ?_; rintro e w1 ⟨rfl, gr⟩
      have k0 := (grown_cell gr (p := ⟨w.heap.size, 0, none⟩) (by simp <;> omega)).trans (show _ = some (.int .i64 a) by simp [go_sem])
      have k1 := (grown_cell gr (p := ⟨w.heap.size, 1, none⟩) (by simp <;> omega)).trans (show _ = some (.int .i64 b) by simp [go_sem])
      have k2 := (grown_cell gr (p := ⟨w.heap.size + 1, 0, none⟩) (by simp <;> omega)).trans (show _ = some (.int .i64 c) by simp [go_sem])
      have k3 := (grown_cell gr (p := ⟨w.heap.size + 1, 1, none⟩) (by simp <;> omega)).trans (show _ = some (.int .i64 d) by simp [go_sem])
      have k4 := (grown_cell gr (p := ⟨w.heap.size + 1 + 1, 0, none⟩) (by simp <;> omega)).trans (show _ = some (.int .i64 0) by simp [go_sem])
      have k5 := (grown_cell gr (p := ⟨w.heap.size + 1 + 1, 1, none⟩) (by simp <;> omega)).trans (show _ = some (.int .i64 0) by simp [go_sem])
      have f4 := (gr.2.1 ⟨w.heap.size + 1 + 1, 0, none⟩).trans (show _ = false by simp [go_sem])
      have f5 := (gr.2.1 ⟨w.heap.size + 1 + 1, 1, none⟩).trans (show _ = false by simp [go_sem])
      have G1 := Lib.hid (grown_trans ((((Grown.refl w).alloc _ _).alloc _ _).alloc _ _) gr); clear gr
      go_wp2_with fail
      refine bodyPost_ret (v := .tuple #[.agg #[.int .i64 a, .int .i64 b], .int .i64 0]) (by simp [results, Try.results27, go_sem, k4, k5]) rfl ⟨rfl, ?_⟩
      (repeat (first | with_reducible exact G1.out | with_reducible refine Grown.setCell ?_ (by simp <;> omega) _))
  · rw [fuV_no hv]
    have R := fun w => rcmp_v a b c d _ _ w (cmpR_no hv)
    have HR := Lib.hid R; clear R hv
    go_enter Try.func27, Try.ntmps27
    go_wp2_with fail
    refine (HR.out _).mono ?_; rintro e w1 ⟨rfl, gr⟩
    have k0 := (grown_cell gr (p := ⟨w.heap.size, 0, none⟩) (by simp <;> omega)).trans (show _ = some (.int .i64 a) by simp [go_sem])
    have k1 := (grown_cell gr (p := ⟨w.heap.size, 1, none⟩) (by simp <;> omega)).trans (show _ = some (.int .i64 b) by simp [go_sem])
    have k2 := (grown_cell gr (p := ⟨w.heap.size + 1, 0, none⟩) (by simp <;> omega)).trans (show _ = some (.int .i64 c) by simp [go_sem])
    have k3 := (grown_cell gr (p := ⟨w.heap.size + 1, 1, none⟩) (by simp <;> omega)).trans (show _ = some (.int .i64 d) by simp [go_sem])
    have k4 := (grown_cell gr (p := ⟨w.heap.size + 1 + 1, 0, none⟩) (by simp <;> omega)).trans (show _ = some (.int .i64 0) by simp [go_sem])
    have k5 := (grown_cell gr (p := ⟨w.heap.size + 1 + 1, 1, none⟩) (by simp <;> omega)).trans (show _ = some (.int .i64 0) by simp [go_sem])
    have f4 := (gr.2.1 ⟨w.heap.size + 1 + 1, 0, none⟩).trans (show _ = false by simp [go_sem])
    have f5 := (gr.2.1 ⟨w.heap.size + 1 + 1, 1, none⟩).trans (show _ = false by simp [go_sem])
    have G1 := Lib.hid (grown_trans ((((Grown.refl w).alloc _ _).alloc _ _).alloc _ _) gr); clear gr
    go_wp2_with fail
    refine bodyPost_ret (v := .tuple #[.agg #[.int .i64 0, .int .i64 0], .int .i64 120]) (by simp [results, Try.results27, go_sem, k4, k5]) rfl ⟨rfl, ?_⟩
    (repeat (first | with_reducible exact G1.out | with_reducible refine Grown.setCell ?_ (by simp <;> omega) _))

set_option maxHeartbeats 1000000 in
theorem rmax_any (a b c d : Int) (w : World) :
    Calls Try.prog 29 #[.agg #[.int .i64 a, .int .i64 b], .agg #[.int .i64 c, .int .i64 d]] w fun e w' => e = fres (fuV (-1) a b c d) ∧ Grown w w' := by
  rcases both_ways a b c d with ⟨hv, r1, r2⟩ | hv
  · obtain ⟨v, hc⟩ : ∃ v, cmpI a b c d = v := ⟨_, rfl⟩
    have hR := cmpR_yes hv
    have hw := cmpI_ways a b c d
    rw [hc] at hR hw
    by_cases ho : v = (-1)
    · rw [fuV_b hv (hc.trans ho)]
      have hp : v < 0 := by omega
      have R := fun w => rcmp_v a b c d _ _ w hR
      have HR := Lib.hid R; clear R hv hR hc r1 r2 ho hw
      go_enter Try.func29, Try.ntmps29
      go_wp2_with fail
      refine (HR.out _).mono ?_; rintro e w1 ⟨rfl, gr⟩
      have k0 := (grown_cell gr (p := ⟨w.heap.size, 0, none⟩) (by simp <;> omega)).trans (show _ = some (.int .i64 a) by simp [go_sem])
      have k1 := (grown_cell gr (p := ⟨w.heap.size, 1, none⟩) (by simp <;> omega)).trans (show _ = some (.int .i64 b) by simp [go_sem])
      have k2 := (grown_cell gr (p := ⟨w.heap.size + 1, 0, none⟩) (by simp <;> omega)).trans (show _ = some (.int .i64 c) by simp [go_sem])
      have k3 := (grown_cell gr (p := ⟨w.heap.size + 1, 1, none⟩) (by simp <;> omega)).trans (show _ = some (.int .i64 d) by simp [go_sem])
      have k4 := (grown_cell gr (p := ⟨w.heap.size + 1 + 1, 0, none⟩) (by simp <;> omega)).trans (show _ = some (.int .i64 0) by simp [go_sem])
      have k5 := (grown_cell gr (p := ⟨w.heap.size + 1 + 1, 1, none⟩) (by simp <;> omega)).trans (show _ = some (.int .i64 0) by simp [go_sem])
      have f4 := (gr.2.1 ⟨w.heap.size + 1 + 1, 0, none⟩).trans (show _ = false by simp [go_sem])
      have f5 := (gr.2.1 ⟨w.heap.size + 1 + 1, 1, none⟩).trans (show _ = false by simp [go_sem])
      have G1 := Lib.hid (grown_trans ((((Grown.refl w).alloc _ _).alloc _ _).alloc _ _) gr); clear gr
      go_wp2_with fail
      refine bodyPost_ret (v := .tuple #[.agg #[.int .i64 c, .int .i64 d], .int .i64 0]) (by simp [results, Try.results29, go_sem, k4, k5]) rfl ⟨rfl, ?_⟩
      (repeat (first | with_reducible exact G1.out | with_reducible refine Grown.setCell ?_ (by simp <;> omega) _))
    · rw [fuV_a hv (fun h => ho (hc.symm.trans h))]
      have hp : ¬ v < 0 := by omega
      have R := fun w => rcmp_v a b c d _ _ w hR
      have HR := Lib.hid R; clear R hv hR hc r1 r2 ho hw
      go_enter Try.func29, Try.ntmps29
      go_wp2_with fail
      refine (HR.out _).mono ?_; rintro e w1 ⟨rfl, gr⟩
      have k0 := (grown_cell gr (p := ⟨w.heap.size, 0, none⟩) (by simp <;> omega)).trans (show _ = some (.int .i64 a) by simp [go_sem])
      have k1 := (grown_cell gr (p := ⟨w.heap.size, 1, none⟩) (by simp <;> omega)).trans (show _ = some (.int .i64 b) by simp [go_sem])
      have k2 := (grown_cell gr (p := ⟨w.heap.size + 1, 0, none⟩) (by simp <;> omega)).trans (show _ = some (.int .i64 c) by simp [go_sem])
      have k3 := (grown_cell gr (p := ⟨w.heap.size + 1, 1, none⟩) (by simp <;> omega)).trans (show _ = some (.int .i64 d) by simp [go_sem])
      have k4 := (grown_cell gr (p := ⟨w.heap.size + 1 + 1, 0, none⟩) (by simp <;> omega)).trans (show _ = some (.int .i64 0) by simp [go_sem])
      have k5 := (grown_cell gr (p := ⟨w.heap.size + 1 + 1, 1, none⟩) (by simp <;> omega)).trans (show _ = some (.int .i64 0) by simp [go_sem])
      have f4 := (gr.2.1 ⟨w.heap.size + 1 + 1, 0, none⟩).trans (show _ = false by simp [go_sem])
      have f5 := (gr.2.1 ⟨w.heap.size + 1 + 1, 1, none⟩).trans (show _ = false by simp [go_sem])
      have G1 := Lib.hid (grown_trans ((((Grown.refl w).alloc _ _).alloc _ _).alloc _ _) gr); clear gr
      go_wp2_with fail
      refine bodyPost_ret (v := .tuple #[.agg #[.int .i64 a, .int .i64 b], .int .i64 0]) (by simp [results, Try.results29, go_sem, k4, k5]) rfl ⟨rfl, ?_⟩
      (repeat (first | with_reducible exact G1.out | with_reducible refine Grown.setCell ?_ (by simp <;> omega) _))
  · rw [fuV_no hv]
    have R := fun w => rcmp_v a b c d _ _ w (cmpR_no hv)
    have HR := Lib.hid R; clear R hv
    go_enter Try.func29, Try.ntmps29
    go_wp2_with fail
    refine (HR.out _).mono ?_; rintro e w1 ⟨rfl, gr⟩
    have k0 := (grown_cell gr (p := ⟨w.heap.size, 0, none⟩) (by simp <;> omega)).trans (show _ = some (.int .i64 a) by simp [go_sem])
    have k1 := (grown_cell gr (p := ⟨w.heap.size, 1, none⟩) (by simp <;> omega)).trans (show _ = some (.int .i64 b) by simp [go_sem])
    have k2 := (grown_cell gr (p := ⟨w.heap.size + 1, 0, none⟩) (by simp <;> omega)).trans (show _ = some (.int .i64 c) by simp [go_sem])
    have k3 := (grown_cell gr (p := ⟨w.heap.size + 1, 1, none⟩) (by simp <;> omega)).trans (show _ = some (.int .i64 d) by simp [go_sem])
    have k4 := (grown_cell gr (p := ⟨w.heap.size + 1 + 1, 0, none⟩) (by simp <;> omega)).trans (show _ = some (.int .i64 0) by simp [go_sem])
    have k5 := (grown_cell gr (p := ⟨w.heap.size + 1 + 1, 1, none⟩) (by simp <;> omega)).trans (show _ = some (.int .i64 0) by simp [go_sem])
    have f4 := (gr.2.1 ⟨w.heap.size + 1 + 1, 0, none⟩).trans (show _ = false by simp [go_sem])
    have f5 := (gr.2.1 ⟨w.heap.size + 1 + 1, 1, none⟩).trans (show _ = false by simp [go_sem])
    have G1 := Lib.hid (grown_trans ((((Grown.refl w).alloc _ _).alloc _ _).alloc _ _) gr); clear gr
    go_wp2_with fail
    refine bodyPost_ret (v := .tuple #[.agg #[.int .i64 0, .int .i64 0], .int .i64 120]) (by simp [results, Try.results29, go_sem, k4, k5]) rfl ⟨rfl, ?_⟩
    (repeat (first | with_reducible exact G1.out | with_reducible refine Grown.setCell ?_ (by simp <;> omega) _))

end Go.Proofs.Ytgbjooecomgfoaa
