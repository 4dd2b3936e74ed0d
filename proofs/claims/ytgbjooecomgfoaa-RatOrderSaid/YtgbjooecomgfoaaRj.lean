/-
  What Add, Sub, Mul and Div of the reference of layer 2 return.
-/
import Derived.Test.YtgbjooecomgfoaaRi
namespace Go.Proofs.Ytgbjooecomgfoaa
open Go.RowKit

set_option maxHeartbeats 1000000 in
theorem radd_any (a b c d : Int) (w : World) :
    Calls Try.prog 17 #[.agg #[.int .i64 a, .int .i64 b], .agg #[.int .i64 c, .int .i64 d]] w fun e w' => e = fres (opV a b c d (a * d + c * b) (b * d)) ∧ Grown w w' := by
  rcases both_ways a b c d with ⟨hv, r1, r2⟩ | hv
  · rw [opV_yes hv]
    obtain ⟨x1, x2, x3, x4, x5, x6, x7, x8⟩ := Sm.of r1 r2
    have R := fun w => rboth_v a b c d 0 w hv
    have HR := Lib.hid R; clear R hv
    obtain ⟨b0l, b0h⟩ := prod_bd a d ⟨by omega, by omega⟩ ⟨by omega, by omega⟩
    obtain ⟨b1l, b1h⟩ := prod_bd c b ⟨by omega, by omega⟩ ⟨by omega, by omega⟩
    obtain ⟨b2l, b2h⟩ := prod_bd b d ⟨by omega, by omega⟩ ⟨by omega, by omega⟩
    obtain ⟨p0, hp0⟩ : ∃ p, a * d = p := ⟨_, rfl⟩
    obtain ⟨p1, hp1⟩ : ∃ p, c * b = p := ⟨_, rfl⟩
    obtain ⟨p2, hp2⟩ : ∃ p, b * d = p := ⟨_, rfl⟩
    rw [hp0, hp1, hp2]
    rw [hp0] at b0l b0h
    rw [hp1] at b1l b1h
    rw [hp2] at b2l b2h
    obtain ⟨⟨N, D, E⟩, hm⟩ : ∃ t, Fr.mkV (p0 + p1) (p2) = t := ⟨_, rfl⟩
    rw [hm]
    have R2 := fun w => rmake_v (p0 + p1) (p2) N D E w hm
    have HR2 := Lib.hid R2; clear R2 hm
    clear r1 r2
    go_enter Try.func17, Try.ntmps17
    go_wp2_with fail
    refine (HR.out _).mono ?_; rintro e w1 ⟨rfl, gr⟩
    have c4 := (grown_cell gr (p := ⟨w.heap.size + 1 + 1, 0, none⟩) (by simp)).trans (show _ = some (.int .i64 0) by simp [go_sem])
    have c5 := (grown_cell gr (p := ⟨w.heap.size + 1 + 1, 1, none⟩) (by simp)).trans (show _ = some (.int .i64 0) by simp [go_sem])
    have f4 := (gr.2.1 ⟨w.heap.size + 1 + 1, 0, none⟩).trans (show _ = false by simp [go_sem])
    have f5 := (gr.2.1 ⟨w.heap.size + 1 + 1, 1, none⟩).trans (show _ = false by simp [go_sem])
    have hz : w.heap.size + 1 + 1 < w1.heap.size := Nat.lt_of_lt_of_le (by simp) gr.2.2
    have k0 := (grown_cell gr (p := ⟨w.heap.size, 0, none⟩) (by simp <;> omega)).trans (show _ = some (.int .i64 a) by simp [go_sem])
    have k1 := (grown_cell gr (p := ⟨w.heap.size, 1, none⟩) (by simp <;> omega)).trans (show _ = some (.int .i64 b) by simp [go_sem])
    have k2 := (grown_cell gr (p := ⟨w.heap.size + 1, 0, none⟩) (by simp <;> omega)).trans (show _ = some (.int .i64 c) by simp [go_sem])
    have k3 := (grown_cell gr (p := ⟨w.heap.size + 1, 1, none⟩) (by simp <;> omega)).trans (show _ = some (.int .i64 d) by simp [go_sem])
    have G1 := Lib.hid (grown_trans ((((Grown.refl w).alloc _ _).alloc _ _).alloc _ _) gr); clear gr
    go_wp2_with fail
    refine (HR2.out _).mono ?_; rintro e w2 ⟨rfl, gr⟩
    have d4 := (grown_cell gr (p := ⟨w.heap.size + 1 + 1, 0, none⟩) hz).trans c4
    have d5 := (grown_cell gr (p := ⟨w.heap.size + 1 + 1, 1, none⟩) hz).trans c5
    have g4 := (gr.2.1 ⟨w.heap.size + 1 + 1, 0, none⟩).trans f4
    have g5 := (gr.2.1 ⟨w.heap.size + 1 + 1, 1, none⟩).trans f5
    clear c4 c5 f4 f5
    have GG := Lib.hid (grown_trans G1.out gr); clear gr
    go_wp2_with fail
    refine bodyPost_ret (v := .tuple #[.agg #[.int .i64 N, .int .i64 D], .int .i64 E]) (by simp [results, Try.results17, go_sem, d4, d5]) rfl ⟨rfl, ?_⟩
    (repeat (first | with_reducible exact GG.out | with_reducible refine Grown.setCell ?_ (by simp <;> omega) _))
  · rw [opV_no hv]
    have R := fun w => rboth_v a b c d 120 w hv
    have HR := Lib.hid R; clear R hv
    go_enter Try.func17, Try.ntmps17
    go_wp2_with fail
    refine (HR.out _).mono ?_; rintro e w1 ⟨rfl, gr⟩
    have c4 := (grown_cell gr (p := ⟨w.heap.size + 1 + 1, 0, none⟩) (by simp)).trans (show _ = some (.int .i64 0) by simp [go_sem])
    have c5 := (grown_cell gr (p := ⟨w.heap.size + 1 + 1, 1, none⟩) (by simp)).trans (show _ = some (.int .i64 0) by simp [go_sem])
    have f4 := (gr.2.1 ⟨w.heap.size + 1 + 1, 0, none⟩).trans (show _ = false by simp [go_sem])
    have f5 := (gr.2.1 ⟨w.heap.size + 1 + 1, 1, none⟩).trans (show _ = false by simp [go_sem])
    have hz : w.heap.size + 1 + 1 < w1.heap.size := Nat.lt_of_lt_of_le (by simp) gr.2.2
    have G1 := Lib.hid (grown_trans ((((Grown.refl w).alloc _ _).alloc _ _).alloc _ _) gr); clear gr
    go_wp2_with fail
    refine bodyPost_ret (v := .tuple #[.agg #[.int .i64 0, .int .i64 0], .int .i64 120]) (by simp [results, Try.results17, go_sem, c4, c5]) rfl ⟨rfl, ?_⟩
    (repeat (first | with_reducible exact G1.out | with_reducible refine Grown.setCell ?_ (by simp <;> omega) _))

set_option maxHeartbeats 1000000 in
theorem rsub_any (a b c d : Int) (w : World) :
    Calls Try.prog 19 #[.agg #[.int .i64 a, .int .i64 b], .agg #[.int .i64 c, .int .i64 d]] w fun e w' => e = fres (opV a b c d (a * d - c * b) (b * d)) ∧ Grown w w' := by
  rcases both_ways a b c d with ⟨hv, r1, r2⟩ | hv
  · rw [opV_yes hv]
    obtain ⟨x1, x2, x3, x4, x5, x6, x7, x8⟩ := Sm.of r1 r2
    have R := fun w => rboth_v a b c d 0 w hv
    have HR := Lib.hid R; clear R hv
    obtain ⟨b0l, b0h⟩ := prod_bd a d ⟨by omega, by omega⟩ ⟨by omega, by omega⟩
    obtain ⟨b1l, b1h⟩ := prod_bd c b ⟨by omega, by omega⟩ ⟨by omega, by omega⟩
    obtain ⟨b2l, b2h⟩ := prod_bd b d ⟨by omega, by omega⟩ ⟨by omega, by omega⟩
    obtain ⟨p0, hp0⟩ : ∃ p, a * d = p := ⟨_, rfl⟩
    obtain ⟨p1, hp1⟩ : ∃ p, c * b = p := ⟨_, rfl⟩
    obtain ⟨p2, hp2⟩ : ∃ p, b * d = p := ⟨_, rfl⟩
    rw [hp0, hp1, hp2]
    rw [hp0] at b0l b0h
    rw [hp1] at b1l b1h
    rw [hp2] at b2l b2h
    obtain ⟨⟨N, D, E⟩, hm⟩ : ∃ t, Fr.mkV (p0 - p1) (p2) = t := ⟨_, rfl⟩
    rw [hm]
    have R2 := fun w => rmake_v (p0 - p1) (p2) N D E w hm
    have HR2 := Lib.hid R2; clear R2 hm
    clear r1 r2
    go_enter Try.func19, Try.ntmps19
    go_wp2_with fail
    refine (HR.out _).mono ?_; rintro e w1 ⟨rfl, gr⟩
    have c4 := (grown_cell gr (p := ⟨w.heap.size + 1 + 1, 0, none⟩) (by simp)).trans (show _ = some (.int .i64 0) by simp [go_sem])
    have c5 := (grown_cell gr (p := ⟨w.heap.size + 1 + 1, 1, none⟩) (by simp)).trans (show _ = some (.int .i64 0) by simp [go_sem])
    have f4 := (gr.2.1 ⟨w.heap.size + 1 + 1, 0, none⟩).trans (show _ = false by simp [go_sem])
    have f5 := (gr.2.1 ⟨w.heap.size + 1 + 1, 1, none⟩).trans (show _ = false by simp [go_sem])
    have hz : w.heap.size + 1 + 1 < w1.heap.size := Nat.lt_of_lt_of_le (by simp) gr.2.2
    have k0 := (grown_cell gr (p := ⟨w.heap.size, 0, none⟩) (by simp <;> omega)).trans (show _ = some (.int .i64 a) by simp [go_sem])
    have k1 := (grown_cell gr (p := ⟨w.heap.size, 1, none⟩) (by simp <;> omega)).trans (show _ = some (.int .i64 b) by simp [go_sem])
    have k2 := (grown_cell gr (p := ⟨w.heap.size + 1, 0, none⟩) (by simp <;> omega)).trans (show _ = some (.int .i64 c) by simp [go_sem])
    have k3 := (grown_cell gr (p := ⟨w.heap.size + 1, 1, none⟩) (by simp <;> omega)).trans (show _ = some (.int .i64 d) by simp [go_sem])
    have G1 := Lib.hid (grown_trans ((((Grown.refl w).alloc _ _).alloc _ _).alloc _ _) gr); clear gr
    go_wp2_with fail
    refine (HR2.out _).mono ?_; rintro e w2 ⟨rfl, gr⟩
    have d4 := (grown_cell gr (p := ⟨w.heap.size + 1 + 1, 0, none⟩) hz).trans c4
    have d5 := (grown_cell gr (p := ⟨w.heap.size + 1 + 1, 1, none⟩) hz).trans c5
    have g4 := (gr.2.1 ⟨w.heap.size + 1 + 1, 0, none⟩).trans f4
    have g5 := (gr.2.1 ⟨w.heap.size + 1 + 1, 1, none⟩).trans f5
    clear c4 c5 f4 f5
    have GG := Lib.hid (grown_trans G1.out gr); clear gr
    go_wp2_with fail
    refine bodyPost_ret (v := .tuple #[.agg #[.int .i64 N, .int .i64 D], .int .i64 E]) (by simp [results, Try.results19, go_sem, d4, d5]) rfl ⟨rfl, ?_⟩
    (repeat (first | with_reducible exact GG.out | with_reducible refine Grown.setCell ?_ (by simp <;> omega) _))
  · rw [opV_no hv]
    have R := fun w => rboth_v a b c d 120 w hv
    have HR := Lib.hid R; clear R hv
    go_enter Try.func19, Try.ntmps19
    go_wp2_with fail
    refine (HR.out _).mono ?_; rintro e w1 ⟨rfl, gr⟩
    have c4 := (grown_cell gr (p := ⟨w.heap.size + 1 + 1, 0, none⟩) (by simp)).trans (show _ = some (.int .i64 0) by simp [go_sem])
    have c5 := (grown_cell gr (p := ⟨w.heap.size + 1 + 1, 1, none⟩) (by simp)).trans (show _ = some (.int .i64 0) by simp [go_sem])
    have f4 := (gr.2.1 ⟨w.heap.size + 1 + 1, 0, none⟩).trans (show _ = false by simp [go_sem])
    have f5 := (gr.2.1 ⟨w.heap.size + 1 + 1, 1, none⟩).trans (show _ = false by simp [go_sem])
    have hz : w.heap.size + 1 + 1 < w1.heap.size := Nat.lt_of_lt_of_le (by simp) gr.2.2
    have G1 := Lib.hid (grown_trans ((((Grown.refl w).alloc _ _).alloc _ _).alloc _ _) gr); clear gr
    go_wp2_with fail
    refine bodyPost_ret (v := .tuple #[.agg #[.int .i64 0, .int .i64 0], .int .i64 120]) (by simp [results, Try.results19, go_sem, c4, c5]) rfl ⟨rfl, ?_⟩
    (repeat (first | with_reducible exact G1.out | with_reducible refine Grown.setCell ?_ (by simp <;> omega) _))

set_option maxHeartbeats 1000000 in
theorem rmul_any (a b c d : Int) (w : World) :
    Calls Try.prog 21 #[.agg #[.int .i64 a, .int .i64 b], .agg #[.int .i64 c, .int .i64 d]] w fun e w' => e = fres (opV a b c d (a * c) (b * d)) ∧ Grown w w' := by
  rcases both_ways a b c d with ⟨hv, r1, r2⟩ | hv
  · rw [opV_yes hv]
    obtain ⟨x1, x2, x3, x4, x5, x6, x7, x8⟩ := Sm.of r1 r2
    have R := fun w => rboth_v a b c d 0 w hv
    have HR := Lib.hid R; clear R hv
    obtain ⟨b0l, b0h⟩ := prod_bd a c ⟨by omega, by omega⟩ ⟨by omega, by omega⟩
    obtain ⟨b1l, b1h⟩ := prod_bd b d ⟨by omega, by omega⟩ ⟨by omega, by omega⟩
    obtain ⟨p0, hp0⟩ : ∃ p, a * c = p := ⟨_, rfl⟩
    obtain ⟨p1, hp1⟩ : ∃ p, b * d = p := ⟨_, rfl⟩
    rw [hp0, hp1]
    rw [hp0] at b0l b0h
    rw [hp1] at b1l b1h
    obtain ⟨⟨N, D, E⟩, hm⟩ : ∃ t, Fr.mkV (p0) (p1) = t := ⟨_, rfl⟩
    rw [hm]
    have R2 := fun w => rmake_v (p0) (p1) N D E w hm
    have HR2 := Lib.hid R2; clear R2 hm
    clear r1 r2
    go_enter Try.func21, Try.ntmps21
    go_wp2_with fail
    refine (HR.out _).mono ?_; rintro e w1 ⟨rfl, gr⟩
    have c4 := (grown_cell gr (p := ⟨w.heap.size + 1 + 1, 0, none⟩) (by simp)).trans (show _ = some (.int .i64 0) by simp [go_sem])
    have c5 := (grown_cell gr (p := ⟨w.heap.size + 1 + 1, 1, none⟩) (by simp)).trans (show _ = some (.int .i64 0) by simp [go_sem])
    have f4 := (gr.2.1 ⟨w.heap.size + 1 + 1, 0, none⟩).trans (show _ = false by simp [go_sem])
    have f5 := (gr.2.1 ⟨w.heap.size + 1 + 1, 1, none⟩).trans (show _ = false by simp [go_sem])
    have hz : w.heap.size + 1 + 1 < w1.heap.size := Nat.lt_of_lt_of_le (by simp) gr.2.2
    have k0 := (grown_cell gr (p := ⟨w.heap.size, 0, none⟩) (by simp <;> omega)).trans (show _ = some (.int .i64 a) by simp [go_sem])
    have k1 := (grown_cell gr (p := ⟨w.heap.size, 1, none⟩) (by simp <;> omega)).trans (show _ = some (.int .i64 b) by simp [go_sem])
    have k2 := (grown_cell gr (p := ⟨w.heap.size + 1, 0, none⟩) (by simp <;> omega)).trans (show _ = some (.int .i64 c) by simp [go_sem])
    have k3 := (grown_cell gr (p := ⟨w.heap.size + 1, 1, none⟩) (by simp <;> omega)).trans (show _ = some (.int .i64 d) by simp [go_sem])
    have G1 := Lib.hid (grown_trans ((((Grown.refl w).alloc _ _).alloc _ _).alloc _ _) gr); clear gr
    go_wp2_with fail
    refine (HR2.out _).mono ?_; rintro e w2 ⟨rfl, gr⟩
    have d4 := (grown_cell gr (p := ⟨w.heap.size + 1 + 1, 0, none⟩) hz).trans c4
    have d5 := (grown_cell gr (p := ⟨w.heap.size + 1 + 1, 1, none⟩) hz).trans c5
    have g4 := (gr.2.1 ⟨w.heap.size + 1 + 1, 0, none⟩).trans f4
    have g5 := (gr.2.1 ⟨w.heap.size + 1 + 1, 1, none⟩).trans f5
    clear c4 c5 f4 f5
    have GG := Lib.hid (grown_trans G1.out gr); clear gr
    go_wp2_with fail
    refine bodyPost_ret (v := .tuple #[.agg #[.int .i64 N, .int .i64 D], .int .i64 E]) (by simp [results, Try.results21, go_sem, d4, d5]) rfl ⟨rfl, ?_⟩
    (repeat (first | with_reducible exact GG.out | with_reducible refine Grown.setCell ?_ (by simp <;> omega) _))
  · rw [opV_no hv]
    have R := fun w => rboth_v a b c d 120 w hv
    have HR := Lib.hid R; clear R hv
    go_enter Try.func21, Try.ntmps21
    go_wp2_with fail
    refine (HR.out _).mono ?_; rintro e w1 ⟨rfl, gr⟩
    have c4 := (grown_cell gr (p := ⟨w.heap.size + 1 + 1, 0, none⟩) (by simp)).trans (show _ = some (.int .i64 0) by simp [go_sem])
    have c5 := (grown_cell gr (p := ⟨w.heap.size + 1 + 1, 1, none⟩) (by simp)).trans (show _ = some (.int .i64 0) by simp [go_sem])
    have f4 := (gr.2.1 ⟨w.heap.size + 1 + 1, 0, none⟩).trans (show _ = false by simp [go_sem])
    have f5 := (gr.2.1 ⟨w.heap.size + 1 + 1, 1, none⟩).trans (show _ = false by simp [go_sem])
    have hz : w.heap.size + 1 + 1 < w1.heap.size := Nat.lt_of_lt_of_le (by simp) gr.2.2
    have G1 := Lib.hid (grown_trans ((((Grown.refl w).alloc _ _).alloc _ _).alloc _ _) gr); clear gr
    go_wp2_with fail
    refine bodyPost_ret (v := .tuple #[.agg #[.int .i64 0, .int .i64 0], .int .i64 120]) (by simp [results, Try.results21, go_sem, c4, c5]) rfl ⟨rfl, ?_⟩
    (repeat (first | with_reducible exact G1.out | with_reducible refine Grown.setCell ?_ (by simp <;> omega) _))

set_option maxHeartbeats 1000000 in
theorem rdiv_any (a b c d : Int) (w : World) :
    Calls Try.prog 23 #[.agg #[.int .i64 a, .int .i64 b], .agg #[.int .i64 c, .int .i64 d]] w fun e w' => e = fres (opV a b c d (a * d) (b * c)) ∧ Grown w w' := by
  rcases both_ways a b c d with ⟨hv, r1, r2⟩ | hv
  · rw [opV_yes hv]
    obtain ⟨x1, x2, x3, x4, x5, x6, x7, x8⟩ := Sm.of r1 r2
    have R := fun w => rboth_v a b c d 0 w hv
    have HR := Lib.hid R; clear R hv
    obtain ⟨b0l, b0h⟩ := prod_bd a d ⟨by omega, by omega⟩ ⟨by omega, by omega⟩
    obtain ⟨b1l, b1h⟩ := prod_bd b c ⟨by omega, by omega⟩ ⟨by omega, by omega⟩
    obtain ⟨p0, hp0⟩ : ∃ p, a * d = p := ⟨_, rfl⟩
    obtain ⟨p1, hp1⟩ : ∃ p, b * c = p := ⟨_, rfl⟩
    rw [hp0, hp1]
    rw [hp0] at b0l b0h
    rw [hp1] at b1l b1h
    obtain ⟨⟨N, D, E⟩, hm⟩ : ∃ t, Fr.mkV (p0) (p1) = t := ⟨_, rfl⟩
    rw [hm]
    have R2 := fun w => rmake_v (p0) (p1) N D E w hm
    have HR2 := Lib.hid R2; clear R2 hm
    clear r1 r2
    go_enter Try.func23, Try.ntmps23
    go_wp2_with fail
    refine (HR.out _).mono ?_; rintro e w1 ⟨rfl, gr⟩
    have c4 := (grown_cell gr (p := ⟨w.heap.size + 1 + 1, 0, none⟩) (by simp)).trans (show _ = some (.int .i64 0) by simp [go_sem])
    have c5 := (grown_cell gr (p := ⟨w.heap.size + 1 + 1, 1, none⟩) (by simp)).trans (show _ = some (.int .i64 0) by simp [go_sem])
    have f4 := (gr.2.1 ⟨w.heap.size + 1 + 1, 0, none⟩).trans (show _ = false by simp [go_sem])
    have f5 := (gr.2.1 ⟨w.heap.size + 1 + 1, 1, none⟩).trans (show _ = false by simp [go_sem])
    have hz : w.heap.size + 1 + 1 < w1.heap.size := Nat.lt_of_lt_of_le (by simp) gr.2.2
    have k0 := (grown_cell gr (p := ⟨w.heap.size, 0, none⟩) (by simp <;> omega)).trans (show _ = some (.int .i64 a) by simp [go_sem])
    have k1 := (grown_cell gr (p := ⟨w.heap.size, 1, none⟩) (by simp <;> omega)).trans (show _ = some (.int .i64 b) by simp [go_sem])
    have k2 := (grown_cell gr (p := ⟨w.heap.size + 1, 0, none⟩) (by simp <;> omega)).trans (show _ = some (.int .i64 c) by simp [go_sem])
    have k3 := (grown_cell gr (p := ⟨w.heap.size + 1, 1, none⟩) (by simp <;> omega)).trans (show _ = some (.int .i64 d) by simp [go_sem])
    have G1 := Lib.hid (grown_trans ((((Grown.refl w).alloc _ _).alloc _ _).alloc _ _) gr); clear gr
    go_wp2_with fail
    refine (HR2.out _).mono ?_; rintro e w2 ⟨rfl, gr⟩
    have d4 := (grown_cell gr (p := ⟨w.heap.size + 1 + 1, 0, none⟩) hz).trans c4
    have d5 := (grown_cell gr (p := ⟨w.heap.size + 1 + 1, 1, none⟩) hz).trans c5
    have g4 := (gr.2.1 ⟨w.heap.size + 1 + 1, 0, none⟩).trans f4
    have g5 := (gr.2.1 ⟨w.heap.size + 1 + 1, 1, none⟩).trans f5
    clear c4 c5 f4 f5
    have GG := Lib.hid (grown_trans G1.out gr); clear gr
    go_wp2_with fail
    refine bodyPost_ret (v := .tuple #[.agg #[.int .i64 N, .int .i64 D], .int .i64 E]) (by simp [results, Try.results23, go_sem, d4, d5]) rfl ⟨rfl, ?_⟩
    (repeat (first | with_reducible exact GG.out | with_reducible refine Grown.setCell ?_ (by simp <;> omega) _))
  · rw [opV_no hv]
    have R := fun w => rboth_v a b c d 120 w hv
    have HR := Lib.hid R; clear R hv
    go_enter Try.func23, Try.ntmps23
    go_wp2_with fail
    refine (HR.out _).mono ?_; rintro e w1 ⟨rfl, gr⟩
    have c4 := (grown_cell gr (p := ⟨w.heap.size + 1 + 1, 0, none⟩) (by simp)).trans (show _ = some (.int .i64 0) by simp [go_sem])
    have c5 := (grown_cell gr (p := ⟨w.heap.size + 1 + 1, 1, none⟩) (by simp)).trans (show _ = some (.int .i64 0) by simp [go_sem])
    have f4 := (gr.2.1 ⟨w.heap.size + 1 + 1, 0, none⟩).trans (show _ = false by simp [go_sem])
    have f5 := (gr.2.1 ⟨w.heap.size + 1 + 1, 1, none⟩).trans (show _ = false by simp [go_sem])
    have hz : w.heap.size + 1 + 1 < w1.heap.size := Nat.lt_of_lt_of_le (by simp) gr.2.2
    have G1 := Lib.hid (grown_trans ((((Grown.refl w).alloc _ _).alloc _ _).alloc _ _) gr); clear gr
    go_wp2_with fail
    refine bodyPost_ret (v := .tuple #[.agg #[.int .i64 0, .int .i64 0], .int .i64 120]) (by simp [results, Try.results23, go_sem, c4, c5]) rfl ⟨rfl, ?_⟩
    (repeat (first | with_reducible exact G1.out | with_reducible refine Grown.setCell ?_ (by simp <;> omega) _))

end Go.Proofs.Ytgbjooecomgfoaa
