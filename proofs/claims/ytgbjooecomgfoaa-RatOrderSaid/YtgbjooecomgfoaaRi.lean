/-
  What Add, Sub, Mul and Div of package rat and of its reference return.
-/
import Derived.Test.YtgbjooecomgfoaaRh
namespace Go.Proofs.Ytgbjooecomgfoaa
open Go.RowKit

/-- The result of an operation whose cross products are p and q. -/
def opV (a b c d p q : Int) : Int × Int × Int := if bothV a b c d = 0 then Fr.mkV p q else (0, 0, 120)
theorem opV_yes {a b c d p q : Int} (h : bothV a b c d = 0) : opV a b c d p q = Fr.mkV p q := if_pos h
theorem opV_no {a b c d p q : Int} (h : bothV a b c d = 120) : opV a b c d p q = (0, 0, 120) := if_neg (by rw [h]; decide)
theorem both_ways (a b c d : Int) : (bothV a b c d = 0 ∧ Fr.right a b ∧ Fr.right c d) ∨ bothV a b c d = 120 := by
  by_cases h : Fr.right a b
  · by_cases k : Fr.right c d
    · exact .inl ⟨bothV_yes h k, h, k⟩
    · exact .inr (bothV_r k)
  · exact .inr (bothV_l h)
theorem divided_v (p q N D E : Int) (w : World) (h : Fr.mkV p q = (N, D, E)) :
    Calls Try.prog 43 #[.int .i64 p, .int .i64 q, .int .i64 0] w fun e w' => e = .returned (.tuple #[.agg #[.int .i64 N, .int .i64 D], .int .i64 E]) ∧ Grown w w' := by
  have := divided_ok p q w; rw [h] at this; exact this
theorem divided_120 (w : World) :
    Calls Try.prog 43 #[.int .i64 0, .int .i64 0, .int .i64 120] w fun e w' => e = .returned (.tuple #[.agg #[.int .i64 0, .int .i64 0], .int .i64 120]) ∧ Grown w w' :=
  divided_err 0 0 120 w (by decide)
theorem rboth_v (a b c d v : Int) (w : World) (h : bothV a b c d = v) :
    Calls Try.prog 46 #[.agg #[.int .i64 a, .int .i64 b], .agg #[.int .i64 c, .int .i64 d]] w fun e w' => e = .returned (.int .i64 v) ∧ Grown w w' := by
  have := rboth_any a b c d w; rw [h] at this; exact this

set_option maxHeartbeats 1000000 in
theorem add_any (a b c d : Int) (w : World) :
    Calls Try.prog 16 #[.agg #[.int .i64 a, .int .i64 b], .agg #[.int .i64 c, .int .i64 d]] w fun e w' => e = fres (opV a b c d (a * d + c * b) (b * d)) ∧ Grown w w' := by
  have hmf : ∀ (fn : Fn) (first cap : Array Value) (w : World), (Instr.makeFunc fn first cap).run Try.prog w = .ok (.func fn first cap) w := fun _ _ _ _ => rfl
  rcases both_ways a b c d with ⟨hv, r1, r2⟩ | hv
  · rw [opV_yes hv]
    have X := Sm.of r1 r2
    obtain ⟨⟨N, D, E⟩, hm⟩ : ∃ t, Fr.mkV (a * d + c * b) (b * d) = t := ⟨_, rfl⟩
    rw [hm]
    have R := fun w A B hk => crossAdd a b c d (a * d + c * b) (b * d) A B w hv hk
    have R2 := fun w => divided_v (a * d + c * b) (b * d) N D E w hm
    have K := fun w A B => cloAdd a b c d w A B X
    have HR := Lib.hid R; clear R hv
    have HR2 := Lib.hid R2; clear R2 hm
    have HK := Lib.hid K; clear K X r1 r2
    generalize (a * d + c * b) = p at *
    generalize (b * d) = q at *
    go_enter Try.func16, Try.ntmps16
    go_wp2_with fail
    refine Calls.mono (HR.out _ _ _ ?_) ?_
    · intro w1 g
      refine HK.out w1 _ _ ?_ ?_ ?_ ?_ <;> (rw [grown_cell g (by simp <;> omega)]; simp [go_sem])
    rintro e w1 ⟨rfl, gr⟩
    have c4 := (grown_cell gr (p := ⟨w.heap.size + 1 + 1, 0, none⟩) (by simp)).trans (show _ = some (.int .i64 0) by simp [go_sem])
    have c5 := (grown_cell gr (p := ⟨w.heap.size + 1 + 1, 1, none⟩) (by simp)).trans (show _ = some (.int .i64 0) by simp [go_sem])
    have f4 := (gr.2.1 ⟨w.heap.size + 1 + 1, 0, none⟩).trans (show _ = false by simp [go_sem])
    have f5 := (gr.2.1 ⟨w.heap.size + 1 + 1, 1, none⟩).trans (show _ = false by simp [go_sem])
    have hz : w.heap.size + 1 + 1 < w1.heap.size := Nat.lt_of_lt_of_le (by simp) gr.2.2
    have G1 := Lib.hid (grown_trans ((((Grown.refl w).alloc _ _).alloc _ _).alloc _ _) gr); clear gr
    go_wp2_with fail
    refine (HR2.out _).mono ?_; rintro e w2 ⟨rfl, gr⟩
    have d4 := (grown_cell gr (p := ⟨w.heap.size + 1 + 1, 0, none⟩) hz).trans c4
    have d5 := (grown_cell gr (p := ⟨w.heap.size + 1 + 1, 1, none⟩) hz).trans c5
    have g4 := (gr.2.1 ⟨w.heap.size + 1 + 1, 0, none⟩).trans f4
    have g5 := (gr.2.1 ⟨w.heap.size + 1 + 1, 1, none⟩).trans f5
    clear c4 c5 f4 f5
    have GG := Lib.hid (grown_trans G1.out gr); clear gr
    go_wp2_with fail
    refine bodyPost_ret (v := .tuple #[.agg #[.int .i64 N, .int .i64 D], .int .i64 E]) (by simp [results, Try.results16, go_sem, d4, d5]) rfl ⟨rfl, ?_⟩
    (repeat (first | with_reducible exact GG.out | with_reducible refine Grown.setCell ?_ (by simp <;> omega) _))
  · rw [opV_no hv]
    have R := fun fv w => cross_no a b c d fv w hv
    have HR := Lib.hid R; clear R hv
    go_enter Try.func16, Try.ntmps16
    go_wp2_with fail
    refine (HR.out _ _).mono ?_; rintro e w1 ⟨rfl, gr⟩
    have c4 := (grown_cell gr (p := ⟨w.heap.size + 1 + 1, 0, none⟩) (by simp)).trans (show _ = some (.int .i64 0) by simp [go_sem])
    have c5 := (grown_cell gr (p := ⟨w.heap.size + 1 + 1, 1, none⟩) (by simp)).trans (show _ = some (.int .i64 0) by simp [go_sem])
    have f4 := (gr.2.1 ⟨w.heap.size + 1 + 1, 0, none⟩).trans (show _ = false by simp [go_sem])
    have f5 := (gr.2.1 ⟨w.heap.size + 1 + 1, 1, none⟩).trans (show _ = false by simp [go_sem])
    have hz : w.heap.size + 1 + 1 < w1.heap.size := Nat.lt_of_lt_of_le (by simp) gr.2.2
    have G1 := Lib.hid (grown_trans ((((Grown.refl w).alloc _ _).alloc _ _).alloc _ _) gr); clear gr
    go_wp2_with fail
    refine (divided_120 _).mono ?_; rintro e w2 ⟨rfl, gr⟩
    have d4 := (grown_cell gr (p := ⟨w.heap.size + 1 + 1, 0, none⟩) hz).trans c4
    have d5 := (grown_cell gr (p := ⟨w.heap.size + 1 + 1, 1, none⟩) hz).trans c5
    have g4 := (gr.2.1 ⟨w.heap.size + 1 + 1, 0, none⟩).trans f4
    have g5 := (gr.2.1 ⟨w.heap.size + 1 + 1, 1, none⟩).trans f5
    clear c4 c5 f4 f5
    have GG := Lib.hid (grown_trans G1.out gr); clear gr
    go_wp2_with fail
    refine bodyPost_ret (v := .tuple #[.agg #[.int .i64 0, .int .i64 0], .int .i64 120]) (by simp [results, Try.results16, go_sem, d4, d5]) rfl ⟨rfl, ?_⟩
    (repeat (first | with_reducible exact GG.out | with_reducible refine Grown.setCell ?_ (by simp <;> omega) _))

set_option maxHeartbeats 1000000 in
theorem sub_any (a b c d : Int) (w : World) :
    Calls Try.prog 18 #[.agg #[.int .i64 a, .int .i64 b], .agg #[.int .i64 c, .int .i64 d]] w fun e w' => e = fres (opV a b c d (a * d - c * b) (b * d)) ∧ Grown w w' := by
  have hmf : ∀ (fn : Fn) (first cap : Array Value) (w : World), (Instr.makeFunc fn first cap).run Try.prog w = .ok (.func fn first cap) w := fun _ _ _ _ => rfl
  rcases both_ways a b c d with ⟨hv, r1, r2⟩ | hv
  · rw [opV_yes hv]
    have X := Sm.of r1 r2
    obtain ⟨⟨N, D, E⟩, hm⟩ : ∃ t, Fr.mkV (a * d - c * b) (b * d) = t := ⟨_, rfl⟩
    rw [hm]
    have R := fun w A B hk => crossSub a b c d (a * d - c * b) (b * d) A B w hv hk
    have R2 := fun w => divided_v (a * d - c * b) (b * d) N D E w hm
    have K := fun w A B => cloSub a b c d w A B X
    have HR := Lib.hid R; clear R hv
    have HR2 := Lib.hid R2; clear R2 hm
    have HK := Lib.hid K; clear K X r1 r2
    generalize (a * d - c * b) = p at *
    generalize (b * d) = q at *
    go_enter Try.func18, Try.ntmps18
    go_wp2_with fail
    refine Calls.mono (HR.out _ _ _ ?_) ?_
    · intro w1 g
      refine HK.out w1 _ _ ?_ ?_ ?_ ?_ <;> (rw [grown_cell g (by simp <;> omega)]; simp [go_sem])
    rintro e w1 ⟨rfl, gr⟩
    have c4 := (grown_cell gr (p := ⟨w.heap.size + 1 + 1, 0, none⟩) (by simp)).trans (show _ = some (.int .i64 0) by simp [go_sem])
    have c5 := (grown_cell gr (p := ⟨w.heap.size + 1 + 1, 1, none⟩) (by simp)).trans (show _ = some (.int .i64 0) by simp [go_sem])
    have f4 := (gr.2.1 ⟨w.heap.size + 1 + 1, 0, none⟩).trans (show _ = false by simp [go_sem])
    have f5 := (gr.2.1 ⟨w.heap.size + 1 + 1, 1, none⟩).trans (show _ = false by simp [go_sem])
    have hz : w.heap.size + 1 + 1 < w1.heap.size := Nat.lt_of_lt_of_le (by simp) gr.2.2
    have G1 := Lib.hid (grown_trans ((((Grown.refl w).alloc _ _).alloc _ _).alloc _ _) gr); clear gr
    go_wp2_with fail
    refine (HR2.out _).mono ?_; rintro e w2 ⟨rfl, gr⟩
    have d4 := (grown_cell gr (p := ⟨w.heap.size + 1 + 1, 0, none⟩) hz).trans c4
    have d5 := (grown_cell gr (p := ⟨w.heap.size + 1 + 1, 1, none⟩) hz).trans c5
    have g4 := (gr.2.1 ⟨w.heap.size + 1 + 1, 0, none⟩).trans f4
    have g5 := (gr.2.1 ⟨w.heap.size + 1 + 1, 1, none⟩).trans f5
    clear c4 c5 f4 f5
    have GG := Lib.hid (grown_trans G1.out gr); clear gr
    go_wp2_with fail
    refine bodyPost_ret (v := .tuple #[.agg #[.int .i64 N, .int .i64 D], .int .i64 E]) (by simp [results, Try.results18, go_sem, d4, d5]) rfl ⟨rfl, ?_⟩
    (repeat (first | with_reducible exact GG.out | with_reducible refine Grown.setCell ?_ (by simp <;> omega) _))
  · rw [opV_no hv]
    have R := fun fv w => cross_no a b c d fv w hv
    have HR := Lib.hid R; clear R hv
    go_enter Try.func18, Try.ntmps18
    go_wp2_with fail
    refine (HR.out _ _).mono ?_; rintro e w1 ⟨rfl, gr⟩
    have c4 := (grown_cell gr (p := ⟨w.heap.size + 1 + 1, 0, none⟩) (by simp)).trans (show _ = some (.int .i64 0) by simp [go_sem])
    have c5 := (grown_cell gr (p := ⟨w.heap.size + 1 + 1, 1, none⟩) (by simp)).trans (show _ = some (.int .i64 0) by simp [go_sem])
    have f4 := (gr.2.1 ⟨w.heap.size + 1 + 1, 0, none⟩).trans (show _ = false by simp [go_sem])
    have f5 := (gr.2.1 ⟨w.heap.size + 1 + 1, 1, none⟩).trans (show _ = false by simp [go_sem])
    have hz : w.heap.size + 1 + 1 < w1.heap.size := Nat.lt_of_lt_of_le (by simp) gr.2.2
    have G1 := Lib.hid (grown_trans ((((Grown.refl w).alloc _ _).alloc _ _).alloc _ _) gr); clear gr
    go_wp2_with fail
    refine (divided_120 _).mono ?_; rintro e w2 ⟨rfl, gr⟩
    have d4 := (grown_cell gr (p := ⟨w.heap.size + 1 + 1, 0, none⟩) hz).trans c4
    have d5 := (grown_cell gr (p := ⟨w.heap.size + 1 + 1, 1, none⟩) hz).trans c5
    have g4 := (gr.2.1 ⟨w.heap.size + 1 + 1, 0, none⟩).trans f4
    have g5 := (gr.2.1 ⟨w.heap.size + 1 + 1, 1, none⟩).trans f5
    clear c4 c5 f4 f5
    have GG := Lib.hid (grown_trans G1.out gr); clear gr
    go_wp2_with fail
    refine bodyPost_ret (v := .tuple #[.agg #[.int .i64 0, .int .i64 0], .int .i64 120]) (by simp [results, Try.results18, go_sem, d4, d5]) rfl ⟨rfl, ?_⟩
    (repeat (first | with_reducible exact GG.out | with_reducible refine Grown.setCell ?_ (by simp <;> omega) _))

set_option maxHeartbeats 1000000 in
theorem mul_any (a b c d : Int) (w : World) :
    Calls Try.prog 20 #[.agg #[.int .i64 a, .int .i64 b], .agg #[.int .i64 c, .int .i64 d]] w fun e w' => e = fres (opV a b c d (a * c) (b * d)) ∧ Grown w w' := by
  have hmf : ∀ (fn : Fn) (first cap : Array Value) (w : World), (Instr.makeFunc fn first cap).run Try.prog w = .ok (.func fn first cap) w := fun _ _ _ _ => rfl
  rcases both_ways a b c d with ⟨hv, r1, r2⟩ | hv
  · rw [opV_yes hv]
    have X := Sm.of r1 r2
    obtain ⟨⟨N, D, E⟩, hm⟩ : ∃ t, Fr.mkV (a * c) (b * d) = t := ⟨_, rfl⟩
    rw [hm]
    have R := fun w A B hk => crossMul a b c d (a * c) (b * d) A B w hv hk
    have R2 := fun w => divided_v (a * c) (b * d) N D E w hm
    have K := fun w A B => cloMul a b c d w A B X
    have HR := Lib.hid R; clear R hv
    have HR2 := Lib.hid R2; clear R2 hm
    have HK := Lib.hid K; clear K X r1 r2
    generalize (a * c) = p at *
    generalize (b * d) = q at *
    go_enter Try.func20, Try.ntmps20
    go_wp2_with fail
    refine Calls.mono (HR.out _ _ _ ?_) ?_
    · intro w1 g
      refine HK.out w1 _ _ ?_ ?_ ?_ ?_ <;> (rw [grown_cell g (by simp <;> omega)]; simp [go_sem])
    rintro e w1 ⟨rfl, gr⟩
    have c4 := (grown_cell gr (p := ⟨w.heap.size + 1 + 1, 0, none⟩) (by simp)).trans (show _ = some (.int .i64 0) by simp [go_sem])
    have c5 := (grown_cell gr (p := ⟨w.heap.size + 1 + 1, 1, none⟩) (by simp)).trans (show _ = some (.int .i64 0) by simp [go_sem])
    have f4 := (gr.2.1 ⟨w.heap.size + 1 + 1, 0, none⟩).trans (show _ = false by simp [go_sem])
    have f5 := (gr.2.1 ⟨w.heap.size + 1 + 1, 1, none⟩).trans (show _ = false by simp [go_sem])
    have hz : w.heap.size + 1 + 1 < w1.heap.size := Nat.lt_of_lt_of_le (by simp) gr.2.2
    have G1 := Lib.hid (grown_trans ((((Grown.refl w).alloc _ _).alloc _ _).alloc _ _) gr); clear gr
    go_wp2_with fail
    refine (HR2.out _).mono ?_; rintro e w2 ⟨rfl, gr⟩
    have d4 := (grown_cell gr (p := ⟨w.heap.size + 1 + 1, 0, none⟩) hz).trans c4
    have d5 := (grown_cell gr (p := ⟨w.heap.size + 1 + 1, 1, none⟩) hz).trans c5
    have g4 := (gr.2.1 ⟨w.heap.size + 1 + 1, 0, none⟩).trans f4
    have g5 := (gr.2.1 ⟨w.heap.size + 1 + 1, 1, none⟩).trans f5
    clear c4 c5 f4 f5
    have GG := Lib.hid (grown_trans G1.out gr); clear gr
    go_wp2_with fail
    refine bodyPost_ret (v := .tuple #[.agg #[.int .i64 N, .int .i64 D], .int .i64 E]) (by simp [results, Try.results20, go_sem, d4, d5]) rfl ⟨rfl, ?_⟩
    (repeat (first | with_reducible exact GG.out | with_reducible refine Grown.setCell ?_ (by simp <;> omega) _))
  · rw [opV_no hv]
    have R := fun fv w => cross_no a b c d fv w hv
    have HR := Lib.hid R; clear R hv
    go_enter Try.func20, Try.ntmps20
    go_wp2_with fail
    refine (HR.out _ _).mono ?_; rintro e w1 ⟨rfl, gr⟩
    have c4 := (grown_cell gr (p := ⟨w.heap.size + 1 + 1, 0, none⟩) (by simp)).trans (show _ = some (.int .i64 0) by simp [go_sem])
    have c5 := (grown_cell gr (p := ⟨w.heap.size + 1 + 1, 1, none⟩) (by simp)).trans (show _ = some (.int .i64 0) by simp [go_sem])
    have f4 := (gr.2.1 ⟨w.heap.size + 1 + 1, 0, none⟩).trans (show _ = false by simp [go_sem])
    have f5 := (gr.2.1 ⟨w.heap.size + 1 + 1, 1, none⟩).trans (show _ = false by simp [go_sem])
    have hz : w.heap.size + 1 + 1 < w1.heap.size := Nat.lt_of_lt_of_le (by simp) gr.2.2
    have G1 := Lib.hid (grown_trans ((((Grown.refl w).alloc _ _).alloc _ _).alloc _ _) gr); clear gr
    go_wp2_with fail
    refine (divided_120 _).mono ?_; rintro e w2 ⟨rfl, gr⟩
    have d4 := (grown_cell gr (p := ⟨w.heap.size + 1 + 1, 0, none⟩) hz).trans c4
    have d5 := (grown_cell gr (p := ⟨w.heap.size + 1 + 1, 1, none⟩) hz).trans c5
    have g4 := (gr.2.1 ⟨w.heap.size + 1 + 1, 0, none⟩).trans f4
    have g5 := (gr.2.1 ⟨w.heap.size + 1 + 1, 1, none⟩).trans f5
    clear c4 c5 f4 f5
    have GG := Lib.hid (grown_trans G1.out gr); clear gr
    go_wp2_with fail
    refine bodyPost_ret (v := .tuple #[.agg #[.int .i64 0, .int .i64 0], .int .i64 120]) (by simp [results, Try.results20, go_sem, d4, d5]) rfl ⟨rfl, ?_⟩
    (repeat (first | with_reducible exact GG.out | with_reducible refine Grown.setCell ?_ (by simp <;> omega) _))

set_option maxHeartbeats 1000000 in
theorem div_any (a b c d : Int) (w : World) :
    Calls Try.prog 22 #[.agg #[.int .i64 a, .int .i64 b], .agg #[.int .i64 c, .int .i64 d]] w fun e w' => e = fres (opV a b c d (a * d) (b * c)) ∧ Grown w w' := by
  have hmf : ∀ (fn : Fn) (first cap : Array Value) (w : World), (Instr.makeFunc fn first cap).run Try.prog w = .ok (.func fn first cap) w := fun _ _ _ _ => rfl
  rcases both_ways a b c d with ⟨hv, r1, r2⟩ | hv
  · rw [opV_yes hv]
    have X := Sm.of r1 r2
    obtain ⟨⟨N, D, E⟩, hm⟩ : ∃ t, Fr.mkV (a * d) (b * c) = t := ⟨_, rfl⟩
    rw [hm]
    have R := fun w A B hk => crossDiv a b c d (a * d) (b * c) A B w hv hk
    have R2 := fun w => divided_v (a * d) (b * c) N D E w hm
    have K := fun w A B => cloDiv a b c d w A B X
    have HR := Lib.hid R; clear R hv
    have HR2 := Lib.hid R2; clear R2 hm
    have HK := Lib.hid K; clear K X r1 r2
    generalize (a * d) = p at *
    generalize (b * c) = q at *
    go_enter Try.func22, Try.ntmps22
    go_wp2_with fail
    refine Calls.mono (HR.out _ _ _ ?_) ?_
    · intro w1 g
      refine HK.out w1 _ _ ?_ ?_ ?_ ?_ <;> (rw [grown_cell g (by simp <;> omega)]; simp [go_sem])
    rintro e w1 ⟨rfl, gr⟩
    have c4 := (grown_cell gr (p := ⟨w.heap.size + 1 + 1, 0, none⟩) (by simp)).trans (show _ = some (.int .i64 0) by simp [go_sem])
    have c5 := (grown_cell gr (p := ⟨w.heap.size + 1 + 1, 1, none⟩) (by simp)).trans (show _ = some (.int .i64 0) by simp [go_sem])
    have f4 := (gr.2.1 ⟨w.heap.size + 1 + 1, 0, none⟩).trans (show _ = false by simp [go_sem])
    have f5 := (gr.2.1 ⟨w.heap.size + 1 + 1, 1, none⟩).trans (show _ = false by simp [go_sem])
    have hz : w.heap.size + 1 + 1 < w1.heap.size := Nat.lt_of_lt_of_le (by simp) gr.2.2
    have G1 := Lib.hid (grown_trans ((((Grown.refl w).alloc _ _).alloc _ _).alloc _ _) gr); clear gr
    go_wp2_with fail
    refine (HR2.out _).mono ?_; rintro e w2 ⟨rfl, gr⟩
    have d4 := (grown_cell gr (p := ⟨w.heap.size + 1 + 1, 0, none⟩) hz).trans c4
    have d5 := (grown_cell gr (p := ⟨w.heap.size + 1 + 1, 1, none⟩) hz).trans c5
    have g4 := (gr.2.1 ⟨w.heap.size + 1 + 1, 0, none⟩).trans f4
    have g5 := (gr.2.1 ⟨w.heap.size + 1 + 1, 1, none⟩).trans f5
    clear c4 c5 f4 f5
    have GG := Lib.hid (grown_trans G1.out gr); clear gr
    go_wp2_with fail
    refine bodyPost_ret (v := .tuple #[.agg #[.int .i64 N, .int .i64 D], .int .i64 E]) (by simp [results, Try.results22, go_sem, d4, d5]) rfl ⟨rfl, ?_⟩
    (repeat (first | with_reducible exact GG.out | with_reducible refine Grown.setCell ?_ (by simp <;> omega) _))
  · rw [opV_no hv]
    have R := fun fv w => cross_no a b c d fv w hv
    have HR := Lib.hid R; clear R hv
    go_enter Try.func22, Try.ntmps22
    go_wp2_with fail
    refine (HR.out _ _).mono ?_; rintro e w1 ⟨rfl, gr⟩
    have c4 := (grown_cell gr (p := ⟨w.heap.size + 1 + 1, 0, none⟩) (by simp)).trans (show _ = some (.int .i64 0) by simp [go_sem])
    have c5 := (grown_cell gr (p := ⟨w.heap.size + 1 + 1, 1, none⟩) (by simp)).trans (show _ = some (.int .i64 0) by simp [go_sem])
    have f4 := (gr.2.1 ⟨w.heap.size + 1 + 1, 0, none⟩).trans (show _ = false by simp [go_sem])
    have f5 := (gr.2.1 ⟨w.heap.size + 1 + 1, 1, none⟩).trans (show _ = false by simp [go_sem])
    have hz : w.heap.size + 1 + 1 < w1.heap.size := Nat.lt_of_lt_of_le (by simp) gr.2.2
    have G1 := Lib.hid (grown_trans ((((Grown.refl w).alloc _ _).alloc _ _).alloc _ _) gr); clear gr
    go_wp2_with fail
    refine (divided_120 _).mono ?_; rintro e w2 ⟨rfl, gr⟩
    have d4 := (grown_cell gr (p := ⟨w.heap.size + 1 + 1, 0, none⟩) hz).trans c4
    have d5 := (grown_cell gr (p := ⟨w.heap.size + 1 + 1, 1, none⟩) hz).trans c5
    have g4 := (gr.2.1 ⟨w.heap.size + 1 + 1, 0, none⟩).trans f4
    have g5 := (gr.2.1 ⟨w.heap.size + 1 + 1, 1, none⟩).trans f5
    clear c4 c5 f4 f5
    have GG := Lib.hid (grown_trans G1.out gr); clear gr
    go_wp2_with fail
    refine bodyPost_ret (v := .tuple #[.agg #[.int .i64 0, .int .i64 0], .int .i64 120]) (by simp [results, Try.results22, go_sem, d4, d5]) rfl ⟨rfl, ?_⟩
    (repeat (first | with_reducible exact GG.out | with_reducible refine Grown.setCell ?_ (by simp <;> omega) _))

end Go.Proofs.Ytgbjooecomgfoaa
