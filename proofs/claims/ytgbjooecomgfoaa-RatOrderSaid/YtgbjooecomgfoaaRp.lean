/-
  What small of the statements' package, and Of of the reference, return.
-/
import Derived.Test.YtgbjooecomgfoaaRo
namespace Go.Proofs.Ytgbjooecomgfoaa
open Go.RowKit

def unat (n : Int) : Nat := (n % 18446744073709551616).toNat
/-- What Of gives: a fraction for any two integers. -/
def ofT (n d : Int) : Int × Int × Int := if (unat d : Int) % 7 = 0 then Fr.mkV (n.tmod 2147483648) (1 + (unat d : Int) % 1073741824) else Fr.mkV (n.tmod 4096) (1 + (unat d : Int) % 64)
def ofN (n d : Int) : Int := if (ofT n d).2.2 = 0 then (ofT n d).1 else 1
def ofD (n d : Int) : Int := if (ofT n d).2.2 = 0 then (ofT n d).2.1 else 2

set_option maxHeartbeats 1000000 in
theorem small_v (n d N D E : Int) (w : World) (n1 : -128 ≤ n) (n2 : n ≤ 127) (d1 : 0 ≤ d) (d2 : d ≤ 255) (h : Fr.mkV n (1 + d % 30) = (N, D, E)) :
    Calls Try.prog 34 #[.int .i8 n, .int .u8 d] w fun e w' => e = .returned (.agg #[.int .i64 N, .int .i64 D]) ∧ Grown w w' := by
  have R := fun w => make_v n (1 + d % 30) N D E w h
  have hm : 0 ≤ d % 30 ∧ d % 30 < 30 := by omega
  have HR := Lib.hid R; clear R h
  obtain ⟨m1, m2⟩ := hm
  go_enter Try.func34, Try.ntmps34
  go_wp2_with fail
  refine (HR.out _).mono ?_; rintro e w1 ⟨rfl, gr⟩
  have c4 := (grown_cell gr (p := ⟨w.heap.size, 0, none⟩) (by simp)).trans (show _ = some (.int .i64 0) by simp [go_sem])
  have c5 := (grown_cell gr (p := ⟨w.heap.size, 1, none⟩) (by simp)).trans (show _ = some (.int .i64 0) by simp [go_sem])
  have f4 := (gr.2.1 ⟨w.heap.size, 0, none⟩).trans (show _ = false by simp [go_sem])
  have f5 := (gr.2.1 ⟨w.heap.size, 1, none⟩).trans (show _ = false by simp [go_sem])
  have hz : w.heap.size < w1.heap.size := Nat.lt_of_lt_of_le (by simp) gr.2.2
  have G1 := Lib.hid (grown_trans ((Grown.refl w).alloc _ _) gr); clear gr
  go_wp2_with fail
  refine bodyPost_ret (v := .agg #[.int .i64 N, .int .i64 D]) (by simp [results, Try.results34, go_sem, c4, c5, hz]) rfl ⟨rfl, ?_⟩
  (repeat (first | with_reducible exact G1.out | with_reducible refine Grown.setCell ?_ (by simp) _ | with_reducible refine Grown.alloc ?_ _ _))

set_option maxHeartbeats 2000000 in
theorem rof_any (n d : Int) (w : World) (n0 : -9223372036854775808 ≤ n ∧ n ≤ 9223372036854775807) :
    Calls Try.prog 42 #[.int .i64 n, .int .i64 d] w fun e w' => e = .returned (.agg #[.int .i64 (ofN n d), .int .i64 (ofD n d)]) ∧ Grown w w' := by
  unfold ofN ofD ofT
  obtain ⟨n0, n0'⟩ := n0
  obtain ⟨U, hU⟩ : ∃ U, unat d = U := ⟨_, rfl⟩
  have hw : IntKind.u64.wrap d = (U : Int) := by rw [IntKind.wrap_u64, ← hU]; unfold unat; omega
  have bU : U < 18446744073709551616 := by rw [← hU]; unfold unat; omega
  rw [hU]
  clear hU
  obtain ⟨⟨N1, D1, E1⟩, h1⟩ : ∃ t, Fr.mkV (n.tmod 4096) (1 + (U : Int) % 64) = t := ⟨_, rfl⟩
  obtain ⟨⟨N2, D2, E2⟩, h2⟩ : ∃ t, Fr.mkV (n.tmod 2147483648) (1 + (U : Int) % 1073741824) = t := ⟨_, rfl⟩
  rw [h1, h2]
  have R1 := fun w => rmake_v _ _ N1 D1 E1 w h1
  have R2 := fun w => rmake_v _ _ N2 D2 E2 w h2
  have H1 := Lib.hid R1; clear R1 h1
  have H2 := Lib.hid R2; clear R2 h2
  by_cases hs : (U : Int) % 7 = 0
  · rw [if_pos hs]
    by_cases hE : E2 = 0
    · rw [if_pos hE, if_pos hE]
      subst hE
      go_enter Try.func42, Try.ntmps42
      go_wp2_with fail
      refine (H1.out _).mono ?_; rintro e w1 ⟨rfl, gr⟩
      have c4 := (grown_cell gr (p := ⟨w.heap.size, 0, none⟩) (by simp)).trans (show _ = some (.int .i64 0) by simp [go_sem])
      have c5 := (grown_cell gr (p := ⟨w.heap.size, 1, none⟩) (by simp)).trans (show _ = some (.int .i64 0) by simp [go_sem])
      have f4 := (gr.2.1 ⟨w.heap.size, 0, none⟩).trans (show _ = false by simp [go_sem])
      have f5 := (gr.2.1 ⟨w.heap.size, 1, none⟩).trans (show _ = false by simp [go_sem])
      have hz : w.heap.size < w1.heap.size := Nat.lt_of_lt_of_le (by simp) gr.2.2
      have G1 := Lib.hid (grown_trans ((Grown.refl w).alloc _ _) gr); clear gr
      go_wp2_with fail
      refine (H2.out _).mono ?_; rintro e w2 ⟨rfl, gr⟩
      have c4' := (grown_cell gr (p := ⟨w.heap.size, 0, none⟩) (by simp; omega)).trans (show _ = some (.int .i64 0) by simp [go_sem, hz, c4])
      have c5' := (grown_cell gr (p := ⟨w.heap.size, 1, none⟩) (by simp; omega)).trans (show _ = some (.int .i64 0) by simp [go_sem, hz, c5])
      have f4' := (gr.2.1 ⟨w.heap.size, 0, none⟩).trans ((((Grown.refl w1).alloc _ _).2.1 _).trans f4)
      have f5' := (gr.2.1 ⟨w.heap.size, 1, none⟩).trans ((((Grown.refl w1).alloc _ _).2.1 _).trans f5)
      have v0 := (grown_cell gr (p := ⟨w1.heap.size, 0, none⟩) (by simp)).trans (show _ = some (.int .i64 N1) by simp [go_sem])
      have v1 := (grown_cell gr (p := ⟨w1.heap.size, 1, none⟩) (by simp)).trans (show _ = some (.int .i64 D1) by simp [go_sem])
      have g0 := (gr.2.1 ⟨w1.heap.size, 0, none⟩).trans (show _ = false by simp [go_sem])
      have g1 := (gr.2.1 ⟨w1.heap.size, 1, none⟩).trans (show _ = false by simp [go_sem])
      have hn : ¬ w1.heap.size = w.heap.size := by omega
      have hn' : ¬ w.heap.size = w1.heap.size := by omega
      have hz' : w.heap.size ≤ w1.heap.size := by omega
      have GG := Lib.hid (grown_trans (G1.out.alloc _ _) gr); clear gr
      clear c4 c5 f4 f5
      go_wp2_with fail
      refine bodyPost_ret (v := .agg #[.int .i64 N2, .int .i64 D2]) (by simp [results, Try.results42, go_sem, c4', c5']) rfl ⟨rfl, ?_⟩
      (repeat (first | with_reducible exact GG.out | with_reducible refine Grown.setCell ?_ (by simp <;> omega) _ | with_reducible refine Grown.alloc ?_ _ _))
    · rw [if_neg hE, if_neg hE]
      go_enter Try.func42, Try.ntmps42
      go_wp2_with fail
      refine (H1.out _).mono ?_; rintro e w1 ⟨rfl, gr⟩
      have c4 := (grown_cell gr (p := ⟨w.heap.size, 0, none⟩) (by simp)).trans (show _ = some (.int .i64 0) by simp [go_sem])
      have c5 := (grown_cell gr (p := ⟨w.heap.size, 1, none⟩) (by simp)).trans (show _ = some (.int .i64 0) by simp [go_sem])
      have f4 := (gr.2.1 ⟨w.heap.size, 0, none⟩).trans (show _ = false by simp [go_sem])
      have f5 := (gr.2.1 ⟨w.heap.size, 1, none⟩).trans (show _ = false by simp [go_sem])
      have hz : w.heap.size < w1.heap.size := Nat.lt_of_lt_of_le (by simp) gr.2.2
      have G1 := Lib.hid (grown_trans ((Grown.refl w).alloc _ _) gr); clear gr
      go_wp2_with fail
      refine (H2.out _).mono ?_; rintro e w2 ⟨rfl, gr⟩
      have c4' := (grown_cell gr (p := ⟨w.heap.size, 0, none⟩) (by simp; omega)).trans (show _ = some (.int .i64 0) by simp [go_sem, hz, c4])
      have c5' := (grown_cell gr (p := ⟨w.heap.size, 1, none⟩) (by simp; omega)).trans (show _ = some (.int .i64 0) by simp [go_sem, hz, c5])
      have f4' := (gr.2.1 ⟨w.heap.size, 0, none⟩).trans ((((Grown.refl w1).alloc _ _).2.1 _).trans f4)
      have f5' := (gr.2.1 ⟨w.heap.size, 1, none⟩).trans ((((Grown.refl w1).alloc _ _).2.1 _).trans f5)
      have v0 := (grown_cell gr (p := ⟨w1.heap.size, 0, none⟩) (by simp)).trans (show _ = some (.int .i64 N1) by simp [go_sem])
      have v1 := (grown_cell gr (p := ⟨w1.heap.size, 1, none⟩) (by simp)).trans (show _ = some (.int .i64 D1) by simp [go_sem])
      have g0 := (gr.2.1 ⟨w1.heap.size, 0, none⟩).trans (show _ = false by simp [go_sem])
      have g1 := (gr.2.1 ⟨w1.heap.size, 1, none⟩).trans (show _ = false by simp [go_sem])
      have hn : ¬ w1.heap.size = w.heap.size := by omega
      have hn' : ¬ w.heap.size = w1.heap.size := by omega
      have hz' : w.heap.size ≤ w1.heap.size := by omega
      have GG := Lib.hid (grown_trans (G1.out.alloc _ _) gr); clear gr
      clear c4 c5 f4 f5
      go_wp2_with fail
      refine bodyPost_ret (v := .agg #[.int .i64 1, .int .i64 2]) (by simp [results, Try.results42, go_sem, c4', c5']) rfl ⟨rfl, ?_⟩
      (repeat (first | with_reducible exact GG.out | with_reducible refine Grown.setCell ?_ (by simp <;> omega) _ | with_reducible refine Grown.alloc ?_ _ _))
  · rw [if_neg hs]
    by_cases hE : E1 = 0
    · rw [if_pos hE, if_pos hE]
      subst hE
      go_enter Try.func42, Try.ntmps42
      go_wp2_with fail
      refine (H1.out _).mono ?_; rintro e w1 ⟨rfl, gr⟩
      have c4 := (grown_cell gr (p := ⟨w.heap.size, 0, none⟩) (by simp)).trans (show _ = some (.int .i64 0) by simp [go_sem])
      have c5 := (grown_cell gr (p := ⟨w.heap.size, 1, none⟩) (by simp)).trans (show _ = some (.int .i64 0) by simp [go_sem])
      have f4 := (gr.2.1 ⟨w.heap.size, 0, none⟩).trans (show _ = false by simp [go_sem])
      have f5 := (gr.2.1 ⟨w.heap.size, 1, none⟩).trans (show _ = false by simp [go_sem])
      have hz : w.heap.size < w1.heap.size := Nat.lt_of_lt_of_le (by simp) gr.2.2
      have G1 := Lib.hid (grown_trans ((Grown.refl w).alloc _ _) gr); clear gr
      go_wp2_with fail
      refine bodyPost_ret (v := .agg #[.int .i64 N1, .int .i64 D1]) (by simp [results, Try.results42, go_sem, c4, c5, hz]) rfl ⟨rfl, ?_⟩
      (repeat (first | with_reducible exact G1.out | with_reducible refine Grown.setCell ?_ (by simp <;> omega) _ | with_reducible refine Grown.alloc ?_ _ _))
    · rw [if_neg hE, if_neg hE]
      go_enter Try.func42, Try.ntmps42
      go_wp2_with fail
      refine (H1.out _).mono ?_; rintro e w1 ⟨rfl, gr⟩
      have c4 := (grown_cell gr (p := ⟨w.heap.size, 0, none⟩) (by simp)).trans (show _ = some (.int .i64 0) by simp [go_sem])
      have c5 := (grown_cell gr (p := ⟨w.heap.size, 1, none⟩) (by simp)).trans (show _ = some (.int .i64 0) by simp [go_sem])
      have f4 := (gr.2.1 ⟨w.heap.size, 0, none⟩).trans (show _ = false by simp [go_sem])
      have f5 := (gr.2.1 ⟨w.heap.size, 1, none⟩).trans (show _ = false by simp [go_sem])
      have hz : w.heap.size < w1.heap.size := Nat.lt_of_lt_of_le (by simp) gr.2.2
      have G1 := Lib.hid (grown_trans ((Grown.refl w).alloc _ _) gr); clear gr
      go_wp2_with fail
      refine bodyPost_ret (v := .agg #[.int .i64 1, .int .i64 2]) (by simp [results, Try.results42, go_sem, c4, c5, hz]) rfl ⟨rfl, ?_⟩
      (repeat (first | with_reducible exact G1.out | with_reducible refine Grown.setCell ?_ (by simp <;> omega) _ | with_reducible refine Grown.alloc ?_ _ _))

end Go.Proofs.Ytgbjooecomgfoaa
