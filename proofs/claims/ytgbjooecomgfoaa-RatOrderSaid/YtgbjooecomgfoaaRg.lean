/-
  What checkAll, divided, cross and the closures of package rat return, and both of its reference.
-/
import Derived.Test.YtgbjooecomgfoaaRf
namespace Go.Proofs.Ytgbjooecomgfoaa
open Go.RowKit

/-- The error of two fractions. -/
def bothV (a b c d : Int) : Int := if Fr.right a b ∧ Fr.right c d then 0 else 120
theorem bothV_yes {a b c d : Int} (h : Fr.right a b) (k : Fr.right c d) : bothV a b c d = 0 := if_pos ⟨h, k⟩
theorem bothV_l {a b c d : Int} (h : ¬ Fr.right a b) : bothV a b c d = 120 := if_neg (fun k => h k.1)
theorem bothV_r {a b c d : Int} (h : ¬ Fr.right c d) : bothV a b c d = 120 := if_neg (fun k => h k.2)

theorem check_v (n d v : Int) (w : World) (h : ckV n d = v) :
    Calls Try.prog 12 #[.agg #[.int .i64 n, .int .i64 d]] w fun e w' => e = .returned (.int .i64 v) ∧ Grown w w' := by
  have := check_any n d w; rw [h] at this; exact this

set_option maxHeartbeats 1000000 in
theorem checkAll_two (a b c d : Int) (w : World) (A : Nat) (hA : A < w.heap.size)
    (c0 : w.cell? ⟨A, 0, none⟩ = some (.int .i64 a)) (c1 : w.cell? ⟨A, 1, none⟩ = some (.int .i64 b)) (c2 : w.cell? ⟨A, 2, none⟩ = some (.int .i64 c)) (c3 : w.cell? ⟨A, 3, none⟩ = some (.int .i64 d)) :
    Calls Try.prog 54 #[.slice (some ⟨A, 0, none⟩) 2 2] w fun e w' => e = .returned (.int .i64 (bothV a b c d)) ∧ Grown w w' := by
  have key : ∀ k : Nat, k < 2 → ∃ x y, w.cell? ⟨A, k * 2, none⟩ = some (.int .i64 x) ∧ w.cell? ⟨A, k * 2 + 1, none⟩ = some (.int .i64 y) ∧ ((k = 0 ∧ x = a ∧ y = b) ∨ (k = 1 ∧ x = c ∧ y = d)) := by
    intro k hk
    match k, hk with
    | 0, _ => exact ⟨a, b, c0, c1, .inl ⟨rfl, rfl, rfl⟩⟩
    | 1, _ => exact ⟨c, d, c2, c3, .inr ⟨rfl, rfl, rfl⟩⟩
  clear c0 c1 c2 c3
  have HC := Lib.hid key; clear key
  have HA := Lib.hid hA; clear hA
  go_enter Try.func54, Try.ntmps54
  go_wp2
  go_loopw [8] (fun i wr => ∃ k : Nat, k ≤ 2 ∧ i = .int .i64 k ∧ Hid (1 ≤ k → Fr.right a b) ∧ Hid (2 ≤ k → Fr.right c d) ∧ Hid (Grown w wr)) (fun i _ => 2 - (intOf i).toNat)
  case atStart => exact ⟨0, Nat.zero_le _, rfl, fun h => by omega, fun h => by omega, Grown.refl w⟩
  case round =>
    obtain ⟨k, hk, rfl, ha, hb, hg⟩ := hrel
    by_cases hlt : k < 2
    · obtain ⟨x, y, hx, hy, hz⟩ := HC.out k hlt
      have kx := (grown_cell hg.out (p := ⟨A, k * 2, none⟩) HA.out).trans hx
      have ky := (grown_cell hg.out (p := ⟨A, k * 2 + 1, none⟩) HA.out).trans hy
      clear hx hy
      have HZ := Lib.hid hz; clear hz
      by_cases hr : Fr.right x y
      · have R := fun w => check_v x y 0 w (ckV_yes hr)
        have HR := Lib.hid R; clear R
        go_wp2_with fail
        refine (HR.out _).mono ?_; rintro e w1 ⟨rfl, gr⟩
        have G1 := Lib.hid (grown_trans (hg.out.alloc _ _) gr); clear gr
        go_wp2_with fail
        go_roundw
        case rel =>
          refine ⟨k + 1, by omega, by go_num, fun _ => ?_, fun h => ?_, G1.out⟩
          · rcases HZ.out with ⟨_, e1, e2⟩ | ⟨e0, _⟩
            · rw [← e1, ← e2]; exact hr
            · exact ha.out (by omega)
          · rcases HZ.out with ⟨e0, _⟩ | ⟨_, e1, e2⟩
            · omega
            · rw [← e1, ← e2]; exact hr
        case measure => simp [intOf]; omega
      · have R := fun w => check_v x y 120 w (ckV_no hr)
        have HR := Lib.hid R; clear R
        have hv : Hid (bothV a b c d = 120) := by
          rcases HZ.out with ⟨_, e1, e2⟩ | ⟨_, e1, e2⟩
          · exact bothV_l (by rw [← e1, ← e2]; exact hr)
          · exact bothV_r (by rw [← e1, ← e2]; exact hr)
        go_wp2_with fail
        refine (HR.out _).mono ?_; rintro e w1 ⟨rfl, gr⟩
        have G1 := Lib.hid (grown_trans (hg.out.alloc _ _) gr); clear gr
        go_wp2_with fail
        go_ret
        exact ⟨ret_int hv.out.symm, G1.out⟩
    · go_wp2
      go_ret
      exact ⟨ret_int (bothV_yes (ha.out (by omega)) (hb.out (by omega))).symm, hg.out⟩

set_option maxHeartbeats 1000000 in
theorem rboth_any (a b c d : Int) (w : World) :
    Calls Try.prog 46 #[.agg #[.int .i64 a, .int .i64 b], .agg #[.int .i64 c, .int .i64 d]] w fun e w' => e = .returned (.int .i64 (bothV a b c d)) ∧ Grown w w' := by
  by_cases h1 : Fr.right a b
  · have R1 := fun w => rright_b a b true w (decide_eq_true h1)
    have H1 := Lib.hid R1; clear R1
    by_cases h2 : Fr.right c d
    · rw [bothV_yes h1 h2]
      have R2 := fun w => rright_b c d true w (decide_eq_true h2)
      have H2 := Lib.hid R2; clear R2
      go_enter Try.func46, Try.ntmps46
      go_wp2_with fail
      refine (H1.out _).mono ?_; rintro e w1 ⟨rfl, gr⟩
      have c0 := (grown_cell gr (p := ⟨w.heap.size + 1, 0, none⟩) (by simp)).trans (show _ = some (.int .i64 c) by simp [go_sem])
      have c1 := (grown_cell gr (p := ⟨w.heap.size + 1, 1, none⟩) (by simp)).trans (show _ = some (.int .i64 d) by simp [go_sem])
      have G1 := Lib.hid (grown_trans (((Grown.refl _).alloc _ _).alloc _ _) gr); clear gr
      go_wp2_with fail
      refine (H2.out _).mono ?_; rintro e w2 ⟨rfl, gr⟩
      have G2 := Lib.hid (grown_trans G1.out gr); clear gr
      go_wp2_with fail
      go_ret
      exact ⟨rfl, G2.out⟩
    · rw [bothV_r h2]
      have R2 := fun w => rright_b c d false w (decide_eq_false h2)
      have H2 := Lib.hid R2; clear R2
      go_enter Try.func46, Try.ntmps46
      go_wp2_with fail
      refine (H1.out _).mono ?_; rintro e w1 ⟨rfl, gr⟩
      have c0 := (grown_cell gr (p := ⟨w.heap.size + 1, 0, none⟩) (by simp)).trans (show _ = some (.int .i64 c) by simp [go_sem])
      have c1 := (grown_cell gr (p := ⟨w.heap.size + 1, 1, none⟩) (by simp)).trans (show _ = some (.int .i64 d) by simp [go_sem])
      have G1 := Lib.hid (grown_trans (((Grown.refl _).alloc _ _).alloc _ _) gr); clear gr
      go_wp2_with fail
      refine (H2.out _).mono ?_; rintro e w2 ⟨rfl, gr⟩
      have G2 := Lib.hid (grown_trans G1.out gr); clear gr
      go_wp2_with fail
      go_ret
      exact ⟨rfl, G2.out⟩
  · rw [bothV_l h1]
    have R1 := fun w => rright_b a b false w (decide_eq_false h1)
    have H1 := Lib.hid R1; clear R1
    go_enter Try.func46, Try.ntmps46
    go_wp2_with fail
    refine (H1.out _).mono ?_; rintro e w1 ⟨rfl, gr⟩
    have G1 := Lib.hid (grown_trans (((Grown.refl _).alloc _ _).alloc _ _) gr); clear gr
    go_wp2_with fail
    go_ret
    exact ⟨rfl, G1.out⟩

set_option maxHeartbeats 400000 in
theorem divided_err (p q E : Int) (w : World) (hE : (E != 0) = true) :
    Calls Try.prog 43 #[.int .i64 p, .int .i64 q, .int .i64 E] w fun e w' => e = fres (0, 0, E) ∧ Grown w w' := by
  go_enter Try.func43, Try.ntmps43
  go_wp2_with fail
  refine bodyPost_ret (v := .tuple #[.agg #[.int .i64 0, .int .i64 0], .int .i64 E]) (by simp [results, Try.results43, go_sem]) rfl ⟨rfl, ?_⟩
  (repeat (first | with_reducible exact Grown.refl _ | with_reducible assumption | with_reducible refine Grown.setCell ?_ (by simp) _ | with_reducible refine Grown.alloc ?_ _ _ | with_reducible refine grown_dr ?_ _))

set_option maxHeartbeats 1000000 in
theorem divided_ok (p q : Int) (w : World) :
    Calls Try.prog 43 #[.int .i64 p, .int .i64 q, .int .i64 0] w fun e w' => e = fres (Fr.mkV p q) ∧ Grown w w' := by
  obtain ⟨⟨N, D, E⟩, hv⟩ : ∃ t, Fr.mkV p q = t := ⟨_, rfl⟩
  rw [hv]
  have R := fun w => make_v p q N D E w hv
  have HR := Lib.hid R; clear R hv
  go_enter Try.func43, Try.ntmps43
  go_wp2_with fail
  refine (HR.out _).mono ?_; rintro e w1 ⟨rfl, gr⟩
  have c4 := (grown_cell gr (p := ⟨w.heap.size, 0, none⟩) (by simp)).trans (show _ = some (.int .i64 0) by simp [go_sem])
  have c5 := (grown_cell gr (p := ⟨w.heap.size, 1, none⟩) (by simp)).trans (show _ = some (.int .i64 0) by simp [go_sem])
  have f4 := (gr.2.1 ⟨w.heap.size, 0, none⟩).trans (show _ = false by simp [go_sem])
  have f5 := (gr.2.1 ⟨w.heap.size, 1, none⟩).trans (show _ = false by simp [go_sem])
  have G1 := Lib.hid (grown_trans ((Grown.refl w).alloc _ _) gr); clear gr
  go_wp2_with fail
  refine bodyPost_ret (v := .tuple #[.agg #[.int .i64 N, .int .i64 D], .int .i64 E]) (by simp [results, Try.results43, go_sem, c4, c5]) rfl ⟨rfl, ?_⟩
  (repeat (first | with_reducible exact G1.out | with_reducible refine Grown.setCell ?_ (by simp) _ | with_reducible refine Grown.alloc ?_ _ _ | with_reducible refine grown_dr ?_ _))

end Go.Proofs.Ytgbjooecomgfoaa
