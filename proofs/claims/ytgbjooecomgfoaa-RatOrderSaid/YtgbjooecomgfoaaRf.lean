/-
  What Make of the reference of layer 2 returns for all integers; what Check of package rat and of the reference return.
-/
import Derived.Test.YtgbjooecomgfoaaRe
namespace Go.Proofs.Ytgbjooecomgfoaa
open Go.RowKit

set_option maxHeartbeats 1000000 in
theorem rmake_any (n d : Int) (w : World) :
    Calls Try.prog 11 #[.int .i64 n, .int .i64 d] w fun e w' => e = fres (Fr.mkV n d) ∧ Grown w w' := by
  by_cases h0 : d = 0
  · subst h0
    rw [mkV_zero]
    go_enter Try.func11, Try.ntmps11
    go_wp2_with fail
    refine bodyPost_ret (v := .tuple #[.agg #[.int .i64 0, .int .i64 0], .int .i64 2]) (by simp [results, Try.results11, go_sem]) rfl ⟨rfl, ?_⟩
    (repeat (first | with_reducible exact Grown.refl _ | with_reducible assumption | with_reducible refine Grown.setCell ?_ (by simp) _ | with_reducible refine Grown.alloc ?_ _ _ | with_reducible refine grown_dr ?_ _))
  · by_cases hin : (-4611686018427387904 ≤ n ∧ n ≤ 4611686018427387904) ∧ (-4611686018427387904 ≤ d ∧ d ≤ 4611686018427387904)
    · rcases Int.lt_or_gt_of_ne h0 with hd | hd
      · obtain ⟨q1, q2, g, X⟩ := Mk.neg n d hd hin.1.1 hin.1.2 hin.2.1
        exact rmake_neg n d q1 q2 g _ w hd X rfl
      · obtain ⟨q1, q2, g, X⟩ := Mk.pos n d hd hin.1.1 hin.1.2 hin.2.2
        exact rmake_pos n d q1 q2 g _ w hd X rfl
    · rw [mkV_out h0 hin]
      by_cases h1 : 4611686018427387904 < n
      · go_enter Try.func11, Try.ntmps11
        go_wp2_with fail
        refine bodyPost_ret (v := .tuple #[.agg #[.int .i64 0, .int .i64 0], .int .i64 6]) (by simp [results, Try.results11, go_sem]) rfl ⟨rfl, ?_⟩
        (repeat (first | with_reducible exact Grown.refl _ | with_reducible assumption | with_reducible refine Grown.setCell ?_ (by simp) _ | with_reducible refine Grown.alloc ?_ _ _ | with_reducible refine grown_dr ?_ _))
      · by_cases h2 : n < -4611686018427387904
        · go_enter Try.func11, Try.ntmps11
          go_wp2_with fail
          refine bodyPost_ret (v := .tuple #[.agg #[.int .i64 0, .int .i64 0], .int .i64 6]) (by simp [results, Try.results11, go_sem]) rfl ⟨rfl, ?_⟩
          (repeat (first | with_reducible exact Grown.refl _ | with_reducible assumption | with_reducible refine Grown.setCell ?_ (by simp) _ | with_reducible refine Grown.alloc ?_ _ _ | with_reducible refine grown_dr ?_ _))
        · by_cases h3 : 4611686018427387904 < d
          · go_enter Try.func11, Try.ntmps11
            go_wp2_with fail
            refine bodyPost_ret (v := .tuple #[.agg #[.int .i64 0, .int .i64 0], .int .i64 6]) (by simp [results, Try.results11, go_sem]) rfl ⟨rfl, ?_⟩
            (repeat (first | with_reducible exact Grown.refl _ | with_reducible assumption | with_reducible refine Grown.setCell ?_ (by simp) _ | with_reducible refine Grown.alloc ?_ _ _ | with_reducible refine grown_dr ?_ _))
          · have h4 : d < -4611686018427387904 := by omega
            go_enter Try.func11, Try.ntmps11
            go_wp2_with fail
            refine bodyPost_ret (v := .tuple #[.agg #[.int .i64 0, .int .i64 0], .int .i64 6]) (by simp [results, Try.results11, go_sem]) rfl ⟨rfl, ?_⟩
            (repeat (first | with_reducible exact Grown.refl _ | with_reducible assumption | with_reducible refine Grown.setCell ?_ (by simp) _ | with_reducible refine Grown.alloc ?_ _ _ | with_reducible refine grown_dr ?_ _))

/-- What Check gives. -/
def ckV (n d : Int) : Int := if Fr.right n d then 0 else 120
theorem ckV_yes {n d : Int} (h : Fr.right n d) : ckV n d = 0 := if_pos h
theorem ckV_no {n d : Int} (h : ¬ Fr.right n d) : ckV n d = 120 := if_neg h

theorem putV_cases (q : Rat) : (Fr.lim q ∧ Fr.putV q = (q.num, (q.den : Int), 0)) ∨ Fr.putV q = (0, 0, 6) := by
  by_cases h : Fr.lim q
  · exact .inl ⟨h, if_pos h⟩
  · exact .inr (if_neg h)
theorem mkV_ways (n d : Int) : (Fr.right n d ∧ Fr.mkV n d = (n, d, 0)) ∨ (¬ Fr.right n d ∧ ∃ E, E ≠ 0 ∧ Fr.mkV n d = (0, 0, E)) ∨ (¬ Fr.right n d ∧ ∃ N D, ¬ (N = n ∧ D = d) ∧ Fr.mkV n d = (N, D, 0)) := by
  by_cases h : Fr.right n d
  · obtain ⟨q, e1, e2, l⟩ := Fr.rat_of h
    refine .inl ⟨h, ?_⟩
    rw [← e1, ← e2]
    exact Fr.mkV_self q l
  · refine .inr ?_
    by_cases h0 : d = 0
    · subst h0; exact .inl ⟨h, 2, by decide, mkV_zero n⟩
    · by_cases hin : (-4611686018427387904 ≤ n ∧ n ≤ 4611686018427387904) ∧ (-4611686018427387904 ≤ d ∧ d ≤ 4611686018427387904)
      · have e := Fr.mkV_in h0 hin.1.2 hin.1.1 hin.2.2 hin.2.1
        rcases putV_cases (Rat.divInt n d) with ⟨l, e2⟩ | e2
        · refine .inr ⟨h, _, _, ?_, e.trans e2⟩
          rintro ⟨a, b⟩
          have hr := Fr.right_of l
          rw [a, b] at hr
          exact h hr
        · exact .inl ⟨h, 6, by decide, e.trans e2⟩
      · exact .inl ⟨h, 6, by decide, mkV_out h0 hin⟩

theorem make_v (n d N D E : Int) (w : World) (h : Fr.mkV n d = (N, D, E)) :
    Calls Try.prog 10 #[.int .i64 n, .int .i64 d] w fun e w' => e = .returned (.tuple #[.agg #[.int .i64 N, .int .i64 D], .int .i64 E]) ∧ Grown w w' := by
  have := make_any n d w; rw [h] at this; exact this
theorem rmake_v (n d N D E : Int) (w : World) (h : Fr.mkV n d = (N, D, E)) :
    Calls Try.prog 11 #[.int .i64 n, .int .i64 d] w fun e w' => e = .returned (.tuple #[.agg #[.int .i64 N, .int .i64 D], .int .i64 E]) ∧ Grown w w' := by
  have := rmake_any n d w; rw [h] at this; exact this

set_option maxHeartbeats 1000000 in
theorem rcheck_any (n d : Int) (w : World) :
    Calls Try.prog 13 #[.agg #[.int .i64 n, .int .i64 d]] w fun e w' => e = .returned (.int .i64 (ckV n d)) ∧ Grown w w' := by
  by_cases h : Fr.right n d
  · rw [ckV_yes h]
    have R := fun w => rright_b n d true w (decide_eq_true h)
    have HR := Lib.hid R; clear R
    go_enter Try.func13, Try.ntmps13
    go_wp2_with fail
    refine (HR.out _).mono ?_; rintro e w1 ⟨rfl, gr⟩
    have G1 := Lib.hid gr; clear gr
    go_wp2_with fail
    go_ret
    exact ⟨rfl, grown_trans ((Grown.refl _).alloc _ _) G1.out⟩
  · rw [ckV_no h]
    have R := fun w => rright_b n d false w (decide_eq_false h)
    have HR := Lib.hid R; clear R
    go_enter Try.func13, Try.ntmps13
    go_wp2_with fail
    refine (HR.out _).mono ?_; rintro e w1 ⟨rfl, gr⟩
    have G1 := Lib.hid gr; clear gr
    go_wp2_with fail
    go_ret
    exact ⟨rfl, grown_trans ((Grown.refl _).alloc _ _) G1.out⟩

set_option maxHeartbeats 1000000 in
theorem check_any (n d : Int) (w : World) :
    Calls Try.prog 12 #[.agg #[.int .i64 n, .int .i64 d]] w fun e w' => e = .returned (.int .i64 (ckV n d)) ∧ Grown w w' := by
  rcases mkV_ways n d with ⟨h, hv⟩ | ⟨h, E, hE, hv⟩ | ⟨h, N, D, hN, hv⟩
  · rw [ckV_yes h]
    have R := fun w => make_v n d _ _ _ w hv
    have HR := Lib.hid R; clear R hv h
    go_enter Try.func12, Try.ntmps12
    go_wp2_with fail
    refine (HR.out _).mono ?_; rintro e w1 ⟨rfl, gr⟩
    have c0 := (grown_cell gr (p := ⟨w.heap.size, 0, none⟩) (by simp)).trans (show _ = some (.int .i64 n) by simp [go_sem])
    have c1 := (grown_cell gr (p := ⟨w.heap.size, 1, none⟩) (by simp)).trans (show _ = some (.int .i64 d) by simp [go_sem])
    have hz : w.heap.size < w1.heap.size := Nat.lt_of_lt_of_le (by simp) gr.2.2
    have G1 := Lib.hid (grown_trans ((Grown.refl w).alloc _ _) gr); clear gr
    go_wp2_with fail
    go_ret
    exact ⟨rfl, G1.out.alloc _ _⟩
  · rw [ckV_no h]
    have R := fun w => make_v n d _ _ _ w hv
    have HR := Lib.hid R; clear R hv h
    have hE' : (E != 0) = true := by simpa using hE
    go_enter Try.func12, Try.ntmps12
    go_wp2_with fail
    refine (HR.out _).mono ?_; rintro e w1 ⟨rfl, gr⟩
    have c0 := (grown_cell gr (p := ⟨w.heap.size, 0, none⟩) (by simp)).trans (show _ = some (.int .i64 n) by simp [go_sem])
    have c1 := (grown_cell gr (p := ⟨w.heap.size, 1, none⟩) (by simp)).trans (show _ = some (.int .i64 d) by simp [go_sem])
    have hz : w.heap.size < w1.heap.size := Nat.lt_of_lt_of_le (by simp) gr.2.2
    have G1 := Lib.hid (grown_trans ((Grown.refl w).alloc _ _) gr); clear gr
    go_wp2_with fail
    go_ret
    exact ⟨rfl, G1.out.alloc _ _⟩
  · rw [ckV_no h]
    by_cases e1 : N = n
    · have e2 : ¬ D = d := fun e2 => hN ⟨e1, e2⟩
      clear hN
      obtain rfl : n = N := e1.symm
      have R := fun w => make_v n d _ _ _ w hv
      have HR := Lib.hid R; clear R hv h
      go_enter Try.func12, Try.ntmps12
      go_wp2_with fail
      refine (HR.out _).mono ?_; rintro e w1 ⟨rfl, gr⟩
      have c0 := (grown_cell gr (p := ⟨w.heap.size, 0, none⟩) (by simp)).trans (show _ = some (.int .i64 n) by simp [go_sem])
      have c1 := (grown_cell gr (p := ⟨w.heap.size, 1, none⟩) (by simp)).trans (show _ = some (.int .i64 d) by simp [go_sem])
      have hz : w.heap.size < w1.heap.size := Nat.lt_of_lt_of_le (by simp) gr.2.2
      have G1 := Lib.hid (grown_trans ((Grown.refl w).alloc _ _) gr); clear gr
      go_wp2_with fail
      go_ret
      exact ⟨rfl, G1.out.alloc _ _⟩
    · clear hN
      have R := fun w => make_v n d _ _ _ w hv
      have HR := Lib.hid R; clear R hv h
      go_enter Try.func12, Try.ntmps12
      go_wp2_with fail
      refine (HR.out _).mono ?_; rintro e w1 ⟨rfl, gr⟩
      have c0 := (grown_cell gr (p := ⟨w.heap.size, 0, none⟩) (by simp)).trans (show _ = some (.int .i64 n) by simp [go_sem])
      have c1 := (grown_cell gr (p := ⟨w.heap.size, 1, none⟩) (by simp)).trans (show _ = some (.int .i64 d) by simp [go_sem])
      have hz : w.heap.size < w1.heap.size := Nat.lt_of_lt_of_le (by simp) gr.2.2
      have G1 := Lib.hid (grown_trans ((Grown.refl w).alloc _ _) gr); clear gr
      go_wp2_with fail
      go_ret
      exact ⟨rfl, G1.out.alloc _ _⟩

end Go.Proofs.Ytgbjooecomgfoaa
