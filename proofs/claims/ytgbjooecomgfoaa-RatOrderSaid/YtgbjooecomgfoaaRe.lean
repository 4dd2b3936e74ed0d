/-
  What Make of package rat and of its reference return for all integers, and Check of both.
-/
import Derived.Test.YtgbjooecomgfoaaRd
namespace Go.Proofs.Ytgbjooecomgfoaa
open Go.RowKit

def fits (n : Int) : Prop := -9223372036854775808 ≤ n ∧ n ≤ 9223372036854775807
theorem mkV_zero (n : Int) : Fr.mkV n 0 = (0, 0, 2) := by unfold Fr.mkV; rw [if_pos rfl]
theorem mkV_out {n d : Int} (h0 : d ≠ 0) (h : ¬ ((-4611686018427387904 ≤ n ∧ n ≤ 4611686018427387904) ∧ (-4611686018427387904 ≤ d ∧ d ≤ 4611686018427387904))) : Fr.mkV n d = (0, 0, 6) := by
  unfold Fr.mkV; rw [if_neg h0, if_pos (by omega)]

set_option maxHeartbeats 1000000 in
theorem make_any (n d : Int) (w : World) :
    Calls Try.prog 10 #[.int .i64 n, .int .i64 d] w fun e w' => e = fres (Fr.mkV n d) ∧ Grown w w' := by
  by_cases h0 : d = 0
  · subst h0
    rw [mkV_zero]
    go_enter Try.func10, Try.ntmps10
    go_wp2_with fail
    refine bodyPost_ret (v := .tuple #[.agg #[.int .i64 0, .int .i64 0], .int .i64 2]) (by simp [results, Try.results10, go_sem]) rfl ⟨rfl, ?_⟩
    (repeat (first | with_reducible exact Grown.refl _ | with_reducible assumption | with_reducible refine Grown.setCell ?_ (by simp) _ | with_reducible refine Grown.alloc ?_ _ _ | with_reducible refine grown_dr ?_ _))
  · by_cases hin : (-4611686018427387904 ≤ n ∧ n ≤ 4611686018427387904) ∧ (-4611686018427387904 ≤ d ∧ d ≤ 4611686018427387904)
    · rcases Int.lt_or_gt_of_ne h0 with hd | hd
      · obtain ⟨q1, q2, g, X⟩ := Mk.neg n d hd hin.1.1 hin.1.2 hin.2.1
        exact make_neg n d q1 q2 g _ w hd X rfl
      · obtain ⟨q1, q2, g, X⟩ := Mk.pos n d hd hin.1.1 hin.1.2 hin.2.2
        exact make_pos n d q1 q2 g _ w hd X rfl
    · rw [mkV_out h0 hin]
      have hb : (inW 4611686018427387904 n && inW 4611686018427387904 d) = false := by
        rw [Bool.eq_false_iff]; intro h; rw [Bool.and_eq_true, inW_iff, inW_iff] at h; exact hin h
      have W1 := fun w A => within_b 4611686018427387904 n d false w A (by omega) (by omega) hb
      have HW1 := Lib.hid W1; clear W1 hb hin
      go_enter Try.func10, Try.ntmps10
      go_wp2_with fail
      refine (HW1.out _ _ (by simp [go_sem]) (by simp [go_sem])).mono ?_; rintro e w' ⟨rfl, rfl⟩
      go_wp2_with fail
      refine bodyPost_ret (v := .tuple #[.agg #[.int .i64 0, .int .i64 0], .int .i64 6]) (by simp [results, Try.results10, go_sem]) rfl ⟨rfl, ?_⟩
      (repeat (first | with_reducible exact Grown.refl _ | with_reducible assumption | with_reducible refine Grown.setCell ?_ (by simp) _ | with_reducible refine Grown.alloc ?_ _ _ | with_reducible refine grown_dr ?_ _))

theorem rright_b (n d : Int) (b : Bool) (w : World) (hb : decide (Fr.right n d) = b) :
    Calls Try.prog 41 #[.agg #[.int .i64 n, .int .i64 d]] w fun e w' => e = .returned (.bool b) ∧ Grown w w' := by
  subst hb; exact rright_any n d w

set_option maxHeartbeats 1000000 in
theorem rmake_pos (n d q1 q2 : Int) (g : Nat) (b : Bool) (w : World) (h0 : 0 < d) (X : Mk n d n d q1 q2 g) (hb : (inW 1073741824 q1 && inW 1073741824 q2) = b) :
    Calls Try.prog 11 #[.int .i64 n, .int .i64 d] w fun e w' => e = fres (Fr.mkV n d) ∧ Grown w w' := by
  obtain ⟨n1, n2, d1, d2, m1, m2, D1, D2, g1, g2, hg, e1, e2, a1, a2, b1, b2, yes, no, rt⟩ := X
  rw [hb] at rt
  have W2 := fun w => rright_b q1 q2 b w rt
  have AB : ∀ (w : World), Calls Try.prog 40 #[.int .i64 n] w fun e w' => e = .returned (.int .i64 ((n.natAbs : Nat) : Int)) ∧ w = w' := fun w => by
    have := rabs_any n w (by omega) (by omega)
    exact this
  have G : ∀ (w : World), Calls Try.prog 39 #[.int .i64 ((n.natAbs : Nat) : Int), .int .i64 d] w fun e w' => e = .returned (.int .i64 (g : Int)) ∧ ∃ n, w' = w.drewN n :=
    fun w => rgcdI_any _ d g w (by omega) (by omega) (by omega) (by omega) (by rw [Int.natAbs_natCast]; exact hg)
  have HW2 := Lib.hid W2; clear W2
  have HA := Lib.hid AB; clear AB
  have HG := Lib.hid G; clear G hg
  have HY := Lib.hid yes; clear yes
  have HN := Lib.hid no; clear no
  clear rt
  have gg : ¬ (g : Int) = 0 := by omega
  have w1 : IntKind.i64.wrap q1 = q1 := IntWalk.i64_in _ (by omega)
  have w2 : IntKind.i64.wrap q2 = q2 := IntWalk.i64_in _ (by omega)
  have hd0 : ¬ d = 0 := by omega
  have hB := Lib.hid hb; clear hb
  go_enter Try.func11, Try.ntmps11
  go_wp2_with fail
  refine (HA.out _).mono ?_; rintro e w' ⟨rfl, rfl⟩
  go_wp2_with fail
  refine (HG.out _).mono ?_; rintro e w' ⟨rfl, k, rfl⟩
  go_wp2_with fail
  go_region
  go_wp2_with fail
  refine (HW2.out _).mono ?_; rintro e w1 ⟨rfl, gr⟩
  have c4 := (grown_cell gr (p := ⟨w.heap.size, 0, none⟩) (by simp; omega)).trans (show _ = some (.int .i64 0) by simp [go_sem])
  have c5 := (grown_cell gr (p := ⟨w.heap.size, 1, none⟩) (by simp; omega)).trans (show _ = some (.int .i64 0) by simp [go_sem])
  have c7 := (grown_cell gr (p := ⟨w.heap.size + 1, 0, none⟩) (by simp)).trans (show _ = some (.int .i64 q1) by simp [go_sem])
  have c8 := (grown_cell gr (p := ⟨w.heap.size + 1, 1, none⟩) (by simp)).trans (show _ = some (.int .i64 q2) by simp [go_sem])
  have f4 := (gr.2.1 ⟨w.heap.size, 0, none⟩).trans (show _ = false by simp [go_sem])
  have f5 := (gr.2.1 ⟨w.heap.size, 1, none⟩).trans (show _ = false by simp [go_sem])
  have G0 : Grown w w1 := grown_trans (by (repeat (first | with_reducible exact Grown.refl _ | with_reducible assumption | with_reducible refine Grown.setCell ?_ (by simp) _ | with_reducible refine Grown.alloc ?_ _ _ | with_reducible refine grown_dr ?_ _))) gr
  have G1 := Lib.hid G0; clear gr G0
  rcases bcase b with rfl | rfl
  · go_wp2_with fail
    refine bodyPost_ret (v := .tuple #[.agg #[.int .i64 q1, .int .i64 q2], .int .i64 0]) (by simp [results, Try.results11, go_sem, c4, c5]) rfl ⟨fres_eq (HY.out hB.out), ?_⟩
    (repeat (first | with_reducible exact Grown.refl _ | with_reducible exact G1.out | with_reducible refine Grown.setCell ?_ (by simp) _ | with_reducible refine Grown.alloc ?_ _ _ | with_reducible refine grown_dr ?_ _))
  · go_wp2_with fail
    refine bodyPost_ret (v := .tuple #[.agg #[.int .i64 0, .int .i64 0], .int .i64 6]) (by simp [results, Try.results11, go_sem, c4, c5]) rfl ⟨fres_eq (HN.out hB.out), ?_⟩
    (repeat (first | with_reducible exact Grown.refl _ | with_reducible exact G1.out | with_reducible refine Grown.setCell ?_ (by simp) _ | with_reducible refine Grown.alloc ?_ _ _ | with_reducible refine grown_dr ?_ _))

set_option maxHeartbeats 1000000 in
theorem rmake_neg (n d q1 q2 : Int) (g : Nat) (b : Bool) (w : World) (h0 : d < 0) (X : Mk n d (-n) (-d) q1 q2 g) (hb : (inW 1073741824 q1 && inW 1073741824 q2) = b) :
    Calls Try.prog 11 #[.int .i64 n, .int .i64 d] w fun e w' => e = fres (Fr.mkV n d) ∧ Grown w w' := by
  obtain ⟨n1, n2, d1, d2, m1, m2, D1, D2, g1, g2, hg, e1, e2, a1, a2, b1, b2, yes, no, rt⟩ := X
  rw [hb] at rt
  have W2 := fun w => rright_b q1 q2 b w rt
  have AB : ∀ (w : World), Calls Try.prog 40 #[.int .i64 (-n)] w fun e w' => e = .returned (.int .i64 ((n.natAbs : Nat) : Int)) ∧ w = w' := fun w => by
    have := rabs_any (-n) w (by omega) (by omega)
    rw [Int.natAbs_neg] at this; exact this
  have G : ∀ (w : World), Calls Try.prog 39 #[.int .i64 ((n.natAbs : Nat) : Int), .int .i64 (-d)] w fun e w' => e = .returned (.int .i64 (g : Int)) ∧ ∃ n, w' = w.drewN n :=
    fun w => rgcdI_any _ (-d) g w (by omega) (by omega) (by omega) (by omega) (by rw [Int.natAbs_natCast, ← Int.natAbs_neg n]; exact hg)
  have HW2 := Lib.hid W2; clear W2
  have HA := Lib.hid AB; clear AB
  have HG := Lib.hid G; clear G hg
  have HY := Lib.hid yes; clear yes
  have HN := Lib.hid no; clear no
  clear rt
  have gg : ¬ (g : Int) = 0 := by omega
  have w1 : IntKind.i64.wrap q1 = q1 := IntWalk.i64_in _ (by omega)
  have w2 : IntKind.i64.wrap q2 = q2 := IntWalk.i64_in _ (by omega)
  have hd0 : ¬ d = 0 := by omega
  have hB := Lib.hid hb; clear hb
  go_enter Try.func11, Try.ntmps11
  go_wp2_with fail
  refine (HA.out _).mono ?_; rintro e w' ⟨rfl, rfl⟩
  go_wp2_with fail
  refine (HG.out _).mono ?_; rintro e w' ⟨rfl, k, rfl⟩
  go_wp2_with fail
  go_region
  go_wp2_with fail
  refine (HW2.out _).mono ?_; rintro e w1 ⟨rfl, gr⟩
  have c4 := (grown_cell gr (p := ⟨w.heap.size, 0, none⟩) (by simp; omega)).trans (show _ = some (.int .i64 0) by simp [go_sem])
  have c5 := (grown_cell gr (p := ⟨w.heap.size, 1, none⟩) (by simp; omega)).trans (show _ = some (.int .i64 0) by simp [go_sem])
  have c7 := (grown_cell gr (p := ⟨w.heap.size + 1, 0, none⟩) (by simp)).trans (show _ = some (.int .i64 q1) by simp [go_sem])
  have c8 := (grown_cell gr (p := ⟨w.heap.size + 1, 1, none⟩) (by simp)).trans (show _ = some (.int .i64 q2) by simp [go_sem])
  have f4 := (gr.2.1 ⟨w.heap.size, 0, none⟩).trans (show _ = false by simp [go_sem])
  have f5 := (gr.2.1 ⟨w.heap.size, 1, none⟩).trans (show _ = false by simp [go_sem])
  have G0 : Grown w w1 := grown_trans (by (repeat (first | with_reducible exact Grown.refl _ | with_reducible assumption | with_reducible refine Grown.setCell ?_ (by simp) _ | with_reducible refine Grown.alloc ?_ _ _ | with_reducible refine grown_dr ?_ _))) gr
  have G1 := Lib.hid G0; clear gr G0
  rcases bcase b with rfl | rfl
  · go_wp2_with fail
    refine bodyPost_ret (v := .tuple #[.agg #[.int .i64 q1, .int .i64 q2], .int .i64 0]) (by simp [results, Try.results11, go_sem, c4, c5]) rfl ⟨fres_eq (HY.out hB.out), ?_⟩
    (repeat (first | with_reducible exact Grown.refl _ | with_reducible exact G1.out | with_reducible refine Grown.setCell ?_ (by simp) _ | with_reducible refine Grown.alloc ?_ _ _ | with_reducible refine grown_dr ?_ _))
  · go_wp2_with fail
    refine bodyPost_ret (v := .tuple #[.agg #[.int .i64 0, .int .i64 0], .int .i64 6]) (by simp [results, Try.results11, go_sem, c4, c5]) rfl ⟨fres_eq (HN.out hB.out), ?_⟩
    (repeat (first | with_reducible exact Grown.refl _ | with_reducible exact G1.out | with_reducible refine Grown.setCell ?_ (by simp) _ | with_reducible refine Grown.alloc ?_ _ _ | with_reducible refine grown_dr ?_ _))

end Go.Proofs.Ytgbjooecomgfoaa
