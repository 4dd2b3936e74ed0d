/-
  What Make of package rat and of its reference return: the fraction of n / d.
-/
import Derived.Test.YtgbjooecomgfoaaRc
import Derived.Deep.RegionLaw
import Derived.StillTailTactics
namespace Go.Proofs.Ytgbjooecomgfoaa
open Go.RowKit

/-- A fraction and an error, as results. -/
def fres (t : Int × Int × Int) : Ending := .returned (.tuple #[.agg #[.int .i64 t.1, .int .i64 t.2.1], .int .i64 t.2.2])
theorem fres_eq {t : Int × Int × Int} {n d e : Int} (h : t = (n, d, e)) : Ending.returned (.tuple #[.agg #[.int .i64 n, .int .i64 d], .int .i64 e]) = fres t := by rw [h]; rfl

/-- What a walk of Make needs of its numbers: m / D is n / d with a denominator above 0; g the common divisor. -/
structure Mk (n d m D q1 q2 : Int) (g : Nat) : Prop where
  n1 : -4611686018427387904 ≤ n
  n2 : n ≤ 4611686018427387904
  d1 : -4611686018427387904 ≤ d
  d2 : d ≤ 4611686018427387904
  m1 : -4611686018427387904 ≤ m
  m2 : m ≤ 4611686018427387904
  D1 : 1 ≤ D
  D2 : D ≤ 4611686018427387904
  g1 : 1 ≤ (g : Int)
  g2 : (g : Int) ≤ 4611686018427387904
  hg : Nat.gcd m.natAbs D.natAbs = g
  e1 : m.tdiv g = q1
  e2 : D.tdiv g = q2
  a1 : -4611686018427387904 ≤ q1
  a2 : q1 ≤ 4611686018427387904
  b1 : 1 ≤ q2
  b2 : q2 ≤ 4611686018427387904
  yes : (inW 1073741824 q1 && inW 1073741824 q2) = true → Fr.mkV n d = (q1, q2, 0)
  no : (inW 1073741824 q1 && inW 1073741824 q2) = false → Fr.mkV n d = (0, 0, 6)
  rt : decide (Fr.right q1 q2) = (inW 1073741824 q1 && inW 1073741824 q2)

theorem lim_inW (q : Rat) : decide (Fr.lim q) = (inW 1073741824 q.num && inW 1073741824 (q.den : Int)) := by
  rw [Bool.eq_iff_iff, Bool.and_eq_true, inW_iff, inW_iff, decide_eq_true_iff]
  have := q.den_pos
  unfold Fr.lim
  omega

theorem Mk.pos (n d : Int) (h0 : 0 < d) (n1 : -4611686018427387904 ≤ n) (n2 : n ≤ 4611686018427387904) (d2 : d ≤ 4611686018427387904) :
    ∃ q1 q2 g, Mk n d n d q1 q2 g := by
  have e : ((d.toNat : Nat) : Int) = d := by omega
  have hp := Fr.parts_pos n d.toNat (Nat.gcd n.natAbs d.toNat) (by omega) rfl
  have hl := Fr.num_le n d.toNat (by omega)
  have hdp := (Rat.divInt n d.toNat).den_pos
  have hm := Fr.mkV_in (n := n) (d := d) (by omega) n2 n1 d2 (by omega)
  rw [e] at hp hl hdp
  obtain ⟨p1, p2, p3, p4⟩ := hp
  have e2 : d.toNat = d.natAbs := by omega
  rw [e2] at p1 p2 p3 p4
  generalize hq : Rat.divInt n d = q at *
  have hli := lim_inW q
  refine ⟨q.num, q.den, Nat.gcd n.natAbs d.natAbs, ⟨n1, n2, by omega, d2, n1, n2, by omega, d2, by omega, by omega, rfl, p1, p2, by omega, by omega, by omega, by omega, fun h => ?_, fun h => ?_, ?_⟩⟩
  · rw [hm, Fr.putV_lim (of_decide_eq_true (hli.trans h))]
  · rw [hm]; unfold Fr.putV; rw [if_neg (of_decide_eq_false (hli.trans h))]
  · rw [← hli]; exact decide_eq_decide.2 (Fr.right_iff q)
theorem Mk.neg (n d : Int) (h0 : d < 0) (n1 : -4611686018427387904 ≤ n) (n2 : n ≤ 4611686018427387904) (d1 : -4611686018427387904 ≤ d) :
    ∃ q1 q2 g, Mk n d (-n) (-d) q1 q2 g := by
  obtain ⟨q1, q2, g, ⟨x1, x2, x3, x4, x5, x6, x7, x8, x9, x10, x11, x12, x13, x14, x15, x16, x17, x18, x19, x20⟩⟩ := Mk.pos (-n) (-d) (by omega) (by omega) (by omega) (by omega)
  rw [Fr.mkV_neg] at x18 x19
  exact ⟨q1, q2, g, ⟨n1, n2, d1, by omega, x5, x6, x7, x8, x9, x10, x11, x12, x13, x14, x15, x16, x17, x18, x19, x20⟩⟩

theorem grown_dr {a b : World} (h : Grown a b) (n : Nat) : Grown a (b.drewN n) := grown_trans h (grown_drewN b n)
theorem within_b (B a c : Int) (b : Bool) (w : World) (A : Nat) (h0 : 0 ≤ B) (h1 : B ≤ 4611686018427387904) (hb : (inW B a && inW B c) = b)
    (c0 : w.cell? ⟨A, 0, none⟩ = some (.int .i64 a)) (c1 : w.cell? ⟨A, 1, none⟩ = some (.int .i64 c)) :
    Calls Try.prog 37 #[.int .i64 B, .slice (some ⟨A, 0, none⟩) 2 2] w fun e w' => e = .returned (.bool b) ∧ w = w' := by
  subst hb; exact within_two B a c w h0 h1 A c0 c1


set_option maxHeartbeats 1000000 in
theorem make_pos (n d q1 q2 : Int) (g : Nat) (b : Bool) (w : World) (h0 : 0 < d) (X : Mk n d n d q1 q2 g) (hb : (inW 1073741824 q1 && inW 1073741824 q2) = b) :
    Calls Try.prog 10 #[.int .i64 n, .int .i64 d] w fun e w' => e = fres (Fr.mkV n d) ∧ Grown w w' := by
  obtain ⟨n1, n2, d1, d2, m1, m2, D1, D2, g1, g2, hg, e1, e2, a1, a2, b1, b2, yes, no, rt⟩ := X
  have W1 := fun w A => within_b 4611686018427387904 n d true w A (by omega) (by omega) (by rw [inW_iff.2 ⟨n1, n2⟩, inW_iff.2 ⟨d1, d2⟩]; rfl)
  have W2 := fun w A => within_b 1073741824 q1 q2 b w A (by omega) (by omega) hb
  have G : ∀ (a : Int) (w : World), a.natAbs = n.natAbs → 0 ≤ a → a ≤ 4611686018427387904 → Calls Try.prog 38 #[.int .i64 a, .int .i64 d] w fun e w' => e = .returned (.int .i64 (g : Int)) ∧ ∃ n, w' = w.drewN n :=
    fun a w ha h1 h2 => gcdI_any a d g w h1 h2 (by omega) (by omega) (by rw [ha]; exact hg)
  have HW1 := Lib.hid W1; clear W1
  have HW2 := Lib.hid W2; clear W2
  have HG := Lib.hid G; clear G hg
  have HY := Lib.hid yes; clear yes
  have HN := Lib.hid no; clear no
  clear rt
  have gg : ¬ (g : Int) = 0 := by omega
  have w1 : IntKind.i64.wrap q1 = q1 := IntWalk.i64_in _ (by omega)
  have w2 : IntKind.i64.wrap q2 = q2 := IntWalk.i64_in _ (by omega)
  have hd0 : ¬ d = 0 := by omega
  have hB := Lib.hid hb; clear hb
  by_cases hn : n < 0
  · have t : n < -n := by omega
    go_enter Try.func10, Try.ntmps10
    go_wp2_with fail
    refine (HW1.out _ _ (by simp [go_sem]) (by simp [go_sem])).mono ?_; rintro e w' ⟨rfl, rfl⟩
    go_wp2_with fail
    refine (HG.out (-n) _ (by omega) (by omega) (by omega)).mono ?_; rintro e w' ⟨rfl, k, rfl⟩
    go_wp2_with fail
    go_region
    go_wp2_with fail
    refine (HW2.out _ _ (by simp [go_sem]) (by simp [go_sem])).mono ?_; rintro e w' ⟨rfl, rfl⟩
    rcases bcase b with rfl | rfl
    · go_wp2_with fail
      refine bodyPost_ret (v := .tuple #[.agg #[.int .i64 q1, .int .i64 q2], .int .i64 0]) (by simp [results, Try.results10, go_sem]) rfl ⟨fres_eq (HY.out hB.out), ?_⟩
      (repeat (first | with_reducible exact Grown.refl _ | with_reducible refine Grown.setCell ?_ (by simp) _ | with_reducible refine Grown.alloc ?_ _ _ | with_reducible refine grown_dr ?_ _))
    · go_wp2_with fail
      refine bodyPost_ret (v := .tuple #[.agg #[.int .i64 0, .int .i64 0], .int .i64 6]) (by simp [results, Try.results10, go_sem]) rfl ⟨fres_eq (HN.out hB.out), ?_⟩
      (repeat (first | with_reducible exact Grown.refl _ | with_reducible refine Grown.setCell ?_ (by simp) _ | with_reducible refine Grown.alloc ?_ _ _ | with_reducible refine grown_dr ?_ _))
  · have t : ¬ n < -n := by omega
    go_enter Try.func10, Try.ntmps10
    go_wp2_with fail
    refine (HW1.out _ _ (by simp [go_sem]) (by simp [go_sem])).mono ?_; rintro e w' ⟨rfl, rfl⟩
    go_wp2_with fail
    refine (HG.out n _ (by omega) (by omega) (by omega)).mono ?_; rintro e w' ⟨rfl, k, rfl⟩
    go_wp2_with fail
    go_region
    go_wp2_with fail
    refine (HW2.out _ _ (by simp [go_sem]) (by simp [go_sem])).mono ?_; rintro e w' ⟨rfl, rfl⟩
    rcases bcase b with rfl | rfl
    · go_wp2_with fail
      refine bodyPost_ret (v := .tuple #[.agg #[.int .i64 q1, .int .i64 q2], .int .i64 0]) (by simp [results, Try.results10, go_sem]) rfl ⟨fres_eq (HY.out hB.out), ?_⟩
      (repeat (first | with_reducible exact Grown.refl _ | with_reducible refine Grown.setCell ?_ (by simp) _ | with_reducible refine Grown.alloc ?_ _ _ | with_reducible refine grown_dr ?_ _))
    · go_wp2_with fail
      refine bodyPost_ret (v := .tuple #[.agg #[.int .i64 0, .int .i64 0], .int .i64 6]) (by simp [results, Try.results10, go_sem]) rfl ⟨fres_eq (HN.out hB.out), ?_⟩
      (repeat (first | with_reducible exact Grown.refl _ | with_reducible refine Grown.setCell ?_ (by simp) _ | with_reducible refine Grown.alloc ?_ _ _ | with_reducible refine grown_dr ?_ _))

set_option maxHeartbeats 1000000 in
theorem make_neg (n d q1 q2 : Int) (g : Nat) (b : Bool) (w : World) (h0 : d < 0) (X : Mk n d (-n) (-d) q1 q2 g) (hb : (inW 1073741824 q1 && inW 1073741824 q2) = b) :
    Calls Try.prog 10 #[.int .i64 n, .int .i64 d] w fun e w' => e = fres (Fr.mkV n d) ∧ Grown w w' := by
  obtain ⟨n1, n2, d1, d2, m1, m2, D1, D2, g1, g2, hg, e1, e2, a1, a2, b1, b2, yes, no, rt⟩ := X
  have W1 := fun w A => within_b 4611686018427387904 n d true w A (by omega) (by omega) (by rw [inW_iff.2 ⟨n1, n2⟩, inW_iff.2 ⟨d1, d2⟩]; rfl)
  have W2 := fun w A => within_b 1073741824 q1 q2 b w A (by omega) (by omega) hb
  have G : ∀ (a : Int) (w : World), a.natAbs = n.natAbs → 0 ≤ a → a ≤ 4611686018427387904 → Calls Try.prog 38 #[.int .i64 a, .int .i64 (-d)] w fun e w' => e = .returned (.int .i64 (g : Int)) ∧ ∃ n, w' = w.drewN n :=
    fun a w ha h1 h2 => gcdI_any a (-d) g w h1 h2 (by omega) (by omega) (by rw [ha, ← Int.natAbs_neg n]; exact hg)
  have HW1 := Lib.hid W1; clear W1
  have HW2 := Lib.hid W2; clear W2
  have HG := Lib.hid G; clear G hg
  have HY := Lib.hid yes; clear yes
  have HN := Lib.hid no; clear no
  clear rt
  have gg : ¬ (g : Int) = 0 := by omega
  have w1 : IntKind.i64.wrap q1 = q1 := IntWalk.i64_in _ (by omega)
  have w2 : IntKind.i64.wrap q2 = q2 := IntWalk.i64_in _ (by omega)
  have hd0 : ¬ d = 0 := by omega
  have hB := Lib.hid hb; clear hb
  by_cases hn : n < 0
  · have t : ¬ -n < n := by omega
    go_enter Try.func10, Try.ntmps10
    go_wp2_with fail
    refine (HW1.out _ _ (by simp [go_sem]) (by simp [go_sem])).mono ?_; rintro e w' ⟨rfl, rfl⟩
    go_wp2_with fail
    refine (HG.out (-n) _ (by omega) (by omega) (by omega)).mono ?_; rintro e w' ⟨rfl, k, rfl⟩
    go_wp2_with fail
    go_region
    go_wp2_with fail
    refine (HW2.out _ _ (by simp [go_sem]) (by simp [go_sem])).mono ?_; rintro e w' ⟨rfl, rfl⟩
    rcases bcase b with rfl | rfl
    · go_wp2_with fail
      refine bodyPost_ret (v := .tuple #[.agg #[.int .i64 q1, .int .i64 q2], .int .i64 0]) (by simp [results, Try.results10, go_sem]) rfl ⟨fres_eq (HY.out hB.out), ?_⟩
      (repeat (first | with_reducible exact Grown.refl _ | with_reducible refine Grown.setCell ?_ (by simp) _ | with_reducible refine Grown.alloc ?_ _ _ | with_reducible refine grown_dr ?_ _))
    · go_wp2_with fail
      refine bodyPost_ret (v := .tuple #[.agg #[.int .i64 0, .int .i64 0], .int .i64 6]) (by simp [results, Try.results10, go_sem]) rfl ⟨fres_eq (HN.out hB.out), ?_⟩
      (repeat (first | with_reducible exact Grown.refl _ | with_reducible refine Grown.setCell ?_ (by simp) _ | with_reducible refine Grown.alloc ?_ _ _ | with_reducible refine grown_dr ?_ _))
  · by_cases t : -n < n
    all_goals
      go_enter Try.func10, Try.ntmps10
      go_wp2_with fail
      refine (HW1.out _ _ (by simp [go_sem]) (by simp [go_sem])).mono ?_; rintro e w' ⟨rfl, rfl⟩
      go_wp2_with fail
      refine (HG.out _ _ (by omega) (by omega) (by omega)).mono ?_; rintro e w' ⟨rfl, k, rfl⟩
      go_wp2_with fail
      go_region
      go_wp2_with fail
      refine (HW2.out _ _ (by simp [go_sem]) (by simp [go_sem])).mono ?_; rintro e w' ⟨rfl, rfl⟩
      rcases bcase b with rfl | rfl
      · go_wp2_with fail
        refine bodyPost_ret (v := .tuple #[.agg #[.int .i64 q1, .int .i64 q2], .int .i64 0]) (by simp [results, Try.results10, go_sem]) rfl ⟨fres_eq (HY.out hB.out), ?_⟩
        (repeat (first | with_reducible exact Grown.refl _ | with_reducible refine Grown.setCell ?_ (by simp) _ | with_reducible refine Grown.alloc ?_ _ _ | with_reducible refine grown_dr ?_ _))
      · go_wp2_with fail
        refine bodyPost_ret (v := .tuple #[.agg #[.int .i64 0, .int .i64 0], .int .i64 6]) (by simp [results, Try.results10, go_sem]) rfl ⟨fres_eq (HN.out hB.out), ?_⟩
        (repeat (first | with_reducible exact Grown.refl _ | with_reducible refine Grown.setCell ?_ (by simp) _ | with_reducible refine Grown.alloc ?_ _ _ | with_reducible refine grown_dr ?_ _))

end Go.Proofs.Ytgbjooecomgfoaa
