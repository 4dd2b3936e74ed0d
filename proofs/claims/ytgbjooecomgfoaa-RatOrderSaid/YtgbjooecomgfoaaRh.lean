/-
  What the closures of package rat, and cross, return.
-/
import Derived.Test.YtgbjooecomgfoaaRg
namespace Go.Proofs.Ytgbjooecomgfoaa
open Go.RowKit

/-- The parts of two fractions are small. -/
structure Sm (a b c d : Int) : Prop where
  a1 : -1073741824 ≤ a
  a2 : a ≤ 1073741824
  b1 : 1 ≤ b
  b2 : b ≤ 1073741824
  c1 : -1073741824 ≤ c
  c2 : c ≤ 1073741824
  d1 : 1 ≤ d
  d2 : d ≤ 1073741824
theorem Sm.of {a b c d : Int} (h : Fr.right a b) (k : Fr.right c d) : Sm a b c d :=
  ⟨h.2.2.1, h.2.2.2.1, h.1, h.2.1, k.2.2.1, k.2.2.2.1, k.1, k.2.1⟩
theorem prod_bd (x y : Int) (hx : -1073741824 ≤ x ∧ x ≤ 1073741824) (hy : -1073741824 ≤ y ∧ y ≤ 1073741824) : -1152921504606846976 ≤ x * y ∧ x * y ≤ 1152921504606846976 := by
  have h := Fr.natAbs_mul_le x y 1073741824 1073741824 (by omega) (by omega)
  omega

set_option maxHeartbeats 400000 in
theorem cloAdd (a b c d : Int) (w : World) (A B : Nat) (X : Sm a b c d)
    (k0 : w.cell? ⟨A, 0, none⟩ = some (.int .i64 a)) (k1 : w.cell? ⟨A, 1, none⟩ = some (.int .i64 b)) (k2 : w.cell? ⟨B, 0, none⟩ = some (.int .i64 c)) (k3 : w.cell? ⟨B, 1, none⟩ = some (.int .i64 d)) :
    Calls Try.prog 45 #[.pointer (some ⟨A, 0, none⟩), .pointer (some ⟨B, 0, none⟩)] w fun e w' => e = .returned (.tuple #[.int .i64 (a * d + c * b), .int .i64 (b * d)]) ∧ Grown w w' := by
  obtain ⟨x1, x2, x3, x4, x5, x6, x7, x8⟩ := X
  have p0 := prod_bd a d ⟨by omega, by omega⟩ ⟨by omega, by omega⟩
  obtain ⟨p0l, p0h⟩ := p0
  have p1 := prod_bd c b ⟨by omega, by omega⟩ ⟨by omega, by omega⟩
  obtain ⟨p1l, p1h⟩ := p1
  have p2 := prod_bd b d ⟨by omega, by omega⟩ ⟨by omega, by omega⟩
  obtain ⟨p2l, p2h⟩ := p2
  have w0 : IntKind.i64.wrap (a * d) = a * d := IntWalk.i64_in _ (by omega)
  have w1 : IntKind.i64.wrap (c * b) = c * b := IntWalk.i64_in _ (by omega)
  have w2 : IntKind.i64.wrap (b * d) = b * d := IntWalk.i64_in _ (by omega)
  have ws : IntKind.i64.wrap (a * d + c * b) = a * d + c * b := IntWalk.i64_in _ (by omega)
  go_enter Try.func45, Try.ntmps45
  go_wp2_with fail
  go_quiet (fail)
  go_wp2_with fail
  go_ret2
  exact ⟨rfl, grown_drewN _ _⟩

set_option maxHeartbeats 400000 in
theorem cloSub (a b c d : Int) (w : World) (A B : Nat) (X : Sm a b c d)
    (k0 : w.cell? ⟨A, 0, none⟩ = some (.int .i64 a)) (k1 : w.cell? ⟨A, 1, none⟩ = some (.int .i64 b)) (k2 : w.cell? ⟨B, 0, none⟩ = some (.int .i64 c)) (k3 : w.cell? ⟨B, 1, none⟩ = some (.int .i64 d)) :
    Calls Try.prog 47 #[.pointer (some ⟨A, 0, none⟩), .pointer (some ⟨B, 0, none⟩)] w fun e w' => e = .returned (.tuple #[.int .i64 (a * d - c * b), .int .i64 (b * d)]) ∧ Grown w w' := by
  obtain ⟨x1, x2, x3, x4, x5, x6, x7, x8⟩ := X
  have p0 := prod_bd a d ⟨by omega, by omega⟩ ⟨by omega, by omega⟩
  obtain ⟨p0l, p0h⟩ := p0
  have p1 := prod_bd c b ⟨by omega, by omega⟩ ⟨by omega, by omega⟩
  obtain ⟨p1l, p1h⟩ := p1
  have p2 := prod_bd b d ⟨by omega, by omega⟩ ⟨by omega, by omega⟩
  obtain ⟨p2l, p2h⟩ := p2
  have w0 : IntKind.i64.wrap (a * d) = a * d := IntWalk.i64_in _ (by omega)
  have w1 : IntKind.i64.wrap (c * b) = c * b := IntWalk.i64_in _ (by omega)
  have w2 : IntKind.i64.wrap (b * d) = b * d := IntWalk.i64_in _ (by omega)
  have ws : IntKind.i64.wrap (a * d - c * b) = a * d - c * b := IntWalk.i64_in _ (by omega)
  go_enter Try.func47, Try.ntmps47
  go_wp2_with fail
  go_quiet (fail)
  go_wp2_with fail
  go_ret2
  exact ⟨rfl, grown_drewN _ _⟩

set_option maxHeartbeats 400000 in
theorem cloMul (a b c d : Int) (w : World) (A B : Nat) (X : Sm a b c d)
    (k0 : w.cell? ⟨A, 0, none⟩ = some (.int .i64 a)) (k1 : w.cell? ⟨A, 1, none⟩ = some (.int .i64 b)) (k2 : w.cell? ⟨B, 0, none⟩ = some (.int .i64 c)) (k3 : w.cell? ⟨B, 1, none⟩ = some (.int .i64 d)) :
    Calls Try.prog 48 #[.pointer (some ⟨A, 0, none⟩), .pointer (some ⟨B, 0, none⟩)] w fun e w' => e = .returned (.tuple #[.int .i64 (a * c), .int .i64 (b * d)]) ∧ Grown w w' := by
  obtain ⟨x1, x2, x3, x4, x5, x6, x7, x8⟩ := X
  have p0 := prod_bd a c ⟨by omega, by omega⟩ ⟨by omega, by omega⟩
  obtain ⟨p0l, p0h⟩ := p0
  have p1 := prod_bd b d ⟨by omega, by omega⟩ ⟨by omega, by omega⟩
  obtain ⟨p1l, p1h⟩ := p1
  have w0 : IntKind.i64.wrap (a * c) = a * c := IntWalk.i64_in _ (by omega)
  have w1 : IntKind.i64.wrap (b * d) = b * d := IntWalk.i64_in _ (by omega)
  go_enter Try.func48, Try.ntmps48
  go_wp2_with fail
  go_quiet (fail)
  go_wp2_with fail
  go_ret2
  exact ⟨rfl, grown_drewN _ _⟩

set_option maxHeartbeats 400000 in
theorem cloDiv (a b c d : Int) (w : World) (A B : Nat) (X : Sm a b c d)
    (k0 : w.cell? ⟨A, 0, none⟩ = some (.int .i64 a)) (k1 : w.cell? ⟨A, 1, none⟩ = some (.int .i64 b)) (k2 : w.cell? ⟨B, 0, none⟩ = some (.int .i64 c)) (k3 : w.cell? ⟨B, 1, none⟩ = some (.int .i64 d)) :
    Calls Try.prog 49 #[.pointer (some ⟨A, 0, none⟩), .pointer (some ⟨B, 0, none⟩)] w fun e w' => e = .returned (.tuple #[.int .i64 (a * d), .int .i64 (b * c)]) ∧ Grown w w' := by
  obtain ⟨x1, x2, x3, x4, x5, x6, x7, x8⟩ := X
  have p0 := prod_bd a d ⟨by omega, by omega⟩ ⟨by omega, by omega⟩
  obtain ⟨p0l, p0h⟩ := p0
  have p1 := prod_bd b c ⟨by omega, by omega⟩ ⟨by omega, by omega⟩
  obtain ⟨p1l, p1h⟩ := p1
  have w0 : IntKind.i64.wrap (a * d) = a * d := IntWalk.i64_in _ (by omega)
  have w1 : IntKind.i64.wrap (b * c) = b * c := IntWalk.i64_in _ (by omega)
  go_enter Try.func49, Try.ntmps49
  go_wp2_with fail
  go_quiet (fail)
  go_wp2_with fail
  go_ret2
  exact ⟨rfl, grown_drewN _ _⟩

set_option maxHeartbeats 400000 in
theorem cloCmp (a b c d : Int) (w : World) (A B : Nat) (X : Sm a b c d)
    (k0 : w.cell? ⟨A, 0, none⟩ = some (.int .i64 a)) (k1 : w.cell? ⟨A, 1, none⟩ = some (.int .i64 b)) (k2 : w.cell? ⟨B, 0, none⟩ = some (.int .i64 c)) (k3 : w.cell? ⟨B, 1, none⟩ = some (.int .i64 d)) :
    Calls Try.prog 50 #[.pointer (some ⟨A, 0, none⟩), .pointer (some ⟨B, 0, none⟩)] w fun e w' => e = .returned (.tuple #[.int .i64 (a * d), .int .i64 (c * b)]) ∧ Grown w w' := by
  obtain ⟨x1, x2, x3, x4, x5, x6, x7, x8⟩ := X
  have p0 := prod_bd a d ⟨by omega, by omega⟩ ⟨by omega, by omega⟩
  obtain ⟨p0l, p0h⟩ := p0
  have p1 := prod_bd c b ⟨by omega, by omega⟩ ⟨by omega, by omega⟩
  obtain ⟨p1l, p1h⟩ := p1
  have w0 : IntKind.i64.wrap (a * d) = a * d := IntWalk.i64_in _ (by omega)
  have w1 : IntKind.i64.wrap (c * b) = c * b := IntWalk.i64_in _ (by omega)
  go_enter Try.func50, Try.ntmps50
  go_wp2_with fail
  go_quiet (fail)
  go_wp2_with fail
  go_ret2
  exact ⟨rfl, grown_drewN _ _⟩

theorem checkAll_v (a b c d v : Int) (w : World) (A : Nat) (h : bothV a b c d = v) (hA : A < w.heap.size)
    (c0 : w.cell? ⟨A, 0, none⟩ = some (.int .i64 a)) (c1 : w.cell? ⟨A, 1, none⟩ = some (.int .i64 b)) (c2 : w.cell? ⟨A, 2, none⟩ = some (.int .i64 c)) (c3 : w.cell? ⟨A, 3, none⟩ = some (.int .i64 d)) :
    Calls Try.prog 54 #[.slice (some ⟨A, 0, none⟩) 2 2] w fun e w' => e = .returned (.int .i64 v) ∧ Grown w w' := by
  have := checkAll_two a b c d w A hA c0 c1 c2 c3; rw [h] at this; exact this

set_option maxHeartbeats 1000000 in
theorem crossAdd (a b c d p q : Int) (A B : Nat) (w : World) (hv : bothV a b c d = 0)
    (hk : ∀ w1, Grown w w1 → Calls Try.prog 45 #[.pointer (some ⟨A, 0, none⟩), .pointer (some ⟨B, 0, none⟩)] w1 fun e w' => e = .returned (.tuple #[.int .i64 p, .int .i64 q]) ∧ Grown w1 w') :
    Calls Try.prog 44 #[.agg #[.int .i64 a, .int .i64 b], .agg #[.int .i64 c, .int .i64 d], .func (.func 45) #[] #[.pointer (some ⟨A, 0, none⟩), .pointer (some ⟨B, 0, none⟩)]] w
      fun e w' => e = .returned (.tuple #[.int .i64 p, .int .i64 q, .int .i64 0]) ∧ Grown w w' := by
  have R := fun w A => checkAll_v a b c d 0 w A hv
  have HR := Lib.hid R; clear R hv
  have HK := Lib.hid hk; clear hk
  go_enter Try.func44, Try.ntmps44
  go_wp2_with fail
  refine (HR.out _ _ (by simp) (by simp [go_sem]) (by simp [go_sem]) (by simp [go_sem]) (by simp [go_sem])).mono ?_; rintro e w1 ⟨rfl, gr⟩
  have G1 := Lib.hid (grown_trans ((((Grown.refl w).alloc _ _).alloc _ _).alloc _ _) gr); clear gr
  go_wp2_with fail
  refine (HK.out _ G1.out).mono ?_; rintro e w2 ⟨rfl, gr⟩
  have G2 := Lib.hid (grown_trans G1.out gr); clear gr
  go_wp2_with fail
  go_ret3
  exact ⟨rfl, G2.out⟩

set_option maxHeartbeats 1000000 in
theorem crossSub (a b c d p q : Int) (A B : Nat) (w : World) (hv : bothV a b c d = 0)
    (hk : ∀ w1, Grown w w1 → Calls Try.prog 47 #[.pointer (some ⟨A, 0, none⟩), .pointer (some ⟨B, 0, none⟩)] w1 fun e w' => e = .returned (.tuple #[.int .i64 p, .int .i64 q]) ∧ Grown w1 w') :
    Calls Try.prog 44 #[.agg #[.int .i64 a, .int .i64 b], .agg #[.int .i64 c, .int .i64 d], .func (.func 47) #[] #[.pointer (some ⟨A, 0, none⟩), .pointer (some ⟨B, 0, none⟩)]] w
      fun e w' => e = .returned (.tuple #[.int .i64 p, .int .i64 q, .int .i64 0]) ∧ Grown w w' := by
  have R := fun w A => checkAll_v a b c d 0 w A hv
  have HR := Lib.hid R; clear R hv
  have HK := Lib.hid hk; clear hk
  go_enter Try.func44, Try.ntmps44
  go_wp2_with fail
  refine (HR.out _ _ (by simp) (by simp [go_sem]) (by simp [go_sem]) (by simp [go_sem]) (by simp [go_sem])).mono ?_; rintro e w1 ⟨rfl, gr⟩
  have G1 := Lib.hid (grown_trans ((((Grown.refl w).alloc _ _).alloc _ _).alloc _ _) gr); clear gr
  go_wp2_with fail
  refine (HK.out _ G1.out).mono ?_; rintro e w2 ⟨rfl, gr⟩
  have G2 := Lib.hid (grown_trans G1.out gr); clear gr
  go_wp2_with fail
  go_ret3
  exact ⟨rfl, G2.out⟩

set_option maxHeartbeats 1000000 in
theorem crossMul (a b c d p q : Int) (A B : Nat) (w : World) (hv : bothV a b c d = 0)
    (hk : ∀ w1, Grown w w1 → Calls Try.prog 48 #[.pointer (some ⟨A, 0, none⟩), .pointer (some ⟨B, 0, none⟩)] w1 fun e w' => e = .returned (.tuple #[.int .i64 p, .int .i64 q]) ∧ Grown w1 w') :
    Calls Try.prog 44 #[.agg #[.int .i64 a, .int .i64 b], .agg #[.int .i64 c, .int .i64 d], .func (.func 48) #[] #[.pointer (some ⟨A, 0, none⟩), .pointer (some ⟨B, 0, none⟩)]] w
      fun e w' => e = .returned (.tuple #[.int .i64 p, .int .i64 q, .int .i64 0]) ∧ Grown w w' := by
  have R := fun w A => checkAll_v a b c d 0 w A hv
  have HR := Lib.hid R; clear R hv
  have HK := Lib.hid hk; clear hk
  go_enter Try.func44, Try.ntmps44
  go_wp2_with fail
  refine (HR.out _ _ (by simp) (by simp [go_sem]) (by simp [go_sem]) (by simp [go_sem]) (by simp [go_sem])).mono ?_; rintro e w1 ⟨rfl, gr⟩
  have G1 := Lib.hid (grown_trans ((((Grown.refl w).alloc _ _).alloc _ _).alloc _ _) gr); clear gr
  go_wp2_with fail
  refine (HK.out _ G1.out).mono ?_; rintro e w2 ⟨rfl, gr⟩
  have G2 := Lib.hid (grown_trans G1.out gr); clear gr
  go_wp2_with fail
  go_ret3
  exact ⟨rfl, G2.out⟩

set_option maxHeartbeats 1000000 in
theorem crossDiv (a b c d p q : Int) (A B : Nat) (w : World) (hv : bothV a b c d = 0)
    (hk : ∀ w1, Grown w w1 → Calls Try.prog 49 #[.pointer (some ⟨A, 0, none⟩), .pointer (some ⟨B, 0, none⟩)] w1 fun e w' => e = .returned (.tuple #[.int .i64 p, .int .i64 q]) ∧ Grown w1 w') :
    Calls Try.prog 44 #[.agg #[.int .i64 a, .int .i64 b], .agg #[.int .i64 c, .int .i64 d], .func (.func 49) #[] #[.pointer (some ⟨A, 0, none⟩), .pointer (some ⟨B, 0, none⟩)]] w
      fun e w' => e = .returned (.tuple #[.int .i64 p, .int .i64 q, .int .i64 0]) ∧ Grown w w' := by
  have R := fun w A => checkAll_v a b c d 0 w A hv
  have HR := Lib.hid R; clear R hv
  have HK := Lib.hid hk; clear hk
  go_enter Try.func44, Try.ntmps44
  go_wp2_with fail
  refine (HR.out _ _ (by simp) (by simp [go_sem]) (by simp [go_sem]) (by simp [go_sem]) (by simp [go_sem])).mono ?_; rintro e w1 ⟨rfl, gr⟩
  have G1 := Lib.hid (grown_trans ((((Grown.refl w).alloc _ _).alloc _ _).alloc _ _) gr); clear gr
  go_wp2_with fail
  refine (HK.out _ G1.out).mono ?_; rintro e w2 ⟨rfl, gr⟩
  have G2 := Lib.hid (grown_trans G1.out gr); clear gr
  go_wp2_with fail
  go_ret3
  exact ⟨rfl, G2.out⟩

set_option maxHeartbeats 1000000 in
theorem crossCmp (a b c d p q : Int) (A B : Nat) (w : World) (hv : bothV a b c d = 0)
    (hk : ∀ w1, Grown w w1 → Calls Try.prog 50 #[.pointer (some ⟨A, 0, none⟩), .pointer (some ⟨B, 0, none⟩)] w1 fun e w' => e = .returned (.tuple #[.int .i64 p, .int .i64 q]) ∧ Grown w1 w') :
    Calls Try.prog 44 #[.agg #[.int .i64 a, .int .i64 b], .agg #[.int .i64 c, .int .i64 d], .func (.func 50) #[] #[.pointer (some ⟨A, 0, none⟩), .pointer (some ⟨B, 0, none⟩)]] w
      fun e w' => e = .returned (.tuple #[.int .i64 p, .int .i64 q, .int .i64 0]) ∧ Grown w w' := by
  have R := fun w A => checkAll_v a b c d 0 w A hv
  have HR := Lib.hid R; clear R hv
  have HK := Lib.hid hk; clear hk
  go_enter Try.func44, Try.ntmps44
  go_wp2_with fail
  refine (HR.out _ _ (by simp) (by simp [go_sem]) (by simp [go_sem]) (by simp [go_sem]) (by simp [go_sem])).mono ?_; rintro e w1 ⟨rfl, gr⟩
  have G1 := Lib.hid (grown_trans ((((Grown.refl w).alloc _ _).alloc _ _).alloc _ _) gr); clear gr
  go_wp2_with fail
  refine (HK.out _ G1.out).mono ?_; rintro e w2 ⟨rfl, gr⟩
  have G2 := Lib.hid (grown_trans G1.out gr); clear gr
  go_wp2_with fail
  go_ret3
  exact ⟨rfl, G2.out⟩

set_option maxHeartbeats 1000000 in
theorem cross_no (a b c d : Int) (fv : Value) (w : World) (hv : bothV a b c d = 120) :
    Calls Try.prog 44 #[.agg #[.int .i64 a, .int .i64 b], .agg #[.int .i64 c, .int .i64 d], fv] w
      fun e w' => e = .returned (.tuple #[.int .i64 0, .int .i64 0, .int .i64 120]) ∧ Grown w w' := by
  have R := fun w A => checkAll_v a b c d 120 w A hv
  have HR := Lib.hid R; clear R hv
  go_enter Try.func44, Try.ntmps44
  go_wp2_with fail
  refine (HR.out _ _ (by simp) (by simp [go_sem]) (by simp [go_sem]) (by simp [go_sem]) (by simp [go_sem])).mono ?_; rintro e w1 ⟨rfl, gr⟩
  have G1 := Lib.hid (grown_trans ((((Grown.refl w).alloc _ _).alloc _ _).alloc _ _) gr); clear gr
  go_wp2_with fail
  go_ret3
  exact ⟨rfl, G1.out⟩

end Go.Proofs.Ytgbjooecomgfoaa
