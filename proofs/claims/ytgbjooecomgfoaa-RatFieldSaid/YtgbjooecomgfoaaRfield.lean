/-
  RatField returns true for every input: the field laws for small fractions. No condition.
-/
import Derived.Test.YtgbjooecomgfoaaRt
import Derived.Test.YtgbjooecomgfoaaMul
import Derived.Deep.DeepCutAuto
import Derived.Deep.CutBlock
import Derived.Test.YtgbjooecomgfoaaRfa
import Derived.Test.YtgbjooecomgfoaaRt2
namespace Go.Proofs.Ytgbjooecomgfoaa
open Go.ChangeShapes Go.WideShapes Go.ChangeAt Go.WideMaps Go.WideElems Go.RowKit

set_option maxRecDepth 100000 in
set_option maxHeartbeats 8000000 in
theorem ratField_any (n0 n1 n2 m0 m1 m2 : Int) (w : World) (p0 : -128 ≤ n0 ∧ n0 ≤ 127) (p1 : -128 ≤ n1 ∧ n1 ≤ 127) (p2 : -128 ≤ n2 ∧ n2 ≤ 127) (q0 : 0 ≤ m0 ∧ m0 ≤ 255) (q1 : 0 ≤ m1 ∧ m1 ≤ 255) (q2 : 0 ≤ m2 ∧ m2 ≤ 255) :
    Calls Try.prog 6 #[.agg #[.int .i8 n0, .int .i8 n1, .int .i8 n2], .agg #[.int .u8 m0, .int .u8 m1, .int .u8 m2]] w fun e w' => e = .returned (.bool true) ∧ Grown w w' := by
  obtain ⟨a, va, ba⟩ := small_rat n0 m0 p0.1 p0.2
  obtain ⟨b, vb, bb⟩ := small_rat n1 m1 p1.1 p1.2
  obtain ⟨c, vc, bc⟩ := small_rat n2 m2 p2.1 p2.2
  have H1 := Lib.hid (fun w => small_v n0 m0 a.num (a.den : Int) 0 w p0.1 p0.2 q0.1 q0.2 va)
  have H2 := Lib.hid (fun w => small_v n1 m1 b.num (b.den : Int) 0 w p1.1 p1.2 q1.1 q1.2 vb)
  have H3 := Lib.hid (fun w => small_v n2 m2 c.num (c.den : Int) 0 w p2.1 p2.2 q2.1 q2.2 vc)
  obtain ⟨la, lb, lc, lab, labc, lbc, lx, lp, lz, lal, lac⟩ := field_facts a b c ba bb bc
  clear va vb vc p0 p1 p2 q0 q1 q2
  have A1 := Lib.hid (fun w => add_v a.num (a.den : Int) b.num (b.den : Int) (a + b).num ((a + b).den : Int) 0 w (addR a b la lb lab))
  have f2 := addR b a lb la (by rw [Rat.add_comm]; exact lab)
  rw [Rat.add_comm b a] at f2
  have A2 := Lib.hid (fun w => add_v b.num (b.den : Int) a.num (a.den : Int) (a + b).num ((a + b).den : Int) 0 w (f2))
  have A3 := Lib.hid (fun w => add_v (a + b).num ((a + b).den : Int) c.num (c.den : Int) (a + b + c).num ((a + b + c).den : Int) 0 w (addR (a + b) c lab lc labc))
  have A4 := Lib.hid (fun w => add_v b.num (b.den : Int) c.num (c.den : Int) (b + c).num ((b + c).den : Int) 0 w (addR b c lb lc lbc))
  have f5 := addR a (b + c) la lbc (by rw [← Rat.add_assoc]; exact labc)
  rw [← Rat.add_assoc] at f5
  have A5 := Lib.hid (fun w => add_v a.num (a.den : Int) (b + c).num ((b + c).den : Int) (a + b + c).num ((a + b + c).den : Int) 0 w (f5))
  have f6 := subR (a + b) b lab lb (by rw [Fr.back_sub]; exact la)
  rw [Fr.back_sub] at f6
  have A6 := Lib.hid (fun w => sub_v (a + b).num ((a + b).den : Int) b.num (b.den : Int) a.num (a.den : Int) 0 w (f6))
  have A7 := Lib.hid (fun w => check_v (a + b + c).num ((a + b + c).den : Int) 0 w (ckV_yes (Fr.right_of labc)))
  have A8 := Lib.hid (fun w => mul_v a.num (a.den : Int) b.num (b.den : Int) (a * b).num ((a * b).den : Int) 0 w (mulR a b la lb lx))
  have f9 := mulR b a lb la (by rw [Rat.mul_comm]; exact lx)
  rw [Rat.mul_comm b a] at f9
  have A9 := Lib.hid (fun w => mul_v b.num (b.den : Int) a.num (a.den : Int) (a * b).num ((a * b).den : Int) 0 w (f9))
  have A10 := Lib.hid (fun w => mul_v (a * b).num ((a * b).den : Int) c.num (c.den : Int) (a * b * c).num ((a * b * c).den : Int) 0 w (mulR (a * b) c lx lc lp))
  have A11 := Lib.hid (fun w => mul_v b.num (b.den : Int) c.num (c.den : Int) (b * c).num ((b * c).den : Int) 0 w (mulR b c lb lc lz))
  have f12 := mulR a (b * c) la lz (by rw [← Rat.mul_assoc]; exact lp)
  rw [← Rat.mul_assoc] at f12
  have A12 := Lib.hid (fun w => mul_v a.num (a.den : Int) (b * c).num ((b * c).den : Int) (a * b * c).num ((a * b * c).den : Int) 0 w (f12))
  have A13 := Lib.hid (fun w => mul_v (a + b).num ((a + b).den : Int) c.num (c.den : Int) ((a + b) * c).num (((a + b) * c).den : Int) 0 w (mulR (a + b) c lab lc lal))
  have A14 := Lib.hid (fun w => mul_v a.num (a.den : Int) c.num (c.den : Int) (a * c).num ((a * c).den : Int) 0 w (mulR a c la lc lac))
  have f15 := addR (a * c) (b * c) lac lz (by rw [← Rat.add_mul]; exact lal)
  rw [← Rat.add_mul] at f15
  have A15 := Lib.hid (fun w => add_v (a * c).num ((a * c).den : Int) (b * c).num ((b * c).den : Int) ((a + b) * c).num (((a + b) * c).den : Int) 0 w (f15))
  have f16 : ∃ r1 r2 re : Int, opV (a * b).num ((a * b).den : Int) b.num (b.den : Int) ((a * b).num * (b.den : Int)) (((a * b).den : Int) * b.num) = (r1, r2, re) ∧ ((b.num = 0 ∧ re = 2) ∨ (¬ b.num = 0 ∧ r1 = a.num ∧ r2 = (a.den : Int) ∧ re = 0)) := by
    by_cases h : b.num = 0
    · exact ⟨0, 0, 2, divR0 (a * b) b lx lb h, .inl ⟨h, rfl⟩⟩
    · have := divR (a * b) b lx lb h (by rw [Fr.back_div a b h]; exact la)
      rw [Fr.back_div a b h] at this
      exact ⟨_, _, _, this, .inr ⟨h, rfl, rfl, rfl⟩⟩
  obtain ⟨r1, r2, re, f16, f17⟩ := f16
  have A16 := Lib.hid (fun w => div_v (a * b).num ((a * b).den : Int) b.num (b.den : Int) r1 r2 re w f16)
  have HD := Lib.hid f17
  clear f2 f5 f6 f9 f12 f15 f16 f17 ba bb bc la lb lc lab labc lbc lx lp lz lal lac
  generalize a.num = a1 at *
  generalize (a.den : Int) = a2 at *
  generalize b.num = b1 at *
  generalize (b.den : Int) = b2 at *
  generalize c.num = c1 at *
  generalize (c.den : Int) = c2 at *
  generalize (a + b).num = ab1 at *
  generalize ((a + b).den : Int) = ab2 at *
  generalize (a + b + c).num = lf1 at *
  generalize ((a + b + c).den : Int) = lf2 at *
  generalize (b + c).num = bc1 at *
  generalize ((b + c).den : Int) = bc2 at *
  generalize (a * b).num = x1 at *
  generalize ((a * b).den : Int) = x2 at *
  generalize (a * b * c).num = p1 at *
  generalize ((a * b * c).den : Int) = p2 at *
  generalize (b * c).num = z1 at *
  generalize ((b * c).den : Int) = z2 at *
  generalize ((a + b) * c).num = al1 at *
  generalize (((a + b) * c).den : Int) = al2 at *
  generalize (a * c).num = ac1 at *
  generalize ((a * c).den : Int) = ac2 at *
  go_enter Try.func6, Try.ntmps6
  go_wp2_with fail
  refine (works_any _).mono ?_; rintro e W ⟨rfl, gr⟩
  have k0 := (grown_cell gr (p := ⟨w.heap.size, 0, none⟩) (by simp <;> omega)).trans (show _ = some (.int .i8 n0) by simp [go_sem])
  have k1 := (grown_cell gr (p := ⟨w.heap.size, 1, none⟩) (by simp <;> omega)).trans (show _ = some (.int .i8 n1) by simp [go_sem])
  have k2 := (grown_cell gr (p := ⟨w.heap.size, 2, none⟩) (by simp <;> omega)).trans (show _ = some (.int .i8 n2) by simp [go_sem])
  have k3 := (grown_cell gr (p := ⟨w.heap.size + 1, 0, none⟩) (by simp)).trans (show _ = some (.int .u8 m0) by simp [go_sem])
  have k4 := (grown_cell gr (p := ⟨w.heap.size + 1, 1, none⟩) (by simp)).trans (show _ = some (.int .u8 m1) by simp [go_sem])
  have k5 := (grown_cell gr (p := ⟨w.heap.size + 1, 2, none⟩) (by simp)).trans (show _ = some (.int .u8 m2) by simp [go_sem])
  have hA : w.heap.size < W.heap.size := Nat.lt_of_lt_of_le (by simp <;> omega) gr.2.2
  have hB : w.heap.size + 1 < W.heap.size := Nat.lt_of_lt_of_le (by simp) gr.2.2
  have GW := Lib.hid (grown_trans (((Grown.refl w).alloc _ _).alloc _ _) gr); clear gr
  go_wp2_with fail
  have hAB : Hid (w.heap.size + 1 = w.heap.size + 1) := rfl
  generalize w.heap.size + 1 = B at *
  generalize w.heap.size = A at *
  have HA := Lib.hid hA; clear hA
  have HB := Lib.hid hB; clear hB
  go_upto_region 3 with fail
  go_cut [5, 6, 7] (fun s5 s6 s7 wx => Hid (∃ B5 B6 B7 : Nat, s5 = ptrB B5 ∧ s6 = ptrB B6 ∧ s7 = ptrB B7 ∧ AtB B5 a1 a2 wx ∧ AtB B6 b1 b2 wx ∧ AtB B7 c1 c2 wx ∧ Grown W wx))
  case first =>
    refine wp_region_noPanic ?_
    refine wp_region_held_drew (S := (fun w' => w'.cell? ⟨A, 0, none⟩ = some (.int .i8 n0) ∧ w'.cell? ⟨A, 1, none⟩ = some (.int .i8 n1) ∧ w'.cell? ⟨A, 2, none⟩ = some (.int .i8 n2) ∧ w'.cell? ⟨B, 0, none⟩ = some (.int .u8 m0) ∧ w'.cell? ⟨B, 1, none⟩ = some (.int .u8 m1) ∧ w'.cell? ⟨B, 2, none⟩ = some (.int .u8 m2))) (by kernel_rfl) ⟨k0, k1, k2, k3, k4, k5⟩ (fun hHeld => ?_)
    refine wpAnyH_take (i := 0) (oi := _) (v := ?_) rfl (by kernel_rfl) (by kernel_rfl) (by kernel_rfl) (fun _ _ _ h => h) (Or.inl ⟨by rfl, ?_⟩) (by assumption) ?_
    rotate_left
    · (intro w hSw; (try dsimp only at hSw); go_simp) <;> with_reducible rfl
    try simp only [Act.put]
    refine wpAnyH_take (i := 1) (oi := _) (v := ?_) rfl (by kernel_rfl) (by kernel_rfl) (by kernel_rfl) (fun _ _ _ h => h) (Or.inl ⟨by rfl, ?_⟩) (by assumption) ?_
    rotate_left
    · (intro w hSw; (try dsimp only at hSw); go_simp) <;> with_reducible rfl
    try simp only [Act.put]
    refine wpAnyH_take (i := 2) (oi := _) (v := ?_) rfl (by kernel_rfl) (by kernel_rfl) (by kernel_rfl) (fun _ _ _ h => h) (Or.inl ⟨by rfl, ?_⟩) (by assumption) ?_
    rotate_left
    · (intro w hSw; (try dsimp only at hSw); go_simp) <;> with_reducible rfl
    try simp only [Act.put]
    refine wpAnyH_take (i := 3) (oi := _) (v := ?_) rfl (by kernel_rfl) (by kernel_rfl) (by kernel_rfl) (fun _ _ _ h => h) (Or.inl ⟨by rfl, ?_⟩) (by assumption) ?_
    rotate_left
    · (intro w hSw; (try dsimp only at hSw); go_simp) <;> with_reducible rfl
    try simp only [Act.put]
    refine wpAnyH_take (i := 5) (oi := _) (v := ?_) rfl (by kernel_rfl) (by kernel_rfl) (by kernel_rfl) (fun _ _ _ h => h) (Or.inl ⟨by rfl, ?_⟩) (by assumption) ?_
    rotate_left
    · (intro w hSw; (try dsimp only at hSw); go_simp) <;> with_reducible rfl
    try simp only [Act.put]
    refine wpAnyH_take (i := 6) (oi := _) (v := ?_) rfl (by kernel_rfl) (by kernel_rfl) (by kernel_rfl) (fun _ _ _ h => h) (Or.inl ⟨by rfl, ?_⟩) (by assumption) ?_
    rotate_left
    · (intro w hSw; (try dsimp only at hSw); go_simp) <;> with_reducible rfl
    try simp only [Act.put]
    refine wpAnyH_take (i := 7) (oi := _) (v := ?_) rfl (by kernel_rfl) (by kernel_rfl) (by kernel_rfl) (fun _ _ _ h => h) (Or.inl ⟨by rfl, ?_⟩) (by assumption) ?_
    rotate_left
    · (intro w hSw; (try dsimp only at hSw); go_simp) <;> with_reducible rfl
    try simp only [Act.put]
    refine wpAnyH_take (i := 8) (oi := _) (v := ?_) rfl (by kernel_rfl) (by kernel_rfl) (by kernel_rfl) (fun _ _ _ h => h) (Or.inl ⟨by rfl, ?_⟩) (by assumption) ?_
    rotate_left
    · (intro w hSw; (try dsimp only at hSw); go_simp) <;> with_reducible rfl
    try simp only [Act.put]
    refine wpAnyH_take (i := 10) (oi := _) (v := ?_) rfl (by kernel_rfl) (by kernel_rfl) (by kernel_rfl) (fun _ _ _ h => h) (Or.inl ⟨by rfl, ?_⟩) (by assumption) ?_
    rotate_left
    · (intro w hSw; (try dsimp only at hSw); go_simp) <;> with_reducible rfl
    try simp only [Act.put]
    refine wpAnyH_take (i := 11) (oi := _) (v := ?_) rfl (by kernel_rfl) (by kernel_rfl) (by kernel_rfl) (fun _ _ _ h => h) (Or.inl ⟨by rfl, ?_⟩) (by assumption) ?_
    rotate_left
    · (intro w hSw; (try dsimp only at hSw); go_simp) <;> with_reducible rfl
    try simp only [Act.put]
    refine wpAnyH_take (i := 12) (oi := _) (v := ?_) rfl (by kernel_rfl) (by kernel_rfl) (by kernel_rfl) (fun _ _ _ h => h) (Or.inl ⟨by rfl, ?_⟩) (by assumption) ?_
    rotate_left
    · (intro w hSw; (try dsimp only at hSw); go_simp) <;> with_reducible rfl
    try simp only [Act.put]
    refine wpAnyH_take (i := 13) (oi := _) (v := ?_) rfl (by kernel_rfl) (by kernel_rfl) (by kernel_rfl) (fun _ _ _ h => h) (Or.inl ⟨by rfl, ?_⟩) (by assumption) ?_
    rotate_left
    · (intro w hSw; (try dsimp only at hSw); go_simp) <;> with_reducible rfl
    try simp only [Act.put]
    show wpAnyH Try.prog .any _ _ _ 9 (Lst 0 0 false false false) _ _
    refine multi3 (d1 := 38) (d2 := 43) (d3 := 48) (e1 := 5) (e2 := 6) (e3 := 7) (x1 := a1) (y1 := a2) (x2 := b1) (y2 := b2) (x3 := c1) (y3 := c2) (T := 23) (W := W.drew) (by kernel_rfl) ?hS (by decide) ?hz ?hc1 ?hc2 ?hc3 ?ha1 ?ha2 ?ha3 ?hs1 ?hs2 ?hs3 ?hend 9 0 0 false false false 0 0 0 _ _ (by omega) (.inl rfl) ⟨rfl, Grown.refl _, nofun, nofun, nofun, nofun, nofun, nofun⟩ (by decide)
    case hS =>
      intro w' g
      exact ⟨(grown_cell g (p := ⟨A, 0, none⟩) HA.out).trans k0, (grown_cell g (p := ⟨A, 1, none⟩) HA.out).trans k1, (grown_cell g (p := ⟨A, 2, none⟩) HA.out).trans k2, (grown_cell g (p := ⟨B, 0, none⟩) HB.out).trans k3, (grown_cell g (p := ⟨B, 1, none⟩) HB.out).trans k4, (grown_cell g (p := ⟨B, 2, none⟩) HB.out).trans k5⟩
    case hz => refine ⟨?_, ?_, ?_, ?_, ?_, ?_⟩ <;> simp
    case hc1 =>
      intro K a w' hev hk
      have q1 : a.eval (.tmp 35) = .int .i8 n0 := by
        rw [hev 35 (by decide) (by decide) (by decide) (by decide) (by decide) (by decide)]
        simp [Act.eval]
      have q2 : a.eval (.tmp 37) = .int .u8 m0 := by
        rw [hev 37 (by decide) (by decide) (by decide) (by decide) (by decide) (by decide)]
        simp [Act.eval]
      clear hev
      simp only [Act.eval, Array.getD_eq_getD_getElem?] at q1 q2
      refine wpOp_step (o := _) rfl (fun K' hK => ?_)
      go_simp
      go_at_call 34
      refine (H1.out _).mono ?_
      rintro e w'' ⟨rfl, gr⟩
      exact hK _ _ (hk _ gr)
    case hc2 =>
      intro K a w' hev hk
      have q1 : a.eval (.tmp 40) = .int .i8 n1 := by
        rw [hev 40 (by decide) (by decide) (by decide) (by decide) (by decide) (by decide)]
        simp [Act.eval]
      have q2 : a.eval (.tmp 42) = .int .u8 m1 := by
        rw [hev 42 (by decide) (by decide) (by decide) (by decide) (by decide) (by decide)]
        simp [Act.eval]
      clear hev
      simp only [Act.eval, Array.getD_eq_getD_getElem?] at q1 q2
      refine wpOp_step (o := _) rfl (fun K' hK => ?_)
      go_simp
      go_at_call 34
      refine (H2.out _).mono ?_
      rintro e w'' ⟨rfl, gr⟩
      exact hK _ _ (hk _ gr)
    case hc3 =>
      intro K a w' hev hk
      have q1 : a.eval (.tmp 45) = .int .i8 n2 := by
        rw [hev 45 (by decide) (by decide) (by decide) (by decide) (by decide) (by decide)]
        simp [Act.eval]
      have q2 : a.eval (.tmp 47) = .int .u8 m2 := by
        rw [hev 47 (by decide) (by decide) (by decide) (by decide) (by decide) (by decide)]
        simp [Act.eval]
      clear hev
      simp only [Act.eval, Array.getD_eq_getD_getElem?] at q1 q2
      refine wpOp_step (o := _) rfl (fun K' hK => ?_)
      go_simp
      go_at_call 34
      refine (H3.out _).mono ?_
      rintro e w'' ⟨rfl, gr⟩
      exact hK _ _ (hk _ gr)
    case ha1 =>
      intro K a w' hk
      refine wpOp_step (o := _) rfl (fun K' hK => ?_)
      go_simp
      exact hK _ _ hk
    case ha2 =>
      intro K a w' hk
      refine wpOp_step (o := _) rfl (fun K' hK => ?_)
      go_simp
      exact hK _ _ hk
    case ha3 =>
      intro K a w' hk
      refine wpOp_step (o := _) rfl (fun K' hK => ?_)
      go_simp
      exact hK _ _ hk
    case hs1 =>
      intro K a w' B' q1 q2 ht hk
      obtain ⟨l, c0, c1, f0, f1⟩ := ht
      unfold ptrB at q1
      unfold pairV at q2
      simp only [Act.eval, Array.getD_eq_getD_getElem?] at q1 q2
      refine wpOp_step (o := _) rfl (fun K' hK => ?_)
      go_simp
      exact hK _ _ hk
    case hs2 =>
      intro K a w' B' q1 q2 ht hk
      obtain ⟨l, c0, c1, f0, f1⟩ := ht
      unfold ptrB at q1
      unfold pairV at q2
      simp only [Act.eval, Array.getD_eq_getD_getElem?] at q1 q2
      refine wpOp_step (o := _) rfl (fun K' hK => ?_)
      go_simp
      exact hK _ _ hk
    case hs3 =>
      intro K a w' B' q1 q2 ht hk
      obtain ⟨l, c0, c1, f0, f1⟩ := ht
      unfold ptrB at q1
      unfold pairV at q2
      simp only [Act.eval, Array.getD_eq_getD_getElem?] at q1 q2
      refine wpOp_step (o := _) rfl (fun K' hK => ?_)
      go_simp
      exact hK _ _ hk
    case hend =>
      intro B1 B2 B3 w' g t1 t2 t3
      refine NoPanic.normal ?_
      unfold actM pif
      simp only [show (1 : Nat) ≤ 3 from by omega, show (2 : Nat) ≤ 3 from by omega, Nat.le_refl, decide_true, if_true, Act.put, ptrB, pairV, List.setIfInBounds_toArray]
      go_wp2_with fail
      go_meet
      exact ⟨B1, B2, B3, rfl, rfl, rfl, t1, t2, t3, g⟩
  obtain ⟨B5, B6, B7, rfl, rfl, rfl, t1, t2, t3, g⟩ := hcut.out
  clear hcut k0 k1 k2 k3 k4 k5 HA HB hAB H1 H2 H3
  have C0 : Hid (Cs [(B5, a1, a2), (B6, b1, b2), (B7, c1, c2)] wc) := ⟨⟨t1.lt, t1.c0, t1.c1⟩, ⟨t2.lt, t2.c0, t2.c1⟩, ⟨t3.lt, t3.c0, t3.c1⟩, trivial⟩
  have G0 := Lib.hid (grown_trans GW.out g)
  clear t1 t2 t3 g GW
  unfold ptrB
  have za := C0.out.1.1
  have xa := C0.out.1.2.1
  have ya := C0.out.1.2.2
  have zb := C0.out.2.1.1
  have xb := C0.out.2.1.2.1
  have yb := C0.out.2.1.2.2
  go_wp2_with fail
  refine (A1.out _).mono ?_; rintro e w1 ⟨rfl, gr⟩
  clear za xa ya zb xb yb
  have C1 := Lib.hid (Cs.go C0.out gr)
  have G1 := Lib.hid (grown_trans G0.out gr)
  clear gr C0 G0
  have zb := C1.out.2.1.1
  have xb := C1.out.2.1.2.1
  have yb := C1.out.2.1.2.2
  have za := C1.out.1.1
  have xa := C1.out.1.2.1
  have ya := C1.out.1.2.2
  go_wp2_with fail
  refine (A2.out _).mono ?_; rintro e w2 ⟨rfl, gr⟩
  clear zb xb yb za xa ya
  have C2 := Lib.hid (Cs.new C1.out gr)
  have G2 := Lib.hid (grown_trans (G1.out.alloc _ _) gr)
  clear gr C1 G1
  have zab := C2.out.1.1
  have xab := C2.out.1.2.1
  have yab := C2.out.1.2.2
  have zc := C2.out.2.2.2.1.1
  have xc := C2.out.2.2.2.1.2.1
  have yc := C2.out.2.2.2.1.2.2
  go_wp2_with fail
  refine (A3.out _).mono ?_; rintro e w3 ⟨rfl, gr⟩
  clear zab xab yab zc xc yc
  have C3 := Lib.hid (Cs.new C2.out gr)
  have G3 := Lib.hid (grown_trans (G2.out.alloc _ _) gr)
  clear gr C2 G2
  have zb := C3.out.2.2.2.1.1
  have xb := C3.out.2.2.2.1.2.1
  have yb := C3.out.2.2.2.1.2.2
  have zc := C3.out.2.2.2.2.1.1
  have xc := C3.out.2.2.2.2.1.2.1
  have yc := C3.out.2.2.2.2.1.2.2
  go_wp2_with fail
  refine (A4.out _).mono ?_; rintro e w4 ⟨rfl, gr⟩
  clear zb xb yb zc xc yc
  have C4 := Lib.hid (Cs.new C3.out gr)
  have G4 := Lib.hid (grown_trans (G3.out.alloc _ _) gr)
  clear gr C3 G3
  have za := C4.out.2.2.2.1.1
  have xa := C4.out.2.2.2.1.2.1
  have ya := C4.out.2.2.2.1.2.2
  go_wp2_with fail
  refine (A5.out _).mono ?_; rintro e w5 ⟨rfl, gr⟩
  clear za xa ya
  have C5 := Lib.hid (Cs.new C4.out gr)
  have G5 := Lib.hid (grown_trans (G4.out.alloc _ _) gr)
  clear gr C4 G4
  have zab := C5.out.2.2.2.1.1
  have xab := C5.out.2.2.2.1.2.1
  have yab := C5.out.2.2.2.1.2.2
  have zb := C5.out.2.2.2.2.2.1.1
  have xb := C5.out.2.2.2.2.2.1.2.1
  have yb := C5.out.2.2.2.2.2.1.2.2
  go_wp2_with fail
  refine (A6.out _).mono ?_; rintro e w6 ⟨rfl, gr⟩
  clear zab xab yab zb xb yb
  have C6 := Lib.hid (Cs.new C5.out gr)
  have G6 := Lib.hid (grown_trans (G5.out.alloc _ _) gr)
  clear gr C5 G5
  have zab := C6.out.2.2.2.2.1.1
  have xab := C6.out.2.2.2.2.1.2.1
  have yab := C6.out.2.2.2.2.1.2.2
  have zba := C6.out.2.2.2.1.1
  have xba := C6.out.2.2.2.1.2.1
  have yba := C6.out.2.2.2.1.2.2
  have zlf := C6.out.2.2.1.1
  have xlf := C6.out.2.2.1.2.1
  have ylf := C6.out.2.2.1.2.2
  have zrt := C6.out.1.1
  have xrt := C6.out.1.2.1
  have yrt := C6.out.1.2.2
  have za := C6.out.2.2.2.2.2.1.1
  have xa := C6.out.2.2.2.2.2.1.2.1
  have ya := C6.out.2.2.2.2.2.1.2.2
  go_wp2_with fail
  refine (A7.out _).mono ?_; rintro e w7 ⟨rfl, gr⟩
  clear zab xab yab zba xba yba zlf xlf ylf zrt xrt yrt za xa ya
  have C7 := Lib.hid (Cs.new C6.out gr)
  have G7 := Lib.hid (grown_trans (G6.out.alloc _ _) gr)
  clear gr C6 G6
  have za := C7.out.2.2.2.2.2.2.1.1
  have xa := C7.out.2.2.2.2.2.2.1.2.1
  have ya := C7.out.2.2.2.2.2.2.1.2.2
  have zb := C7.out.2.2.2.2.2.2.2.1.1
  have xb := C7.out.2.2.2.2.2.2.2.1.2.1
  have yb := C7.out.2.2.2.2.2.2.2.1.2.2
  go_wp2_with fail
  refine (A8.out _).mono ?_; rintro e w8 ⟨rfl, gr⟩
  clear za xa ya zb xb yb
  have C8 := Lib.hid (Cs.go C7.out gr)
  have G8 := Lib.hid (grown_trans G7.out gr)
  clear gr C7 G7
  have zb := C8.out.2.2.2.2.2.2.2.1.1
  have xb := C8.out.2.2.2.2.2.2.2.1.2.1
  have yb := C8.out.2.2.2.2.2.2.2.1.2.2
  have za := C8.out.2.2.2.2.2.2.1.1
  have xa := C8.out.2.2.2.2.2.2.1.2.1
  have ya := C8.out.2.2.2.2.2.2.1.2.2
  go_wp2_with fail
  refine (A9.out _).mono ?_; rintro e w9 ⟨rfl, gr⟩
  clear zb xb yb za xa ya
  have C9 := Lib.hid (Cs.new C8.out gr)
  have G9 := Lib.hid (grown_trans (G8.out.alloc _ _) gr)
  clear gr C8 G8
  have zx := C9.out.1.1
  have xx := C9.out.1.2.1
  have yx := C9.out.1.2.2
  have zc := C9.out.2.2.2.2.2.2.2.2.2.1.1
  have xc := C9.out.2.2.2.2.2.2.2.2.2.1.2.1
  have yc := C9.out.2.2.2.2.2.2.2.2.2.1.2.2
  go_wp2_with fail
  refine (A10.out _).mono ?_; rintro e w10 ⟨rfl, gr⟩
  clear zx xx yx zc xc yc
  have C10 := Lib.hid (Cs.new C9.out gr)
  have G10 := Lib.hid (grown_trans (G9.out.alloc _ _) gr)
  clear gr C9 G9
  have zb := C10.out.2.2.2.2.2.2.2.2.2.1.1
  have xb := C10.out.2.2.2.2.2.2.2.2.2.1.2.1
  have yb := C10.out.2.2.2.2.2.2.2.2.2.1.2.2
  have zc := C10.out.2.2.2.2.2.2.2.2.2.2.1.1
  have xc := C10.out.2.2.2.2.2.2.2.2.2.2.1.2.1
  have yc := C10.out.2.2.2.2.2.2.2.2.2.2.1.2.2
  go_wp2_with fail
  refine (A11.out _).mono ?_; rintro e w11 ⟨rfl, gr⟩
  clear zb xb yb zc xc yc
  have C11 := Lib.hid (Cs.new C10.out gr)
  have G11 := Lib.hid (grown_trans (G10.out.alloc _ _) gr)
  clear gr C10 G10
  have za := C11.out.2.2.2.2.2.2.2.2.2.1.1
  have xa := C11.out.2.2.2.2.2.2.2.2.2.1.2.1
  have ya := C11.out.2.2.2.2.2.2.2.2.2.1.2.2
  go_wp2_with fail
  refine (A12.out _).mono ?_; rintro e w12 ⟨rfl, gr⟩
  clear za xa ya
  have C12 := Lib.hid (Cs.new C11.out gr)
  have G12 := Lib.hid (grown_trans (G11.out.alloc _ _) gr)
  clear gr C11 G11
  have zab := C12.out.2.2.2.2.2.2.2.2.2.1.1
  have xab := C12.out.2.2.2.2.2.2.2.2.2.1.2.1
  have yab := C12.out.2.2.2.2.2.2.2.2.2.1.2.2
  have zc := C12.out.2.2.2.2.2.2.2.2.2.2.2.2.1.1
  have xc := C12.out.2.2.2.2.2.2.2.2.2.2.2.2.1.2.1
  have yc := C12.out.2.2.2.2.2.2.2.2.2.2.2.2.1.2.2
  go_wp2_with fail
  refine (A13.out _).mono ?_; rintro e w13 ⟨rfl, gr⟩
  clear zab xab yab zc xc yc
  have C13 := Lib.hid (Cs.new C12.out gr)
  have G13 := Lib.hid (grown_trans (G12.out.alloc _ _) gr)
  clear gr C12 G12
  have za := C13.out.2.2.2.2.2.2.2.2.2.2.2.1.1
  have xa := C13.out.2.2.2.2.2.2.2.2.2.2.2.1.2.1
  have ya := C13.out.2.2.2.2.2.2.2.2.2.2.2.1.2.2
  have zc := C13.out.2.2.2.2.2.2.2.2.2.2.2.2.2.1.1
  have xc := C13.out.2.2.2.2.2.2.2.2.2.2.2.2.2.1.2.1
  have yc := C13.out.2.2.2.2.2.2.2.2.2.2.2.2.2.1.2.2
  go_wp2_with fail
  refine (A14.out _).mono ?_; rintro e w14 ⟨rfl, gr⟩
  clear za xa ya zc xc yc
  have C14 := Lib.hid (Cs.new C13.out gr)
  have G14 := Lib.hid (grown_trans (G13.out.alloc _ _) gr)
  clear gr C13 G13
  have zz := C14.out.2.2.1.1
  have xz := C14.out.2.2.1.2.1
  have yz := C14.out.2.2.1.2.2
  go_wp2_with fail
  refine (A15.out _).mono ?_; rintro e w15 ⟨rfl, gr⟩
  clear zz xz yz
  have C15 := Lib.hid (Cs.new C14.out gr)
  have G15 := Lib.hid (grown_trans (G14.out.alloc _ _) gr)
  clear gr C14 G14
  have zx := C15.out.2.2.2.2.2.2.1.1
  have xx := C15.out.2.2.2.2.2.2.1.2.1
  have yx := C15.out.2.2.2.2.2.2.1.2.2
  have zy := C15.out.2.2.2.2.2.1.1
  have xy := C15.out.2.2.2.2.2.1.2.1
  have yy := C15.out.2.2.2.2.2.1.2.2
  have zp := C15.out.2.2.2.2.1.1
  have xp := C15.out.2.2.2.2.1.2.1
  have yp := C15.out.2.2.2.2.1.2.2
  have zq := C15.out.2.2.1.1
  have xq := C15.out.2.2.1.2.1
  have yq := C15.out.2.2.1.2.2
  have zal := C15.out.2.1.1
  have xal := C15.out.2.1.2.1
  have yal := C15.out.2.1.2.2
  have zb := C15.out.2.2.2.2.2.2.2.2.2.2.2.2.2.2.1.1
  have xb := C15.out.2.2.2.2.2.2.2.2.2.2.2.2.2.2.1.2.1
  have yb := C15.out.2.2.2.2.2.2.2.2.2.2.2.2.2.2.1.2.2
  go_wp2_with fail
  refine (A16.out _).mono ?_; rintro e w16 ⟨rfl, gr⟩
  clear zx xx yx zy xy yy zp xp yp zq xq yq zal xal yal zb xb yb
  have C16 := Lib.hid (Cs.new C15.out gr)
  have G16 := Lib.hid (grown_trans (G15.out.alloc _ _) gr)
  clear gr C15 G15
  have zb := C16.out.2.2.2.2.2.2.2.2.2.2.2.2.2.2.2.1.1
  have xb := C16.out.2.2.2.2.2.2.2.2.2.2.2.2.2.2.2.1.2.1
  have yb := C16.out.2.2.2.2.2.2.2.2.2.2.2.2.2.2.2.1.2.2
  have za := C16.out.2.2.2.2.2.2.2.2.2.2.2.2.2.2.1.1
  have xa := C16.out.2.2.2.2.2.2.2.2.2.2.2.2.2.2.1.2.1
  have ya := C16.out.2.2.2.2.2.2.2.2.2.2.2.2.2.2.1.2.2
  rcases HD.out with ⟨hb, rfl⟩ | ⟨hb, rfl, rfl, rfl⟩
  all_goals
    go_wp2_with fail
    go_ret
    exact ⟨rfl, G16.out.alloc _ _⟩

theorem own_ratField : ownKnob Try.prog.godebug = none := by kernel_rfl
set_option maxRecDepth 100000 in
theorem ratField_lifted (os : Os) (started : os.Started) (H : Type) (enc : TypeId × Value → H) :
    ReturnsInHanded {} Try.checked os 6 .any (Rows.ratFieldSpec.pre6 enc Try.prog Try.f6 Rows.ratFieldRow.domain false) (Rows.ratFieldSpec.post enc Try.prog Try.f6 false true false false) := by
  refine returnsInHanded_of_change (C := Try.checked) own_ratField started (by kernel_rfl) Try.func6
    (ChangeSpec.witness6 (enc := enc) (C := Try.checked) false ⟨#[], #[.agg #[.int .i8 0, .int .i8 0, .int .i8 0], .agg #[.int .u8 0, .int .u8 0, .int .u8 0]], []⟩ 8 (by kernel_rfl) (by kernel_rfl) (by kernel_rfl) (by kernel_rfl)) ?_
  intro W base args ds gs before hval0 hW _ _
  have hval : ∀ (j : Nat) t v, Try.f6.params[j]? = some t → args[j]? = some v → Value.okWide Try.prog W .any base t v := hval0
  have hW' := hW
  obtain ⟨p, q, hA0, hV, rfl, hfz, hnd⟩ := hW
  have hA : DataW.TrodAll enc Try.prog W 0 (fun _ => true) true Try.f6.params.toList args.toList ds p := hA0
  rw [Try.params6] at hA hval
  obtain ⟨v0, v1, d0, d1, p0, p1, rfl, rfl, rfl, h0, h1⟩ := trodAll_two hA
  obtain ⟨rfl, rfl⟩ := trodVars_none hV
  obtain ⟨zs, hz, rfl, rfl, rfl, wz⟩ := open_arr Try.underlying42 Try.underlying41 (by kernel_rfl) (by kernel_rfl) (hval 0 42 v0 rfl rfl) h0
  obtain ⟨us, hu, rfl, rfl, rfl, wu⟩ := open_arr Try.underlying43 Try.underlying5 (by kernel_rfl) (by kernel_rfl) (hval 1 43 v1 rfl rfl) h1
  obtain ⟨n0, n1, n2, rfl⟩ := list3 hz
  obtain ⟨m0, m1, m2, rfl⟩ := list3 hu
  clear hA0 hval0
  simp only [List.append_nil] at hW'
  refine (ratField_any n0 n1 n2 m0 m1 m2 W (by have := bounds_i8 (wz n0 (by simp)); exact this) (by have := bounds_i8 (wz n1 (by simp)); exact this) (by have := bounds_i8 (wz n2 (by simp)); exact this) (by have := bounds_u8 (wu m0 (by simp)); exact this) (by have := bounds_u8 (wu m1 (by simp)); exact this) (by have := bounds_u8 (wu m2 (by simp)); exact this)).mono fun e W' ⟨he, hg⟩ => ?_
  subst he
  exact ⟨_, rfl, post_of_same (pa := []) (pv := []) hW' (fun _ _ _ => trodAll_mk1 (shut_bool Try.underlying4 _)) (fun sp _ => trodAll_mk2 (shut_arr Try.underlying42 Try.underlying41 (by kernel_rfl) (by kernel_rfl) hz wz) (shut_arr Try.underlying43 Try.underlying5 (by kernel_rfl) (by kernel_rfl) hu wu)) (fun _ _ => rfl) rfl (hg.frame _) hg.2.1 (ok_one (by kernel_rfl) rfl (okWide_bool_mk Try.underlying4 _))⟩

/-- The given statement. -/
theorem ratField_holds : Rows.RatFieldSaid :=
  OpenClaim.holds_of_wide 6 Try.f6 rfl rfl rfl rfl rfl rfl rfl ⟨rfl, rfl, rfl, rfl, rfl⟩ rfl rfl rfl rfl rfl (by kernel_rfl) Try.func6 (by kernel_rfl)
    (of_decide_eq_true (by kernel_rfl)) (by unfold Func.isWrapper; first | (rw [if_pos (by decide +kernel)]; kernel_rfl) | (rw [if_neg (by decide +kernel)]; exact ⟨rfl, rfl⟩))
    (fun os started H enc _ => ratField_lifted os started H enc)
#print axioms ratField_holds

end Go.Proofs.Ytgbjooecomgfoaa
