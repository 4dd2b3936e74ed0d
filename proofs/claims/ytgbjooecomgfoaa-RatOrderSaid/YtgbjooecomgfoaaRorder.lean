/-
  RatOrder returns true for every input: Cmp is a total order that agrees with differences; Floor and Ceil enclose a fraction. No condition.
-/
import Derived.Test.YtgbjooecomgfoaaRt
import Derived.Test.YtgbjooecomgfoaaMul
import Derived.Deep.DeepCutAuto
import Derived.Deep.CutBlock
import Derived.Test.YtgbjooecomgfoaaRfa
import Derived.Test.YtgbjooecomgfoaaRt2
namespace Go.Proofs.Ytgbjooecomgfoaa
open Go.ChangeShapes Go.WideShapes Go.ChangeAt Go.WideMaps Go.WideElems Go.RowKit

/-- How the results of Cmp hang together. -/
structure Ord3 (a1 a2 b1 b2 df v1 v2 v3 : Int) : Prop where
  r1 : v1 = -1 ∨ v1 = 0 ∨ v1 = 1
  eq : v1 = 0 → a1 = b1 ∧ a2 = b2
  ne : v1 ≠ 0 → a1 = b1 → ¬ a2 = b2
  lo : v1 = -1 → df < 0
  hi : v1 = 1 → 0 < df
  tr : v1 ≤ 0 → v2 ≤ 0 → v3 ≤ 0
theorem Ord3.of (a b c : Rat) : Ord3 a.num (a.den : Int) b.num (b.den : Int) (a - b).num (Fr.cmpV a b) (Fr.cmpV b c) (Fr.cmpV a c) := by
  refine ⟨?_, fun h => ?_, fun h e1 e2 => ?_, fun h => ?_, fun h => ?_, Fr.cmpV_trans a b c⟩
  · rw [← cmpI_rat]; exact cmpI_ways _ _ _ _
  · have := (Fr.cmpV_zero a b).1 h; subst this; exact ⟨rfl, rfl⟩
  · exact h ((Fr.cmpV_zero a b).2 (Fr.rat_ext e1 e2))
  · exact (Fr.sub_num_neg a b).2 ((Fr.cmpV_neg_iff a b).1 (by omega))
  · exact (Fr.sub_num_pos a b).2 ((Fr.cmpV_pos_iff a b).1 (by omega))
/-- Rounding of a small fraction. -/
structure Rnd (a1 a2 f g fa ga : Int) : Prop where
  e1 : f * a2 = fa
  e2 : g * a2 = ga
  l1 : fa ≤ a1
  l2 : a1 ≤ ga
  d1 : g - f ≤ 1
  q : g = f ↔ a2 = 1
  b1 : -1000 ≤ f ∧ f ≤ 1000
  b2 : -1000 ≤ g ∧ g ≤ 1000
  b3 : -1000 ≤ fa ∧ fa ≤ 1000
  b4 : -1000 ≤ ga ∧ ga ≤ 1000
theorem Rnd.of (a : Rat) (h : Fr.bnd a 128 30) : Rnd a.num (a.den : Int) (a.num / (a.den : Int)) (cdv a.num (a.den : Int)) (a.num / (a.den : Int) * (a.den : Int)) (cdv a.num (a.den : Int) * (a.den : Int)) := by
  have hd := a.den_pos
  obtain ⟨h1, h2⟩ := h
  obtain ⟨u1, u2, _⟩ := cdv_eq a.num (a.den : Int) (by omega) (by omega)
  have hc : cdv a.num (a.den : Int) = Fr.ceilV a := by
    unfold Fr.ceilV
    split
    · rename_i h; exact (u1 h).symm
    · rename_i h; exact (u2 h).symm
  obtain ⟨c1, c2, c3⟩ := Fr.ceil_facts a
  obtain ⟨f1, f2⟩ := Fr.floor_facts a.num (a.den : Int) (by omega)
  have hb := div_bd a.num (a.den : Int) (by omega) 128 (by omega) (by omega) (by omega)
  rw [hc]
  have hge : a.num / (a.den : Int) ≤ Fr.ceilV a := by unfold Fr.ceilV; split <;> omega
  have hf2 : a.num / (a.den : Int) * (a.den : Int) + (a.den : Int) = (a.num / (a.den : Int) + 1) * (a.den : Int) := by rw [Int.add_mul, Int.one_mul]
  have hcm : Fr.ceilV a * (a.den : Int) ≤ a.num / (a.den : Int) * (a.den : Int) + (a.den : Int) := by
    rw [hf2]; exact Int.mul_le_mul_of_nonneg_right (by omega) (by omega)
  refine ⟨rfl, rfl, f1, c1, c2, ⟨fun e => by have := c3.1 e; omega, fun e => c3.2 (by omega)⟩, ⟨by omega, by omega⟩, ⟨by omega, by omega⟩, ⟨by omega, by omega⟩, ⟨by omega, by omega⟩⟩

set_option maxRecDepth 100000 in
set_option maxHeartbeats 8000000 in
theorem ratOrder_any (n0 n1 n2 m0 m1 m2 : Int) (w : World) (p0 : -128 ≤ n0 ∧ n0 ≤ 127) (p1 : -128 ≤ n1 ∧ n1 ≤ 127) (p2 : -128 ≤ n2 ∧ n2 ≤ 127) (q0 : 0 ≤ m0 ∧ m0 ≤ 255) (q1 : 0 ≤ m1 ∧ m1 ≤ 255) (q2 : 0 ≤ m2 ∧ m2 ≤ 255) :
    Calls Try.prog 7 #[.agg #[.int .i8 n0, .int .i8 n1, .int .i8 n2], .agg #[.int .u8 m0, .int .u8 m1, .int .u8 m2]] w fun e w' => e = .returned (.bool true) ∧ Grown w w' := by
  obtain ⟨a, va, ba⟩ := small_rat n0 m0 p0.1 p0.2
  obtain ⟨b, vb, bb⟩ := small_rat n1 m1 p1.1 p1.2
  obtain ⟨c, vc, bc⟩ := small_rat n2 m2 p2.1 p2.2
  have H1 := Lib.hid (fun w => small_v n0 m0 a.num (a.den : Int) 0 w p0.1 p0.2 q0.1 q0.2 va)
  have H2 := Lib.hid (fun w => small_v n1 m1 b.num (b.den : Int) 0 w p1.1 p1.2 q1.1 q1.2 vb)
  have H3 := Lib.hid (fun w => small_v n2 m2 c.num (c.den : Int) 0 w p2.1 p2.2 q2.1 q2.2 vc)
  obtain ⟨la, lb, lc, lab, labc, lbc, lx, lp, lz, lal, lac⟩ := field_facts a b c ba bb bc
  have HO := Lib.hid (Ord3.of a b c)
  have HR := Lib.hid (Rnd.of a ba)
  have lsub : Fr.lim (a - b) := Fr.bnd_lim (Fr.bnd_sub ba bb) (by decide) (by decide)
  have ra := Fr.right_of la
  have rs := Fr.cmpV_swap a b
  clear va vb vc p0 p1 p2 q0 q1 q2
  have A1 := Lib.hid (fun w => cmp_v a.num (a.den : Int) b.num (b.den : Int) (Fr.cmpV a b) 0 w (cmpR_rat a b la lb))
  have A2 := Lib.hid (fun w => cmp_v b.num (b.den : Int) a.num (a.den : Int) (Fr.cmpV b a) 0 w (cmpR_rat b a lb la))
  have A3 := Lib.hid (fun w => cmp_v b.num (b.den : Int) c.num (c.den : Int) (Fr.cmpV b c) 0 w (cmpR_rat b c lb lc))
  have A4 := Lib.hid (fun w => cmp_v a.num (a.den : Int) c.num (c.den : Int) (Fr.cmpV a c) 0 w (cmpR_rat a c la lc))
  rw [rs] at A2
  have A5 := Lib.hid (fun w => sub_v a.num (a.den : Int) b.num (b.den : Int) (a - b).num ((a - b).den : Int) 0 w (subR a b la lb lsub))
  have A6 := Lib.hid (fun w => floor_v a.num (a.den : Int) (a.num / (a.den : Int)) 0 w (flV_yes ra))
  have A7 := Lib.hid (fun w => ceil_v a.num (a.den : Int) (cdv a.num (a.den : Int)) 0 w (ceV_yes ra))
  clear ba bb bc la lb lc lab labc lbc lx lp lz lal lac lsub ra rs
  generalize a.num / (a.den : Int) * (a.den : Int) = fa at *
  generalize cdv a.num (a.den : Int) * (a.den : Int) = ga at *
  generalize a.num / (a.den : Int) = f at *
  generalize cdv a.num (a.den : Int) = g at *
  generalize Fr.cmpV a b = v1 at *
  generalize Fr.cmpV b c = v2 at *
  generalize Fr.cmpV a c = v3 at *
  generalize a.num = a1 at *
  generalize (a.den : Int) = a2 at *
  generalize b.num = b1 at *
  generalize (b.den : Int) = b2 at *
  generalize c.num = c1 at *
  generalize (c.den : Int) = c2 at *
  generalize (a - b).num = df1 at *
  generalize ((a - b).den : Int) = df2 at *
  go_enter Try.func7, Try.ntmps7
  go_wp2_with fail
  refine (works_any _).mono ?_; rintro e W ⟨rfl, gr⟩
  have k0 := (grown_cell gr (p := ⟨w.heap.size, 0, none⟩) (by simp <;> omega)).trans (show _ = some (.int .i8 n0) by simp [go_sem])
  have k1 := (grown_cell gr (p := ⟨w.heap.size, 1, none⟩) (by simp <;> omega)).trans (show _ = some (.int .i8 n1) by simp [go_sem])
  have k2 := (grown_cell gr (p := ⟨w.heap.size, 2, none⟩) (by simp <;> omega)).trans (show _ = some (.int .i8 n2) by simp [go_sem])
  have k3 := (grown_cell gr (p := ⟨w.heap.size + 1, 0, none⟩) (by simp)).trans (show _ = some (.int .u8 m0) by simp [go_sem])
  have k4 := (grown_cell gr (p := ⟨w.heap.size + 1, 1, none⟩) (by simp)).trans (show _ = some (.int .u8 m1) by simp [go_sem])
  have k5 := (grown_cell gr (p := ⟨w.heap.size + 1, 2, none⟩) (by simp)).trans (show _ = some (.int .u8 m2) by simp [go_sem])
  have hA : w.heap.size < W.heap.size := Nat.lt_of_lt_of_le (by simp <;> omega) gr.2.2
  have hB : w.heap.size + 1 < W.heap.size := Nat.lt_of_lt_of_le (by simp) gr.2.2
  have GW := Lib.hid (grown_trans (((Grown.refl w).alloc _ _).alloc _ _) gr); clear gr
  go_wp2_with fail
  have hAB : Hid (w.heap.size + 1 = w.heap.size + 1) := rfl
  generalize w.heap.size + 1 = B at *
  generalize w.heap.size = A at *
  have HA := Lib.hid hA; clear hA
  have HB := Lib.hid hB; clear hB
  go_upto_region 3 with fail
  go_cut [5, 6, 7] (fun s5 s6 s7 wx => Hid (∃ B5 B6 B7 : Nat, s5 = ptrB B5 ∧ s6 = ptrB B6 ∧ s7 = ptrB B7 ∧ AtB B5 a1 a2 wx ∧ AtB B6 b1 b2 wx ∧ AtB B7 c1 c2 wx ∧ Grown W wx))
  case first =>
    refine wp_region_noPanic ?_
    refine wp_region_held_drew (S := (fun w' => w'.cell? ⟨A, 0, none⟩ = some (.int .i8 n0) ∧ w'.cell? ⟨A, 1, none⟩ = some (.int .i8 n1) ∧ w'.cell? ⟨A, 2, none⟩ = some (.int .i8 n2) ∧ w'.cell? ⟨B, 0, none⟩ = some (.int .u8 m0) ∧ w'.cell? ⟨B, 1, none⟩ = some (.int .u8 m1) ∧ w'.cell? ⟨B, 2, none⟩ = some (.int .u8 m2))) (by kernel_rfl) ⟨k0, k1, k2, k3, k4, k5⟩ (fun hHeld => ?_)
    refine wpAnyH_take (i := 0) (oi := _) (v := ?_) rfl (by kernel_rfl) (by kernel_rfl) (by kernel_rfl) (fun _ _ _ h => h) (Or.inl ⟨by rfl, ?_⟩) (by assumption) ?_
    rotate_left
    · (intro w hSw; (try dsimp only at hSw); go_simp) <;> with_reducible rfl
    try simp only [Act.put]
    refine wpAnyH_take (i := 1) (oi := _) (v := ?_) rfl (by kernel_rfl) (by kernel_rfl) (by kernel_rfl) (fun _ _ _ h => h) (Or.inl ⟨by rfl, ?_⟩) (by assumption) ?_
    rotate_left
    · (intro w hSw; (try dsimp only at hSw); go_simp) <;> with_reducible rfl
    try simp only [Act.put]
    refine wpAnyH_take (i := 2) (oi := _) (v := ?_) rfl (by kernel_rfl) (by kernel_rfl) (by kernel_rfl) (fun _ _ _ h => h) (Or.inl ⟨by rfl, ?_⟩) (by assumption) ?_
    rotate_left
    · (intro w hSw; (try dsimp only at hSw); go_simp) <;> with_reducible rfl
    try simp only [Act.put]
    refine wpAnyH_take (i := 3) (oi := _) (v := ?_) rfl (by kernel_rfl) (by kernel_rfl) (by kernel_rfl) (fun _ _ _ h => h) (Or.inl ⟨by rfl, ?_⟩) (by assumption) ?_
    rotate_left
    · (intro w hSw; (try dsimp only at hSw); go_simp) <;> with_reducible rfl
    try simp only [Act.put]
    refine wpAnyH_take (i := 5) (oi := _) (v := ?_) rfl (by kernel_rfl) (by kernel_rfl) (by kernel_rfl) (fun _ _ _ h => h) (Or.inl ⟨by rfl, ?_⟩) (by assumption) ?_
    rotate_left
    · (intro w hSw; (try dsimp only at hSw); go_simp) <;> with_reducible rfl
    try simp only [Act.put]
    refine wpAnyH_take (i := 6) (oi := _) (v := ?_) rfl (by kernel_rfl) (by kernel_rfl) (by kernel_rfl) (fun _ _ _ h => h) (Or.inl ⟨by rfl, ?_⟩) (by assumption) ?_
    rotate_left
    · (intro w hSw; (try dsimp only at hSw); go_simp) <;> with_reducible rfl
    try simp only [Act.put]
    refine wpAnyH_take (i := 7) (oi := _) (v := ?_) rfl (by kernel_rfl) (by kernel_rfl) (by kernel_rfl) (fun _ _ _ h => h) (Or.inl ⟨by rfl, ?_⟩) (by assumption) ?_
    rotate_left
    · (intro w hSw; (try dsimp only at hSw); go_simp) <;> with_reducible rfl
    try simp only [Act.put]
    refine wpAnyH_take (i := 8) (oi := _) (v := ?_) rfl (by kernel_rfl) (by kernel_rfl) (by kernel_rfl) (fun _ _ _ h => h) (Or.inl ⟨by rfl, ?_⟩) (by assumption) ?_
    rotate_left
    · (intro w hSw; (try dsimp only at hSw); go_simp) <;> with_reducible rfl
    try simp only [Act.put]
    refine wpAnyH_take (i := 10) (oi := _) (v := ?_) rfl (by kernel_rfl) (by kernel_rfl) (by kernel_rfl) (fun _ _ _ h => h) (Or.inl ⟨by rfl, ?_⟩) (by assumption) ?_
    rotate_left
    · (intro w hSw; (try dsimp only at hSw); go_simp) <;> with_reducible rfl
    try simp only [Act.put]
    refine wpAnyH_take (i := 11) (oi := _) (v := ?_) rfl (by kernel_rfl) (by kernel_rfl) (by kernel_rfl) (fun _ _ _ h => h) (Or.inl ⟨by rfl, ?_⟩) (by assumption) ?_
    rotate_left
    · (intro w hSw; (try dsimp only at hSw); go_simp) <;> with_reducible rfl
    try simp only [Act.put]
    refine wpAnyH_take (i := 12) (oi := _) (v := ?_) rfl (by kernel_rfl) (by kernel_rfl) (by kernel_rfl) (fun _ _ _ h => h) (Or.inl ⟨by rfl, ?_⟩) (by assumption) ?_
    rotate_left
    · (intro w hSw; (try dsimp only at hSw); go_simp) <;> with_reducible rfl
    try simp only [Act.put]
    refine wpAnyH_take (i := 13) (oi := _) (v := ?_) rfl (by kernel_rfl) (by kernel_rfl) (by kernel_rfl) (fun _ _ _ h => h) (Or.inl ⟨by rfl, ?_⟩) (by assumption) ?_
    rotate_left
    · (intro w hSw; (try dsimp only at hSw); go_simp) <;> with_reducible rfl
    try simp only [Act.put]
    show wpAnyH Try.prog .any _ _ _ 9 (Lst 0 0 false false false) _ _
    refine multi3 (d1 := 28) (d2 := 33) (d3 := 38) (e1 := 5) (e2 := 6) (e3 := 7) (x1 := a1) (y1 := a2) (x2 := b1) (y2 := b2) (x3 := c1) (y3 := c2) (T := 23) (W := W.drew) (by kernel_rfl) ?hS (by decide) ?hz ?hc1 ?hc2 ?hc3 ?ha1 ?ha2 ?ha3 ?hs1 ?hs2 ?hs3 ?hend 9 0 0 false false false 0 0 0 _ _ (by omega) (.inl rfl) ⟨rfl, Grown.refl _, nofun, nofun, nofun, nofun, nofun, nofun⟩ (by decide)
    case hS =>
      intro w' g
      exact ⟨(grown_cell g (p := ⟨A, 0, none⟩) HA.out).trans k0, (grown_cell g (p := ⟨A, 1, none⟩) HA.out).trans k1, (grown_cell g (p := ⟨A, 2, none⟩) HA.out).trans k2, (grown_cell g (p := ⟨B, 0, none⟩) HB.out).trans k3, (grown_cell g (p := ⟨B, 1, none⟩) HB.out).trans k4, (grown_cell g (p := ⟨B, 2, none⟩) HB.out).trans k5⟩
    case hz => refine ⟨?_, ?_, ?_, ?_, ?_, ?_⟩ <;> simp
    case hc1 =>
      intro K a w' hev hk
      have q1 : a.eval (.tmp 25) = .int .i8 n0 := by
        rw [hev 25 (by decide) (by decide) (by decide) (by decide) (by decide) (by decide)]
        simp [Act.eval]
      have q2 : a.eval (.tmp 27) = .int .u8 m0 := by
        rw [hev 27 (by decide) (by decide) (by decide) (by decide) (by decide) (by decide)]
        simp [Act.eval]
      clear hev
      simp only [Act.eval, Array.getD_eq_getD_getElem?] at q1 q2
      refine wpOp_step (o := _) rfl (fun K' hK => ?_)
      go_simp
      go_at_call 34
      refine (H1.out _).mono ?_
      rintro e w'' ⟨rfl, gr⟩
      exact hK _ _ (hk _ gr)
    case hc2 =>
      intro K a w' hev hk
      have q1 : a.eval (.tmp 30) = .int .i8 n1 := by
        rw [hev 30 (by decide) (by decide) (by decide) (by decide) (by decide) (by decide)]
        simp [Act.eval]
      have q2 : a.eval (.tmp 32) = .int .u8 m1 := by
        rw [hev 32 (by decide) (by decide) (by decide) (by decide) (by decide) (by decide)]
        simp [Act.eval]
      clear hev
      simp only [Act.eval, Array.getD_eq_getD_getElem?] at q1 q2
      refine wpOp_step (o := _) rfl (fun K' hK => ?_)
      go_simp
      go_at_call 34
      refine (H2.out _).mono ?_
      rintro e w'' ⟨rfl, gr⟩
      exact hK _ _ (hk _ gr)
    case hc3 =>
      intro K a w' hev hk
      have q1 : a.eval (.tmp 35) = .int .i8 n2 := by
        rw [hev 35 (by decide) (by decide) (by decide) (by decide) (by decide) (by decide)]
        simp [Act.eval]
      have q2 : a.eval (.tmp 37) = .int .u8 m2 := by
        rw [hev 37 (by decide) (by decide) (by decide) (by decide) (by decide) (by decide)]
        simp [Act.eval]
      clear hev
      simp only [Act.eval, Array.getD_eq_getD_getElem?] at q1 q2
      refine wpOp_step (o := _) rfl (fun K' hK => ?_)
      go_simp
      go_at_call 34
      refine (H3.out _).mono ?_
      rintro e w'' ⟨rfl, gr⟩
      exact hK _ _ (hk _ gr)
    case ha1 =>
      intro K a w' hk
      refine wpOp_step (o := _) rfl (fun K' hK => ?_)
      go_simp
      exact hK _ _ hk
    case ha2 =>
      intro K a w' hk
      refine wpOp_step (o := _) rfl (fun K' hK => ?_)
      go_simp
      exact hK _ _ hk
    case ha3 =>
      intro K a w' hk
      refine wpOp_step (o := _) rfl (fun K' hK => ?_)
      go_simp
      exact hK _ _ hk
    case hs1 =>
      intro K a w' B' q1 q2 ht hk
      obtain ⟨l, c0, c1, f0, f1⟩ := ht
      unfold ptrB at q1
      unfold pairV at q2
      simp only [Act.eval, Array.getD_eq_getD_getElem?] at q1 q2
      refine wpOp_step (o := _) rfl (fun K' hK => ?_)
      go_simp
      exact hK _ _ hk
    case hs2 =>
      intro K a w' B' q1 q2 ht hk
      obtain ⟨l, c0, c1, f0, f1⟩ := ht
      unfold ptrB at q1
      unfold pairV at q2
      simp only [Act.eval, Array.getD_eq_getD_getElem?] at q1 q2
      refine wpOp_step (o := _) rfl (fun K' hK => ?_)
      go_simp
      exact hK _ _ hk
    case hs3 =>
      intro K a w' B' q1 q2 ht hk
      obtain ⟨l, c0, c1, f0, f1⟩ := ht
      unfold ptrB at q1
      unfold pairV at q2
      simp only [Act.eval, Array.getD_eq_getD_getElem?] at q1 q2
      refine wpOp_step (o := _) rfl (fun K' hK => ?_)
      go_simp
      exact hK _ _ hk
    case hend =>
      intro B1 B2 B3 w' g t1 t2 t3
      refine NoPanic.normal ?_
      unfold actM pif
      simp only [show (1 : Nat) ≤ 3 from by omega, show (2 : Nat) ≤ 3 from by omega, Nat.le_refl, decide_true, if_true, Act.put, ptrB, pairV, List.setIfInBounds_toArray]
      go_wp2_with fail
      go_meet
      exact ⟨B1, B2, B3, rfl, rfl, rfl, t1, t2, t3, g⟩
  obtain ⟨B5, B6, B7, rfl, rfl, rfl, t1, t2, t3, g⟩ := hcut.out
  clear hcut k0 k1 k2 k3 k4 k5 HA HB hAB H1 H2 H3
  have C0 : Hid (Cs [(B5, a1, a2), (B6, b1, b2), (B7, c1, c2)] wc) := ⟨⟨t1.lt, t1.c0, t1.c1⟩, ⟨t2.lt, t2.c0, t2.c1⟩, ⟨t3.lt, t3.c0, t3.c1⟩, trivial⟩
  have G0 := Lib.hid (grown_trans GW.out g)
  clear t1 t2 t3 g GW
  unfold ptrB
  have za := C0.out.1.1
  have xa := C0.out.1.2.1
  have ya := C0.out.1.2.2
  have zb := C0.out.2.1.1
  have xb := C0.out.2.1.2.1
  have yb := C0.out.2.1.2.2
  go_wp2_with fail
  refine (A1.out _).mono ?_; rintro e w1 ⟨rfl, gr⟩
  clear za xa ya zb xb yb
  have C1 := Lib.hid (Cs.go C0.out gr)
  have G1 := Lib.hid (grown_trans G0.out gr)
  clear gr C0 G0
  have zb := C1.out.2.1.1
  have xb := C1.out.2.1.2.1
  have yb := C1.out.2.1.2.2
  have za := C1.out.1.1
  have xa := C1.out.1.2.1
  have ya := C1.out.1.2.2
  go_wp2_with fail
  refine (A2.out _).mono ?_; rintro e w2 ⟨rfl, gr⟩
  clear zb xb yb za xa ya
  have C2 := Lib.hid (Cs.go C1.out gr)
  have G2 := Lib.hid (grown_trans G1.out gr)
  clear gr C1 G1
  have zb := C2.out.2.1.1
  have xb := C2.out.2.1.2.1
  have yb := C2.out.2.1.2.2
  have zc := C2.out.2.2.1.1
  have xc := C2.out.2.2.1.2.1
  have yc := C2.out.2.2.1.2.2
  go_wp2_with fail
  refine (A3.out _).mono ?_; rintro e w3 ⟨rfl, gr⟩
  clear zb xb yb zc xc yc
  have C3 := Lib.hid (Cs.go C2.out gr)
  have G3 := Lib.hid (grown_trans G2.out gr)
  clear gr C2 G2
  have za := C3.out.1.1
  have xa := C3.out.1.2.1
  have ya := C3.out.1.2.2
  have zc := C3.out.2.2.1.1
  have xc := C3.out.2.2.1.2.1
  have yc := C3.out.2.2.1.2.2
  go_wp2_with fail
  refine (A4.out _).mono ?_; rintro e w4 ⟨rfl, gr⟩
  clear za xa ya zc xc yc
  have C4 := Lib.hid (Cs.go C3.out gr)
  have G4 := Lib.hid (grown_trans G3.out gr)
  clear gr C3 G3
  have za := C4.out.1.1
  have xa := C4.out.1.2.1
  have ya := C4.out.1.2.2
  have zb := C4.out.2.1.1
  have xb := C4.out.2.1.2.1
  have yb := C4.out.2.1.2.2
  go_wp2_with fail
  refine (A5.out _).mono ?_; rintro e w5 ⟨rfl, gr⟩
  clear za xa ya zb xb yb
  have C5 := Lib.hid (Cs.go C4.out gr)
  have G5 := Lib.hid (grown_trans G4.out gr)
  clear gr C4 G4
  have za := C5.out.1.1
  have xa := C5.out.1.2.1
  have ya := C5.out.1.2.2
  go_wp2_with fail
  refine (A6.out _).mono ?_; rintro e w6 ⟨rfl, gr⟩
  clear za xa ya
  have C6 := Lib.hid (Cs.new C5.out gr)
  have G6 := Lib.hid (grown_trans (G5.out.alloc _ _) gr)
  clear gr C5 G5
  have za := C6.out.2.1.1
  have xa := C6.out.2.1.2.1
  have ya := C6.out.2.1.2.2
  go_wp2_with fail
  refine (A7.out _).mono ?_; rintro e w7 ⟨rfl, gr⟩
  clear za xa ya
  have C7 := Lib.hid (Cs.go C6.out gr)
  have G7 := Lib.hid (grown_trans G6.out gr)
  clear gr C6 G6
  have za := C7.out.2.1.1
  have xa := C7.out.2.1.2.1
  have ya := C7.out.2.1.2.2
  have zb := C7.out.2.2.1.1
  have xb := C7.out.2.2.1.2.1
  have yb := C7.out.2.2.1.2.2
  have zdf := C7.out.1.1
  have xdf := C7.out.1.2.1
  have ydf := C7.out.1.2.2
  obtain ⟨o1, o2, o3, o4, o5, o6⟩ := HO.out
  obtain ⟨m1, m2, s1, s2, s3, s4, ⟨g1, g1'⟩, ⟨g2, g2'⟩, ⟨g3, g3'⟩, g4, g4'⟩ := HR.out
  clear HO HR A1 A2 A3 A4 A5 A6 A7
  have T4 := Lib.hid s4; clear s4
  by_cases k2 : a2 = 1
  · obtain rfl : g = f := T4.out.2 k2
    clear T4
    subst k2
    rw [Int.mul_one] at m1 m2
    subst m1 m2
    clear g2 g2' g3 g3' g4 g4'
    rcases o1 with rfl | rfl | rfl
    · have o3' := o3 (by decide)
      have o45 := o4 rfl
      clear o2 o3 o4 o5
      have o6' := o6 (by decide); clear o6
      by_cases e1 : a1 = b1
      · have e2 := o3' e1
        clear o3'
        obtain rfl : a1 = b1 := e1
        by_cases h2 : v2 ≤ 0
        · have h3 := o6' h2
          clear o6'
          go_wp2_with fail
          go_ret
          exact ⟨rfl, G7.out⟩
        · clear o6'
          go_wp2_with fail
          go_ret
          exact ⟨rfl, G7.out⟩
      · clear o3'
        by_cases h2 : v2 ≤ 0
        · have h3 := o6' h2
          clear o6'
          go_wp2_with fail
          go_ret
          exact ⟨rfl, G7.out⟩
        · clear o6'
          go_wp2_with fail
          go_ret
          exact ⟨rfl, G7.out⟩
    · obtain ⟨e1, e2⟩ := o2 rfl
      clear o2 o3 o4 o5
      subst e1 e2
      have o6' := o6 (by decide); clear o6
      by_cases h2 : v2 ≤ 0
      · have h3 := o6' h2
        clear o6'
        go_wp2_with fail
        go_ret
        exact ⟨rfl, G7.out⟩
      · clear o6'
        go_wp2_with fail
        go_ret
        exact ⟨rfl, G7.out⟩
    · have o3' := o3 (by decide)
      have o45 := o5 rfl
      clear o2 o3 o4 o5
      clear o6
      by_cases e1 : a1 = b1
      · have e2 := o3' e1
        clear o3'
        obtain rfl : a1 = b1 := e1
        go_wp2_with fail
        go_ret
        exact ⟨rfl, G7.out⟩
      · clear o3'
        go_wp2_with fail
        go_ret
        exact ⟨rfl, G7.out⟩
  · have hgf : ¬ g = f := fun h => k2 (T4.out.1 h)
    have hgb : (g == f) = false := by simpa using hgf
    have k2b : (a2 == 1) = false := by simpa using k2
    clear T4
    rcases o1 with rfl | rfl | rfl
    · have o3' := o3 (by decide)
      have o45 := o4 rfl
      clear o2 o3 o4 o5
      have o6' := o6 (by decide); clear o6
      by_cases e1 : a1 = b1
      · have e2 := o3' e1
        clear o3'
        obtain rfl : a1 = b1 := e1
        by_cases h2 : v2 ≤ 0
        · have h3 := o6' h2
          clear o6'
          go_wp2_with fail
          go_ret
          exact ⟨rfl, G7.out⟩
        · clear o6'
          go_wp2_with fail
          go_ret
          exact ⟨rfl, G7.out⟩
      · clear o3'
        by_cases h2 : v2 ≤ 0
        · have h3 := o6' h2
          clear o6'
          go_wp2_with fail
          go_ret
          exact ⟨rfl, G7.out⟩
        · clear o6'
          go_wp2_with fail
          go_ret
          exact ⟨rfl, G7.out⟩
    · obtain ⟨e1, e2⟩ := o2 rfl
      clear o2 o3 o4 o5
      subst e1 e2
      have o6' := o6 (by decide); clear o6
      by_cases h2 : v2 ≤ 0
      · have h3 := o6' h2
        clear o6'
        go_wp2_with fail
        go_ret
        exact ⟨rfl, G7.out⟩
      · clear o6'
        go_wp2_with fail
        go_ret
        exact ⟨rfl, G7.out⟩
    · have o3' := o3 (by decide)
      have o45 := o5 rfl
      clear o2 o3 o4 o5
      clear o6
      by_cases e1 : a1 = b1
      · have e2 := o3' e1
        clear o3'
        obtain rfl : a1 = b1 := e1
        go_wp2_with fail
        go_ret
        exact ⟨rfl, G7.out⟩
      · clear o3'
        go_wp2_with fail
        go_ret
        exact ⟨rfl, G7.out⟩

theorem own_ratOrder : ownKnob Try.prog.godebug = none := by kernel_rfl
set_option maxRecDepth 100000 in
theorem ratOrder_lifted (os : Os) (started : os.Started) (H : Type) (enc : TypeId × Value → H) :
    ReturnsInHanded {} Try.checked os 7 .any (Rows.ratOrderSpec.pre6 enc Try.prog Try.f7 Rows.ratOrderRow.domain false) (Rows.ratOrderSpec.post enc Try.prog Try.f7 false true false false) := by
  refine returnsInHanded_of_change (C := Try.checked) own_ratOrder started (by kernel_rfl) Try.func7
    (ChangeSpec.witness6 (enc := enc) (C := Try.checked) false ⟨#[], #[.agg #[.int .i8 0, .int .i8 0, .int .i8 0], .agg #[.int .u8 0, .int .u8 0, .int .u8 0]], []⟩ 8 (by kernel_rfl) (by kernel_rfl) (by kernel_rfl) (by kernel_rfl)) ?_
  intro W base args ds gs before hval0 hW _ _
  have hval : ∀ (j : Nat) t v, Try.f7.params[j]? = some t → args[j]? = some v → Value.okWide Try.prog W .any base t v := hval0
  have hW' := hW
  obtain ⟨p, q, hA0, hV, rfl, hfz, hnd⟩ := hW
  have hA : DataW.TrodAll enc Try.prog W 0 (fun _ => true) true Try.f7.params.toList args.toList ds p := hA0
  rw [Try.params7] at hA hval
  obtain ⟨v0, v1, d0, d1, p0, p1, rfl, rfl, rfl, h0, h1⟩ := trodAll_two hA
  obtain ⟨rfl, rfl⟩ := trodVars_none hV
  obtain ⟨zs, hz, rfl, rfl, rfl, wz⟩ := open_arr Try.underlying42 Try.underlying41 (by kernel_rfl) (by kernel_rfl) (hval 0 42 v0 rfl rfl) h0
  obtain ⟨us, hu, rfl, rfl, rfl, wu⟩ := open_arr Try.underlying43 Try.underlying5 (by kernel_rfl) (by kernel_rfl) (hval 1 43 v1 rfl rfl) h1
  obtain ⟨n0, n1, n2, rfl⟩ := list3 hz
  obtain ⟨m0, m1, m2, rfl⟩ := list3 hu
  clear hA0 hval0
  simp only [List.append_nil] at hW'
  refine (ratOrder_any n0 n1 n2 m0 m1 m2 W (by have := bounds_i8 (wz n0 (by simp)); exact this) (by have := bounds_i8 (wz n1 (by simp)); exact this) (by have := bounds_i8 (wz n2 (by simp)); exact this) (by have := bounds_u8 (wu m0 (by simp)); exact this) (by have := bounds_u8 (wu m1 (by simp)); exact this) (by have := bounds_u8 (wu m2 (by simp)); exact this)).mono fun e W' ⟨he, hg⟩ => ?_
  subst he
  exact ⟨_, rfl, post_of_same (pa := []) (pv := []) hW' (fun _ _ _ => trodAll_mk1 (shut_bool Try.underlying4 _)) (fun sp _ => trodAll_mk2 (shut_arr Try.underlying42 Try.underlying41 (by kernel_rfl) (by kernel_rfl) hz wz) (shut_arr Try.underlying43 Try.underlying5 (by kernel_rfl) (by kernel_rfl) hu wu)) (fun _ _ => rfl) rfl (hg.frame _) hg.2.1 (ok_one (by kernel_rfl) rfl (okWide_bool_mk Try.underlying4 _))⟩

/-- The given statement. -/
theorem ratOrder_holds : Rows.RatOrderSaid :=
  OpenClaim.holds_of_wide 7 Try.f7 rfl rfl rfl rfl rfl rfl rfl ⟨rfl, rfl, rfl, rfl, rfl⟩ rfl rfl rfl rfl rfl (by kernel_rfl) Try.func7 (by kernel_rfl)
    (of_decide_eq_true (by kernel_rfl)) (by unfold Func.isWrapper; first | (rw [if_pos (by decide +kernel)]; kernel_rfl) | (rw [if_neg (by decide +kernel)]; exact ⟨rfl, rfl⟩))
    (fun os started H enc _ => ratOrder_lifted os started H enc)
#print axioms ratOrder_holds

end Go.Proofs.Ytgbjooecomgfoaa
