/-
  CurveJoins: a bucket's delay over two services in a row is at most the sum of its delays over each, and over the joined service at least that over each.
-/
import Derived.Test.YtgbbglnbolihfaaCl
namespace Go.Proofs.Ytgbbglnbolihfaa
open Go.ChangeShapes Go.WideShapes Go.ChangeAt Go.WideMaps Go.WideElems Go.RowKit

theorem cl_anti {n r r' : Int} (hn : 0 ≤ n) (hr : 0 < r) (h : r ≤ r') : cl n r' ≤ cl n r := by
  refine (cl_le (by omega)).2 (Int.le_trans (cl_ge hr) ?_)
  exact Int.mul_le_mul_of_nonneg_left h (cl_nonneg hr hn)

set_option maxRecDepth 100000 in
set_option maxHeartbeats 8000000 in
theorem joins_law (B R0 : Int) (gA : Option Addr) (gc : Nat) (sA : Option Addr) (sc : Nat) (gs ss : List Int) (m m' l l' : Int) (w : World) (hB : 0 ≤ B ∧ B ≤ 4294967295) (hR : 0 ≤ R0 ∧ R0 ≤ 4294967295) (hm : 0 ≤ m ∧ m ≤ 4294967295) (hm' : 0 ≤ m' ∧ m' ≤ 4294967295) (hl : 0 ≤ l ∧ l ≤ 65535) (hl' : 0 ≤ l' ∧ l' ≤ 65535) :
    Calls Try.prog 13 #[drV B R0 gA gs.length gc sA ss.length sc, .agg #[.int .u32 m, .int .u32 m'], .agg #[.int .u16 l, .int .u16 l']] w fun e w' => e = .returned (.bool true) ∧ Bl w w' := by
  obtain ⟨m0, m1⟩ := hm
  obtain ⟨m2, m3⟩ := hm'
  obtain ⟨l0, l1⟩ := hl
  obtain ⟨l2, l3⟩ := hl'
  unfold drV
  have KW := Lib.hid (fun w => cworks_any w)
  go_enter Try.func13, Try.ntmps13
  go_wp2_with fail
  refine (KW.out _).mono ?_; rintro e w1 ⟨rfl, gr⟩
  have k0 := (gr.cell (p := ⟨w.heap.size, 0, none⟩) (by simp <;> omega)).trans (show _ = some (Value.int .u32 B) by simp [go_sem])
  have k1 := (gr.cell (p := ⟨w.heap.size, 1, none⟩) (by simp <;> omega)).trans (show _ = some (Value.int .u32 R0) by simp [go_sem])
  have k2 := (gr.cell (p := ⟨w.heap.size, 2, none⟩) (by simp <;> omega)).trans (show _ = some (Value.slice gA gs.length gc) by simp [go_sem])
  have k3 := (gr.cell (p := ⟨w.heap.size, 3, none⟩) (by simp <;> omega)).trans (show _ = some (Value.slice sA ss.length sc) by simp [go_sem])
  have k4 := (gr.cell (p := ⟨w.heap.size + 1, 0, none⟩) (by simp <;> omega)).trans (show _ = some (Value.int .u32 m) by simp [go_sem])
  have k5 := (gr.cell (p := ⟨w.heap.size + 1, 1, none⟩) (by simp <;> omega)).trans (show _ = some (Value.int .u32 m') by simp [go_sem])
  have k6 := (gr.cell (p := ⟨w.heap.size + 1 + 1, 0, none⟩) (by simp <;> omega)).trans (show _ = some (Value.int .u16 l) by simp [go_sem])
  have k7 := (gr.cell (p := ⟨w.heap.size + 1 + 1, 1, none⟩) (by simp <;> omega)).trans (show _ = some (Value.int .u16 l') by simp [go_sem])
  have BW1 := Lib.hid (Bl.trans ((((Bl.refl w).alloc _).alloc _).alloc _) gr)
  clear gr
  generalize w.heap.size = a at *
  have bu := dB_ok B R0
  have H0 := Lib.hid (fun w' => (by have := dbucket_any B R0 gA gs.length gc sA ss.length sc w' hB hR; unfold drV at this; exact this : Calls Try.prog 16 #[.agg #[.int .u32 B, .int .u32 R0, .slice gA gs.length gc, .slice sA ss.length sc]] w' fun e w'' => e = .returned (.agg #[.int .i64 (dBu B), .int .i64 (dRa R0)]) ∧ Bl w' w''))
  generalize dBu B = u at *
  generalize dRa R0 = R at *
  clear hB hR
  have BU := Lib.hid bu
  obtain ⟨⟨u1, u2⟩, R1, R2⟩ := bkB_iff.1 bu
  clear bu
  go_wp2_with fail
  refine (H0.out _).mono ?_; rintro e w2 ⟨rfl, gr⟩
  have n4 := (gr.cell (p := ⟨a + 1, 0, none⟩) (cell_lt k4)).trans k4
  have n5 := (gr.cell (p := ⟨a + 1, 1, none⟩) (cell_lt k5)).trans k5
  have n6 := (gr.cell (p := ⟨a + 1 + 1, 0, none⟩) (cell_lt k6)).trans k6
  have n7 := (gr.cell (p := ⟨a + 1 + 1, 1, none⟩) (cell_lt k7)).trans k7
  have p4 := cell_lt n4
  have p6 := cell_lt n6
  have e1 : a < w2.heap.size := by omega
  have BW2 := Lib.hid (BW1.out.trans gr)
  clear gr k0 k1 k2 k3 k4 k5 k6 k7 BW1 H0
  go_upto_region 5 with fail
  obtain ⟨r, hr⟩ : ∃ r, (if R + m % 262144 < 2097152 then R + m % 262144 else 2097152) = r := ⟨_, rfl⟩
  have hr1 : R ≤ r ∧ r ≤ 2097152 := by rw [← hr]; split <;> omega
  rw [hr]
  clear hr
  go_upto_region 6 with fail
  obtain ⟨r', hr'⟩ : ∃ r', (if R + m' % 262144 < 2097152 then R + m' % 262144 else 2097152) = r' := ⟨_, rfl⟩
  have hr2 : R ≤ r' ∧ r' ≤ 2097152 := by rw [← hr']; split <;> omega
  rw [hr']
  clear hr' n4 n5 n6 n7 p4 p6 e1
  have hs : svB r l = true := svB_iff.2 (by omega)
  have ht : svB r' l' = true := svB_iff.2 (by omega)
  have j1 := joE_ok hs ht (show l + l' ≤ 268435456 by omega)
  have j2 := joE_ok ht hs (show l' + l ≤ 268435456 by omega)
  obtain ⟨rm, hrm⟩ : ∃ rm, min r r' = rm := ⟨_, rfl⟩
  obtain ⟨lm, hlm⟩ : ∃ lm, l + l' = lm := ⟨_, rfl⟩
  have KJ := Lib.hid (fun (W : World) => by have := join_any r l r' l' W; rw [(joRL_ok j1).1, (joRL_ok j1).2, j1, hrm, hlm] at this; exact this)
  have KK := Lib.hid (fun (W : World) => by have := join_any r' l' r l W; rw [(joRL_ok j2).1, (joRL_ok j2).2, j2, Int.min_comm, hrm, Int.add_comm, hlm] at this; exact this)
  have hsm : svB rm lm = true := svB_iff.2 (by omega)
  have hrm1 : R ≤ rm := by omega
  have KX := Lib.hid (fun (c : Nat) (W : World) h0 h1 => delay1 (c := c) (w := W) (de_alike BU.out hs hr1.1 ⟨by simp, by simp⟩ (alike1 u R)) (fl_alike BU.out hs hr1.1 ⟨by simp, by simp⟩ (alike1 u R)) h0 h1)
  have KY := Lib.hid (fun (c : Nat) (W : World) h0 h1 => delay1 (c := c) (w := W) (de_alike BU.out ht hr2.1 ⟨by simp, by simp⟩ (alike1 u R)) (fl_alike BU.out ht hr2.1 ⟨by simp, by simp⟩ (alike1 u R)) h0 h1)
  have KZ := Lib.hid (fun (c : Nat) (W : World) h0 h1 => delay1 (c := c) (w := W) (de_alike BU.out hsm hrm1 ⟨by simp, by simp⟩ (alike1 u R)) (fl_alike BU.out hsm hrm1 ⟨by simp, by simp⟩ (alike1 u R)) h0 h1)
  have q0 := cl_nonneg (n := u * 1048576) (show 0 < r by omega) (by omega)
  have q1 := cl_self_le (n := u * 1048576) (show 0 < r by omega) (by omega)
  have q2 := cl_nonneg (n := u * 1048576) (show 0 < r' by omega) (by omega)
  have q3 := cl_self_le (n := u * 1048576) (show 0 < r' by omega) (by omega)
  have q4 := cl_anti (n := u * 1048576) (r := rm) (r' := r) (by omega) (by omega) (by omega)
  have q5 := cl_anti (n := u * 1048576) (r := rm) (r' := r') (by omega) (by omega) (by omega)
  have q6 : cl (u * 1048576) rm = cl (u * 1048576) r ∨ cl (u * 1048576) rm = cl (u * 1048576) r' := by
    have : rm = r ∨ rm = r' := by omega
    rcases this with h | h
    · rw [h]; exact .inl rfl
    · rw [h]; exact .inr rfl
  obtain ⟨x, hx⟩ : ∃ x, l + cl (u * 1048576) r = x := ⟨_, rfl⟩
  obtain ⟨y, hy⟩ : ∃ y, l' + cl (u * 1048576) r' = y := ⟨_, rfl⟩
  obtain ⟨z, hz⟩ : ∃ z, lm + cl (u * 1048576) rm = z := ⟨_, rfl⟩
  rw [hx] at KX
  rw [hy] at KY
  rw [hz] at KZ
  have z1 : z ≤ x + y := by omega
  have z2 : x ≤ z := by omega
  have z3 : y ≤ z := by omega
  have wd : IntKind.i64.wrap (x + y) = x + y := IntWalk.i64_in _ (by omega)
  clear hr1 hr2 hs ht hsm hrm1 q0 q1 q2 q3 q4 q5 q6 hx hy hz hrm hlm j1 j2 u1 u2 R1 R2 BU m0 m1 m2 m3 l0 l1 l2 l3
  go_wp2_with fail
  refine Calls.mono (KJ.out _) ?_
  rintro e w3 ⟨rfl, gr⟩
  have SB3 := Lib.hid ((((Sl.new w2 u R 30).go ((Bl.refl _).alloc (.cells #[.int .i64 r, .int .i64 l] 54))).go ((Bl.refl _).alloc (.cells #[.int .i64 r', .int .i64 l'] 54))).go gr)
  have SA3 := Lib.hid (show Sl (w2.heap.size + 1) r l w3 by have h := Sl.new (w2.alloc (.cells #[.int .i64 u, .int .i64 R] 30)) r l 54; rw [World.size_alloc] at h; exact (h.go ((Bl.refl _).alloc _)).go gr)
  have ST3 := Lib.hid (show Sl (w2.heap.size + 1 + 1) r' l' w3 by have h := Sl.new ((w2.alloc (.cells #[.int .i64 u, .int .i64 R] 30)).alloc (.cells #[.int .i64 r, .int .i64 l] 54)) r' l' 54; rw [World.size_alloc, World.size_alloc] at h; exact h.go gr)
  have BW3 := Lib.hid (BW2.out.trans (Bl.trans ((((Bl.refl w2).alloc _).alloc _).alloc _) gr))
  clear gr BW2
  generalize w2.heap.size = b at *
  have cB0 := SB3.out.c0
  have cB1 := SB3.out.c1
  have cBl := SB3.out.lt
  have cA0 := SA3.out.c0
  have cA1 := SA3.out.c1
  have cAl := SA3.out.lt
  have cT0 := ST3.out.c0
  have cT1 := ST3.out.c1
  have cTl := ST3.out.lt
  go_wp2_with fail
  refine Calls.mono (KK.out _) ?_
  rintro e w4 ⟨rfl, gr⟩
  have g4 : Bl w3 w4 := Bl.trans (by (repeat (first | exact Bl.refl _ | with_reducible refine Bl.alloc ?_ _))) gr
  have SB4 := Lib.hid (SB3.out.go g4)
  have SA4 := Lib.hid (SA3.out.go g4)
  have ST4 := Lib.hid (ST3.out.go g4)
  have BW4 := Lib.hid (BW3.out.trans g4)
  have SU4 := Lib.hid (Sl.newP gr)
  generalize w3.heap.size = ub at *
  clear gr g4 BW3 SB3 cB0 cB1 cBl SA3 cA0 cA1 cAl ST3 cT0 cT1 cTl
  have cB0 := SB4.out.c0
  have cB1 := SB4.out.c1
  have cBl := SB4.out.lt
  have cA0 := SA4.out.c0
  have cA1 := SA4.out.c1
  have cAl := SA4.out.lt
  have cT0 := ST4.out.c0
  have cT1 := ST4.out.c1
  have cTl := ST4.out.lt
  have cU0 := SU4.out.c0
  have cU1 := SU4.out.c1
  have cUl := SU4.out.lt
  go_wp2_with fail
  refine Calls.mono (KX.out _ _ ?_ ?_) ?_
  iterate 2 (· simp [go_sem])
  rintro e w5 ⟨rfl, gr⟩
  have g5 : Bl w4 w5 := Bl.trans (by (repeat (first | exact Bl.refl _ | with_reducible refine Bl.alloc ?_ _))) gr
  have SB5 := Lib.hid (SB4.out.go g5)
  have SA5 := Lib.hid (SA4.out.go g5)
  have ST5 := Lib.hid (ST4.out.go g5)
  have SU5 := Lib.hid (SU4.out.go g5)
  have BW5 := Lib.hid (BW4.out.trans g5)
  have SV5 := Lib.hid ((Sl.new w4 rm lm 54).go (Bl.trans ((Bl.refl _).alloc _) gr))
  generalize w4.heap.size = vb at *
  clear gr g5 BW4 SB4 cB0 cB1 cBl SA4 cA0 cA1 cAl ST4 cT0 cT1 cTl SU4 cU0 cU1 cUl
  have cB0 := SB5.out.c0
  have cB1 := SB5.out.c1
  have cBl := SB5.out.lt
  have cA0 := SA5.out.c0
  have cA1 := SA5.out.c1
  have cAl := SA5.out.lt
  have cT0 := ST5.out.c0
  have cT1 := ST5.out.c1
  have cTl := ST5.out.lt
  have cU0 := SU5.out.c0
  have cU1 := SU5.out.c1
  have cUl := SU5.out.lt
  have cV0 := SV5.out.c0
  have cV1 := SV5.out.c1
  have cVl := SV5.out.lt
  go_wp2_with fail
  refine Calls.mono (KY.out _ _ ?_ ?_) ?_
  iterate 2 (· simp [go_sem])
  rintro e w6 ⟨rfl, gr⟩
  have g6 : Bl w5 w6 := Bl.trans (by (repeat (first | exact Bl.refl _ | with_reducible refine Bl.alloc ?_ _))) gr
  have SB6 := Lib.hid (SB5.out.go g6)
  have SA6 := Lib.hid (SA5.out.go g6)
  have ST6 := Lib.hid (ST5.out.go g6)
  have SU6 := Lib.hid (SU5.out.go g6)
  have SV6 := Lib.hid (SV5.out.go g6)
  have BW6 := Lib.hid (BW5.out.trans g6)
  clear gr g6 BW5 SB5 cB0 cB1 cBl SA5 cA0 cA1 cAl ST5 cT0 cT1 cTl SU5 cU0 cU1 cUl SV5 cV0 cV1 cVl
  have cB0 := SB6.out.c0
  have cB1 := SB6.out.c1
  have cBl := SB6.out.lt
  have cA0 := SA6.out.c0
  have cA1 := SA6.out.c1
  have cAl := SA6.out.lt
  have cT0 := ST6.out.c0
  have cT1 := ST6.out.c1
  have cTl := ST6.out.lt
  have cU0 := SU6.out.c0
  have cU1 := SU6.out.c1
  have cUl := SU6.out.lt
  have cV0 := SV6.out.c0
  have cV1 := SV6.out.c1
  have cVl := SV6.out.lt
  go_wp2_with fail
  refine Calls.mono (KZ.out _ _ ?_ ?_) ?_
  iterate 2 (· simp [go_sem])
  rintro e w7 ⟨rfl, gr⟩
  have g7 : Bl w6 w7 := Bl.trans (by (repeat (first | exact Bl.refl _ | with_reducible refine Bl.alloc ?_ _))) gr
  have SB7 := Lib.hid (SB6.out.go g7)
  have SA7 := Lib.hid (SA6.out.go g7)
  have ST7 := Lib.hid (ST6.out.go g7)
  have SU7 := Lib.hid (SU6.out.go g7)
  have SV7 := Lib.hid (SV6.out.go g7)
  have BW7 := Lib.hid (BW6.out.trans g7)
  clear gr g7 BW6 SB6 cB0 cB1 cBl SA6 cA0 cA1 cAl ST6 cT0 cT1 cTl SU6 cU0 cU1 cUl SV6 cV0 cV1 cVl
  have cB0 := SB7.out.c0
  have cB1 := SB7.out.c1
  have cBl := SB7.out.lt
  have cA0 := SA7.out.c0
  have cA1 := SA7.out.c1
  have cAl := SA7.out.lt
  have cT0 := ST7.out.c0
  have cT1 := ST7.out.c1
  have cTl := ST7.out.lt
  have cU0 := SU7.out.c0
  have cU1 := SU7.out.c1
  have cUl := SU7.out.lt
  have cV0 := SV7.out.c0
  have cV1 := SV7.out.c1
  have cVl := SV7.out.lt
  go_wp2_with fail
  go_ret
  exact ⟨rfl, BW7.out⟩

end Go.Proofs.Ytgbbglnbolihfaa
