/-
  ClockAdds: elapsed times add up, and the difference of two clocks changes by the difference of their elapsed times.
-/
import Derived.Test.YtaekofoonekkkaaTj
import Derived.Test.YtaekofoonekkkaaTx
namespace Go.Proofs.Ytaekofoonekkkaa
open Go.RowKit

attribute [local go_sem] Oper.semAt_some

theorem of_ok {o p o' p' t : Int} (hc : ckB o p = true) (hc' : ckB o' p' = true) (ht : 0 ≤ t ∧ t ≤ 1099511627776) : ofV o p o' p' t = atV o p t - atV o' p' t ∧ ofE o p o' p' t = 0 := by
  have := tmB_iff.2 ht
  unfold ofV ofE; simp [hc, hc', this]

set_option maxRecDepth 100000 in
set_option maxHeartbeats 4000000 in
theorem adds_law (O P O' P' t0 l0 l1 : Int) (w : World) :
    Calls Try.prog 8 #[.agg #[.int .i64 O, .int .i32 P, .int .i64 O', .int .i32 P'], .int .i64 t0, .agg #[.int .i64 l0, .int .i64 l1]] w fun e w' => e = .returned (.bool true) ∧ Bl w w' := by
  have hc := d_ok O P
  have hc' := d_ok O' P'
  have KW := Lib.hid (fun w => tworks_any w)
  have KA := Lib.hid (fun w => dclock_any O P w)
  have KB := Lib.hid (fun w => dclock_any O' P' w)
  have KT := Lib.hid (fun w => time_any t0 w)
  have ht := tm_bd t0
  generalize tm t0 = t at *
  generalize dO O = o at *
  generalize dP P = p at *
  generalize dO O' = o' at *
  generalize dP P' = p' at *
  obtain ⟨m1, hm1, yq0⟩ : ∃ x, 1099511627776 - t = x ∧ IntKind.i64.wrap (1099511627776 - t) = x := ⟨_, rfl, IntWalk.i64_in _ (by omega)⟩
  obtain ⟨m2, hm2, yq1⟩ : ∃ x, m1 + 1 = x ∧ IntKind.i64.wrap (m1 + 1) = x := ⟨_, rfl, IntWalk.i64_in _ (by omega)⟩
  have yq2 : IntKind.u64.wrap m2 = m2 := IntWalk.u64_in _ (by omega)
  have yq3 := red_tmod l0 m2
  have hr := red_bd l0 (m := m2) (by omega)
  generalize red l0 m2 = n at *
  have yq4 : IntKind.i64.wrap n = n := IntWalk.i64_in _ (by omega)
  obtain ⟨m3, hm3, yq5⟩ : ∃ x, m1 - n = x ∧ IntKind.i64.wrap (m1 - n) = x := ⟨_, rfl, IntWalk.i64_in _ (by omega)⟩
  obtain ⟨m4, hm4, yq6⟩ : ∃ x, m3 + 1 = x ∧ IntKind.i64.wrap (m3 + 1) = x := ⟨_, rfl, IntWalk.i64_in _ (by omega)⟩
  have yq7 : IntKind.u64.wrap m4 = m4 := IntWalk.u64_in _ (by omega)
  have yq8 := red_tmod l1 m4
  have hr' := red_bd l1 (m := m4) (by omega)
  generalize red l1 m4 = k at *
  have yq9 : IntKind.i64.wrap k = k := IntWalk.i64_in _ (by omega)
  have ny2 : 1 ≤ m2 := by omega
  have ny4 : 1 ≤ m4 := by omega
  obtain ⟨s, hs, yq10⟩ : ∃ x, t + n = x ∧ IntKind.i64.wrap (t + n) = x := ⟨_, rfl, IntWalk.i64_in _ (by omega)⟩
  obtain ⟨r, hrr, yq11⟩ : ∃ x, n + k = x ∧ IntKind.i64.wrap (n + k) = x := ⟨_, rfl, IntWalk.i64_in _ (by omega)⟩
  obtain ⟨u, hu⟩ : ∃ u, u = s + k := ⟨_, rfl⟩
  have hu' : t + r = u := by omega
  have e1 := el_ok hc (t := t) (d := n) ht.1 hr.1 (by omega)
  have e2 := el_ok hc (t := s) (d := k) (by omega) hr'.1 (by omega)
  have e3 := el_ok hc (t := t) (d := r) ht.1 (by omega) (by omega)
  have e4 := el_ok hc' (t := t) (d := n) ht.1 hr.1 (by omega)
  have e5 := of_ok hc hc' ht
  have e6 := of_ok hc hc' (t := s) (by omega)
  rw [hs] at e1 e4
  rw [← hu] at e2
  rw [hu'] at e3
  have b0 := atV_bd hc (tmB_iff.2 ht)
  have b1 := atV_bd hc (tmB_iff.2 (show 0 ≤ s ∧ s ≤ 1099511627776 by omega))
  have b2 := atV_bd hc (tmB_iff.2 (show 0 ≤ u ∧ u ≤ 1099511627776 by omega))
  have b3 := atV_bd hc' (tmB_iff.2 ht)
  have b4 := atV_bd hc' (tmB_iff.2 (show 0 ≤ s ∧ s ≤ 1099511627776 by omega))
  generalize atV o p t = A0 at *
  generalize atV o p s = A1 at *
  generalize atV o p u = A2 at *
  generalize atV o' p' t = B0 at *
  generalize atV o' p' s = B1 at *
  obtain ⟨x, hx⟩ : ∃ x, A1 - A0 = x := ⟨_, rfl⟩
  obtain ⟨y, hy⟩ : ∃ x, A2 - A1 = x := ⟨_, rfl⟩
  obtain ⟨z, hz⟩ : ∃ x, A2 - A0 = x := ⟨_, rfl⟩
  obtain ⟨v, hv⟩ : ∃ x, B1 - B0 = x := ⟨_, rfl⟩
  obtain ⟨gd, hg⟩ : ∃ x, A0 - B0 = x := ⟨_, rfl⟩
  obtain ⟨hd, hh⟩ : ∃ x, A1 - B1 = x := ⟨_, rfl⟩
  rw [hx] at e1
  rw [hy] at e2
  rw [hz] at e3
  rw [hv] at e4
  rw [hg] at e5
  rw [hh] at e6
  have K1 := Lib.hid (fun w => celapsed_v e1.1 e1.2 w)
  have K2 := Lib.hid (fun w => celapsed_v e2.1 e2.2 w)
  have K3 := Lib.hid (fun w => celapsed_v e3.1 e3.2 w)
  have K4 := Lib.hid (fun w => celapsed_v e4.1 e4.2 w)
  have K5 := Lib.hid (fun w => coffset_v e5.1 e5.2 w)
  have K6 := Lib.hid (fun w => coffset_v e6.1 e6.2 w)
  have yq12 : IntKind.i64.wrap (x + y) = z := by rw [IntWalk.i64_in _ (by omega)]; omega
  obtain ⟨f, hf, yq13⟩ : ∃ f, hd - gd = f ∧ IntKind.i64.wrap (hd - gd) = f := ⟨_, rfl, IntWalk.i64_in _ (by omega)⟩
  have yq14 : IntKind.i64.wrap (x - v) = f := by rw [IntWalk.i64_in _ (by omega)]; omega
  clear hf e1 e2 e3 e4 e5 e6 b0 b1 b2 b3 b4 hx hy hz hv hg hh hu' hu hrr hs hr' hm4 hm3 hr hm2 hm1 hc hc' ht
  go_enter Try.func8, Try.ntmps8
  go_wp2_with fail
  refine (KW.out _).mono ?_; rintro e W ⟨rfl, gr⟩
  have k0 := (gr.cell (p := ⟨w.heap.size, 0, none⟩) (by simp; try omega)).trans (show _ = some (Value.int .i64 O) by simp [go_sem])
  have k1 := (gr.cell (p := ⟨w.heap.size, 1, none⟩) (by simp; try omega)).trans (show _ = some (Value.int .i32 P) by simp [go_sem])
  have k2 := (gr.cell (p := ⟨w.heap.size, 2, none⟩) (by simp; try omega)).trans (show _ = some (Value.int .i64 O') by simp [go_sem])
  have k3 := (gr.cell (p := ⟨w.heap.size, 3, none⟩) (by simp; try omega)).trans (show _ = some (Value.int .i32 P') by simp [go_sem])
  have j0 := (gr.cell (p := ⟨w.heap.size + 1, 0, none⟩) (by simp; try omega)).trans (show _ = some (Value.int .i64 l0) by simp [go_sem])
  have j1 := (gr.cell (p := ⟨w.heap.size + 1, 1, none⟩) (by simp; try omega)).trans (show _ = some (Value.int .i64 l1) by simp [go_sem])
  have G := Lib.hid (Bl.trans (((Bl.refl w).alloc _).alloc _) gr)
  clear gr
  go_upto_region 3 with fail
  generalize w.heap.size = a at *
  have HD := Lib.hid (show ∀ w', Bl W w' → (w'.cell? ⟨a, 0, none⟩ = some (.int .i64 O) ∧ w'.cell? ⟨a, 1, none⟩ = some (.int .i32 P) ∧ w'.cell? ⟨a, 2, none⟩ = some (.int .i64 O') ∧ w'.cell? ⟨a, 3, none⟩ = some (.int .i32 P') ∧ Hid (Bl W w')) from fun w' g => ⟨cell_keep g k0, cell_keep g k1, cell_keep g k2, cell_keep g k3, g⟩)
  have HJ := Lib.hid (show ∀ w', Bl W w' → (w'.cell? ⟨a + 1, 0, none⟩ = some (.int .i64 l0) ∧ w'.cell? ⟨a + 1, 1, none⟩ = some (.int .i64 l1)) from fun w' g => ⟨cell_keep g j0, cell_keep g j1⟩)
  clear j0 j1
  go_cut [7, 8, 9] (fun s7 s8 s9 wx => s9 = .int .i64 t ∧ Hid (MadeAB W o p o' p' s7 s8 wx))
  case first =>
    go_region_held3 (fun w' => w'.cell? ⟨a, 0, none⟩ = some (.int .i64 O) ∧ w'.cell? ⟨a, 1, none⟩ = some (.int .i32 P) ∧ w'.cell? ⟨a, 2, none⟩ = some (.int .i64 O') ∧ w'.cell? ⟨a, 3, none⟩ = some (.int .i32 P') ∧ Hid (Bl W w')) (first | with_reducible assumption | (refine HD.out _ ?_; (repeat (first | exact BB.out | exact BA.out | exact Bl.refl _ | with_reducible refine Bl.setCell ?_ (by first | exact Nat.le_refl _ | omega | (simp <;> omega)) _ | with_reducible refine Bl.alloc ?_ _ | with_reducible refine Bl.drew ?_)); done) | fail) (first | (go_at_call 11; rename _ ∧ _ ∧ _ ∧ _ ∧ Hid (Bl W _) => hq; ((with_reducible refine (KA.out _).mono ?_); rintro e wa ⟨rfl, hgrwa⟩; have BA := Lib.hid (Bl.trans (Hid.out hq.2.2.2.2) hgrwa); have qzwa : W.heap.size ≤ wa.heap.size := BA.out.size; first | (with_reducible have q1 := Sl.newD2 hgrwa) | (with_reducible have q1 := Sl.newD hgrwa) | (have q1 := True.intro))) | (go_at_call 11; rename _ ∧ _ ∧ _ ∧ _ ∧ Hid (Bl W _) => hq; ((with_reducible refine (KB.out _).mono ?_); rintro e wb ⟨rfl, hgrwb⟩; have BB := Lib.hid (Bl.trans (Hid.out hq.2.2.2.2) hgrwb); have qzwb : W.heap.size ≤ wb.heap.size := BB.out.size; first | (with_reducible have q2 := And.intro (Sl.go (And.left q1) hgrwb) (Sl.go (And.right q1) hgrwb); obtain ⟨g0, g1, g2, g3, g4⟩ := q2.1; obtain ⟨g5, g6, g7, g8, g9⟩ := q2.2) | (with_reducible have q2 := And.intro (Sl.go q1 (Bl.trans ((Bl.refl wa).alloc _) hgrwb)) (Sl.newP hgrwb); have n1 : ¬ W.heap.size = wa.heap.size := Nat.ne_of_lt q1.lt; have n2 : ¬ wa.heap.size = W.heap.size := Nat.ne_of_gt q1.lt; obtain ⟨g0, g1, g2, g3, g4⟩ := q2.1; obtain ⟨g5, g6, g7, g8, g9⟩ := q2.2) | (with_reducible have q2 := Sl.go q1 hgrwb; have n1 : ¬ W.heap.size = wb.heap.size := Nat.ne_of_lt q2.lt; have n2 : ¬ wb.heap.size = W.heap.size := Nat.ne_of_gt q2.lt; have q3 := q2; obtain ⟨g0, g1, g2, g3, g4⟩ := q3) | (with_reducible have q2 := Sl.newP2 hgrwb; obtain ⟨g0, g1, g2, g3, g4⟩ := q2.1; obtain ⟨g5, g6, g7, g8, g9⟩ := q2.2) | (with_reducible have q2 := Sl.newP hgrwb; have n1 : ¬ wa.heap.size = wb.heap.size := Nat.ne_of_lt q2.lt; have n2 : ¬ wb.heap.size = wa.heap.size := Nat.ne_of_gt q2.lt; have q3 := q2; obtain ⟨g0, g1, g2, g3, g4⟩ := q3) | (have q2 := True.intro))) | (go_at_call 24; (with_reducible refine (KT.out _).mono ?_); rintro e wt ⟨rfl, rfl⟩) | fail)
    all_goals go_wp2_with fail
    all_goals go_meet
    all_goals (refine ⟨rfl, ?_⟩)
    all_goals (first | with_reducible exact made_aft BB | with_reducible exact made_aft' BB | with_reducible exact made_mix BB q2 (by first | exact Nat.le_refl _ | assumption | omega) | with_reducible exact made_mix' BB q2 (by first | exact Nat.le_refl _ | assumption | omega) | with_reducible exact made_bef BB q2.1 q2.2 (by first | exact n1 | exact n2 | omega) (by first | exact Nat.le_refl _ | assumption | omega) (by first | exact Nat.le_refl _ | assumption | omega) | with_reducible exact made_bef BB q2.2 q2.1 (by first | exact n1 | exact n2 | omega) (by first | exact Nat.le_refl _ | assumption | omega) (by first | exact Nat.le_refl _ | assumption | omega) | fail)
  obtain ⟨rfl, hcut⟩ := hcut
  obtain ⟨b, c, rfl, rfl, hbc, hS, hT, hb1, hc1, hB⟩ := hcut.out
  clear hcut k0 k1 k2 k3 KA KB HD KW KT
  rename World => wx
  obtain ⟨j0, j1⟩ := HJ.out wx hB
  have b0 := hS.c0
  have b1 := hS.c1
  have c0 := hT.c0
  have c1 := hT.c1
  replace G := Lib.hid (G.out.trans hB)
  clear HJ hS hT hb1 hc1 hB hbc
  go_wp2_with fail
  refine (K1.out _).mono ?_; rintro e w1 ⟨rfl, gr⟩
  clear j0 j1
  replace b0 := cell_keep gr b0
  replace b1 := cell_keep gr b1
  replace c0 := cell_keep gr c0
  replace c1 := cell_keep gr c1
  replace G := Lib.hid (G.out.trans gr); clear gr
  go_wp2_with fail
  refine (K2.out _).mono ?_; rintro e w2 ⟨rfl, gr⟩
  replace b0 := cell_keep gr b0
  replace b1 := cell_keep gr b1
  replace c0 := cell_keep gr c0
  replace c1 := cell_keep gr c1
  replace G := Lib.hid (G.out.trans gr); clear gr
  go_wp2_with fail
  refine (K3.out _).mono ?_; rintro e w3 ⟨rfl, gr⟩
  replace b0 := cell_keep gr b0
  replace b1 := cell_keep gr b1
  replace c0 := cell_keep gr c0
  replace c1 := cell_keep gr c1
  replace G := Lib.hid (G.out.trans gr); clear gr
  go_wp2_with fail
  refine (K4.out _).mono ?_; rintro e w4 ⟨rfl, gr⟩
  replace b0 := cell_keep gr b0
  replace b1 := cell_keep gr b1
  replace c0 := cell_keep gr c0
  replace c1 := cell_keep gr c1
  replace G := Lib.hid (G.out.trans gr); clear gr
  go_wp2_with fail
  refine (K5.out _).mono ?_; rintro e w5 ⟨rfl, gr⟩
  replace b0 := cell_keep gr b0
  replace b1 := cell_keep gr b1
  replace c0 := cell_keep gr c0
  replace c1 := cell_keep gr c1
  replace G := Lib.hid (G.out.trans gr); clear gr
  go_wp2_with fail
  refine (K6.out _).mono ?_; rintro e w6 ⟨rfl, gr⟩
  replace b0 := cell_keep gr b0
  replace b1 := cell_keep gr b1
  replace c0 := cell_keep gr c0
  replace c1 := cell_keep gr c1
  replace G := Lib.hid (G.out.trans gr); clear gr
  go_wp2_with fail
  go_ret
  exact ⟨rfl, G.out⟩

end Go.Proofs.Ytaekofoonekkkaa
