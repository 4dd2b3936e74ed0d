/-
  What Offset and Bound of package clock and of its reference return.
-/
import Derived.Test.YtaekofoonekkkaaTe
namespace Go.Proofs.Ytaekofoonekkkaa
open Go.RowKit

attribute [local go_sem] Oper.semAt_some


set_option maxHeartbeats 1000000 in
theorem coffset_any (o p o' p' t : Int) (w : World) :
    Calls Try.prog 20 #[.agg #[.int .i64 o, .int .i64 p], .agg #[.int .i64 o', .int .i64 p'], .int .i64 t] w fun e w' => e = .returned (.tuple #[.int .i64 (ofV o p o' p' t), .int .i64 (ofE o p o' p' t)]) ∧ Bl w w' := by
  rcases bcase (ckB o p) with hc | hc
  · have KC := Lib.hid (fun w => ccheck_v (ckE_t hc) w)
    rcases bcase (ckB o' p') with hc' | hc'
    · have KC' := Lib.hid (fun w => ccheck_v (ckE_t hc') w)
      rcases bcase (tmB t) with ht | ht
      · have KT := Lib.hid (fun w => isTime_v ht w)
        have KL := Lib.hid (fun w => local_any o p t w hc ht)
        have KM := Lib.hid (fun w => local_any o' p' t w hc' ht)
        rw [show ofV o p o' p' t = atV o p t - atV o' p' t by simp [ofV, hc, hc', ht], show ofE o p o' p' t = 0 by simp [ofE, hc, hc', ht]]
        have b1 := atV_bd hc ht
        have b2 := atV_bd hc' ht
        generalize atV o p t = v at *
        generalize atV o' p' t = u at *
        have q1 : IntKind.i64.wrap (v - u) = v - u := IntWalk.i64_in _ (by omega)
        clear hc hc' ht b1 b2
        go_enter Try.func20, Try.ntmps20
        go_wp2_with fail
        refine (KC.out _).mono ?_; rintro e w1 ⟨rfl, gr⟩
        have k0 := (gr.cell (p := ⟨w.heap.size, 0, none⟩) (by simp; try omega)).trans (show _ = some (Value.int .i64 o) by simp [go_sem])
        have k1 := (gr.cell (p := ⟨w.heap.size, 1, none⟩) (by simp; try omega)).trans (show _ = some (Value.int .i64 p) by simp [go_sem])
        have m0 := (gr.cell (p := ⟨w.heap.size + 1, 0, none⟩) (by simp)).trans (show _ = some (Value.int .i64 o') by simp [go_sem])
        have m1 := (gr.cell (p := ⟨w.heap.size + 1, 1, none⟩) (by simp)).trans (show _ = some (Value.int .i64 p') by simp [go_sem])
        have G := Lib.hid (Bl.trans (((Bl.refl w).alloc _).alloc _) gr)
        clear gr
        go_wp2_with fail
        refine (KC'.out _).mono ?_; rintro e w2 ⟨rfl, gr⟩
        replace k0 := (gr.cell (p := ⟨w.heap.size, 0, none⟩) (cell_lt k0)).trans k0
        replace k1 := (gr.cell (p := ⟨w.heap.size, 1, none⟩) (cell_lt k1)).trans k1
        replace m0 := (gr.cell (p := ⟨w.heap.size + 1, 0, none⟩) (cell_lt m0)).trans m0
        replace m1 := (gr.cell (p := ⟨w.heap.size + 1, 1, none⟩) (cell_lt m1)).trans m1
        have G2 := Lib.hid (G.out.trans gr)
        clear gr
        go_wp2_with fail
        refine (KT.out _).mono ?_; rintro e w3 ⟨rfl, rfl⟩
        have ha := cell_lt k0
        have hb := cell_lt m0
        generalize w.heap.size = a at *
        have HD := Lib.hid (show ∀ w', Bl w2 w' → (w'.cell? ⟨a, 0, none⟩ = some (.int .i64 o) ∧ w'.cell? ⟨a, 1, none⟩ = some (.int .i64 p) ∧ w'.cell? ⟨a + 1, 0, none⟩ = some (.int .i64 o') ∧ w'.cell? ⟨a + 1, 1, none⟩ = some (.int .i64 p') ∧ Hid (Bl w2 w')) from fun w' g => ⟨(g.cell (p := ⟨a, 0, none⟩) ha).trans k0, (g.cell (p := ⟨a, 1, none⟩) ha).trans k1, (g.cell (p := ⟨a + 1, 0, none⟩) hb).trans m0, (g.cell (p := ⟨a + 1, 1, none⟩) hb).trans m1, g⟩)
        clear ha hb
        go_upto_region 9 with fail
        go_region_held3 (fun w' => w'.cell? ⟨a, 0, none⟩ = some (.int .i64 o) ∧ w'.cell? ⟨a, 1, none⟩ = some (.int .i64 p) ∧ w'.cell? ⟨a + 1, 0, none⟩ = some (.int .i64 o') ∧ w'.cell? ⟨a + 1, 1, none⟩ = some (.int .i64 p') ∧ Hid (Bl w2 w'))
          (first | with_reducible assumption | (refine HD.out _ ?_; (repeat (first | exact BA.out | exact Bl.refl _ | with_reducible refine Bl.drew ?_)); done) | fail)
          (first | (go_at_call 26; rename _ ∧ _ ∧ _ ∧ _ ∧ Hid (Bl w2 _) => hq; (with_reducible first | refine (KM.out _).mono ?_ | refine (KL.out _).mono ?_); rintro e w5 ⟨rfl, hgr⟩; have BA := Lib.hid (Bl.trans (Hid.out hq.2.2.2.2) hgr)) | fail)
        all_goals go_wp2_with fail
        all_goals go_ret2
        all_goals exact ⟨rfl, G2.out.trans (And.right (And.right (And.right (And.right (by assumption : _ ∧ _ ∧ _ ∧ _ ∧ Hid (Bl w2 _)))))).out⟩
      · have KT := Lib.hid (fun w => isTime_v ht w)
        rw [show ofV o p o' p' t = 0 by simp [ofV, hc, hc', ht], show ofE o p o' p' t = 2 by simp [ofE, hc, hc', ht]]
        clear hc hc' ht
        go_enter Try.func20, Try.ntmps20
        go_wp2_with fail
        refine (KC.out _).mono ?_; rintro e w1 ⟨rfl, gr⟩
        have k0 := (gr.cell (p := ⟨w.heap.size, 0, none⟩) (by simp; try omega)).trans (show _ = some (Value.int .i64 o) by simp [go_sem])
        have k1 := (gr.cell (p := ⟨w.heap.size, 1, none⟩) (by simp; try omega)).trans (show _ = some (Value.int .i64 p) by simp [go_sem])
        have m0 := (gr.cell (p := ⟨w.heap.size + 1, 0, none⟩) (by simp)).trans (show _ = some (Value.int .i64 o') by simp [go_sem])
        have m1 := (gr.cell (p := ⟨w.heap.size + 1, 1, none⟩) (by simp)).trans (show _ = some (Value.int .i64 p') by simp [go_sem])
        have G := Lib.hid (Bl.trans (((Bl.refl w).alloc _).alloc _) gr)
        clear gr
        go_wp2_with fail
        refine (KC'.out _).mono ?_; rintro e w2 ⟨rfl, gr⟩
        replace k0 := (gr.cell (p := ⟨w.heap.size, 0, none⟩) (cell_lt k0)).trans k0
        replace k1 := (gr.cell (p := ⟨w.heap.size, 1, none⟩) (cell_lt k1)).trans k1
        replace m0 := (gr.cell (p := ⟨w.heap.size + 1, 0, none⟩) (cell_lt m0)).trans m0
        replace m1 := (gr.cell (p := ⟨w.heap.size + 1, 1, none⟩) (cell_lt m1)).trans m1
        have G2 := Lib.hid (G.out.trans gr)
        clear gr
        go_wp2_with fail
        refine (KT.out _).mono ?_; rintro e w3 ⟨rfl, rfl⟩
        go_wp2_with fail
        go_ret2
        exact ⟨rfl, G2.out⟩
    · have KC' := Lib.hid (fun w => ccheck_v (ckE_f hc') w)
      rw [show ofV o p o' p' t = 0 by simp [ofV, hc, hc'], show ofE o p o' p' t = 190 by simp [ofE, hc, hc']]
      clear hc hc'
      go_enter Try.func20, Try.ntmps20
      go_wp2_with fail
      refine (KC.out _).mono ?_; rintro e w1 ⟨rfl, gr⟩
      have k0 := (gr.cell (p := ⟨w.heap.size, 0, none⟩) (by simp; try omega)).trans (show _ = some (Value.int .i64 o) by simp [go_sem])
      have k1 := (gr.cell (p := ⟨w.heap.size, 1, none⟩) (by simp; try omega)).trans (show _ = some (Value.int .i64 p) by simp [go_sem])
      have m0 := (gr.cell (p := ⟨w.heap.size + 1, 0, none⟩) (by simp)).trans (show _ = some (Value.int .i64 o') by simp [go_sem])
      have m1 := (gr.cell (p := ⟨w.heap.size + 1, 1, none⟩) (by simp)).trans (show _ = some (Value.int .i64 p') by simp [go_sem])
      have G := Lib.hid (Bl.trans (((Bl.refl w).alloc _).alloc _) gr)
      clear gr
      go_wp2_with fail
      refine (KC'.out _).mono ?_; rintro e w2 ⟨rfl, gr⟩
      replace k0 := (gr.cell (p := ⟨w.heap.size, 0, none⟩) (cell_lt k0)).trans k0
      replace k1 := (gr.cell (p := ⟨w.heap.size, 1, none⟩) (cell_lt k1)).trans k1
      replace m0 := (gr.cell (p := ⟨w.heap.size + 1, 0, none⟩) (cell_lt m0)).trans m0
      replace m1 := (gr.cell (p := ⟨w.heap.size + 1, 1, none⟩) (cell_lt m1)).trans m1
      have G2 := Lib.hid (G.out.trans gr)
      clear gr
      go_wp2_with fail
      go_ret2
      exact ⟨rfl, G2.out⟩
  · have KC := Lib.hid (fun w => ccheck_v (ckE_f hc) w)
    rw [show ofV o p o' p' t = 0 by simp [ofV, hc], show ofE o p o' p' t = 190 by simp [ofE, hc]]
    clear hc
    go_enter Try.func20, Try.ntmps20
    go_wp2_with fail
    refine (KC.out _).mono ?_; rintro e w1 ⟨rfl, gr⟩
    have G := Lib.hid (Bl.trans (((Bl.refl w).alloc _).alloc _) gr)
    clear gr
    go_wp2_with fail
    go_ret2
    exact ⟨rfl, G.out⟩

set_option maxHeartbeats 1000000 in
theorem roffset_any (o p o' p' t : Int) (w : World) :
    Calls Try.prog 21 #[.agg #[.int .i64 o, .int .i64 p], .agg #[.int .i64 o', .int .i64 p'], .int .i64 t] w fun e w' => e = .returned (.tuple #[.int .i64 (ofV o p o' p' t), .int .i64 (ofE o p o' p' t)]) ∧ Bl w w' := by
  rcases bcase (ckB o p) with hc | hc
  · have KC := Lib.hid (fun w => cright_v hc w)
    rcases bcase (ckB o' p') with hc' | hc'
    · have KC' := Lib.hid (fun w => cright_v hc' w)
      rcases bcase (tmB t) with ht | ht
      · obtain ⟨t1, t2⟩ := tmB_iff.1 ht
        have KL := Lib.hid (fun w => at_any o p t w hc ht)
        have KM := Lib.hid (fun w => at_any o' p' t w hc' ht)
        rw [show ofV o p o' p' t = atV o p t - atV o' p' t by simp [ofV, hc, hc', ht], show ofE o p o' p' t = 0 by simp [ofE, hc, hc', ht]]
        have b1 := atV_bd hc ht
        have b2 := atV_bd hc' ht
        generalize atV o p t = v at *
        generalize atV o' p' t = u at *
        have q1 : IntKind.i64.wrap (v - u) = v - u := IntWalk.i64_in _ (by omega)
        clear hc hc' ht b1 b2
        go_enter Try.func21, Try.ntmps21
        go_wp2_with fail
        refine (KC.out _).mono ?_; rintro e w1 ⟨rfl, gr⟩
        have k0 := (gr.cell (p := ⟨w.heap.size, 0, none⟩) (by simp; try omega)).trans (show _ = some (Value.int .i64 o) by simp [go_sem])
        have k1 := (gr.cell (p := ⟨w.heap.size, 1, none⟩) (by simp; try omega)).trans (show _ = some (Value.int .i64 p) by simp [go_sem])
        have m0 := (gr.cell (p := ⟨w.heap.size + 1, 0, none⟩) (by simp)).trans (show _ = some (Value.int .i64 o') by simp [go_sem])
        have m1 := (gr.cell (p := ⟨w.heap.size + 1, 1, none⟩) (by simp)).trans (show _ = some (Value.int .i64 p') by simp [go_sem])
        have G := Lib.hid (Bl.trans (((Bl.refl w).alloc _).alloc _) gr)
        clear gr
        go_wp2_with fail
        refine (KC'.out _).mono ?_; rintro e w2 ⟨rfl, gr⟩
        replace k0 := (gr.cell (p := ⟨w.heap.size, 0, none⟩) (cell_lt k0)).trans k0
        replace k1 := (gr.cell (p := ⟨w.heap.size, 1, none⟩) (cell_lt k1)).trans k1
        replace m0 := (gr.cell (p := ⟨w.heap.size + 1, 0, none⟩) (cell_lt m0)).trans m0
        replace m1 := (gr.cell (p := ⟨w.heap.size + 1, 1, none⟩) (cell_lt m1)).trans m1
        have G2 := Lib.hid (G.out.trans gr)
        clear gr
        have ha := cell_lt k0
        have hb := cell_lt m0
        generalize w.heap.size = a at *
        have HD := Lib.hid (show ∀ w', Bl w2 w' → (w'.cell? ⟨a, 0, none⟩ = some (.int .i64 o) ∧ w'.cell? ⟨a, 1, none⟩ = some (.int .i64 p) ∧ w'.cell? ⟨a + 1, 0, none⟩ = some (.int .i64 o') ∧ w'.cell? ⟨a + 1, 1, none⟩ = some (.int .i64 p') ∧ Hid (Bl w2 w')) from fun w' g => ⟨(g.cell (p := ⟨a, 0, none⟩) ha).trans k0, (g.cell (p := ⟨a, 1, none⟩) ha).trans k1, (g.cell (p := ⟨a + 1, 0, none⟩) hb).trans m0, (g.cell (p := ⟨a + 1, 1, none⟩) hb).trans m1, g⟩)
        clear ha hb
        go_upto_region 5 with fail
        go_region_held3 (fun w' => w'.cell? ⟨a, 0, none⟩ = some (.int .i64 o) ∧ w'.cell? ⟨a, 1, none⟩ = some (.int .i64 p) ∧ w'.cell? ⟨a + 1, 0, none⟩ = some (.int .i64 o') ∧ w'.cell? ⟨a + 1, 1, none⟩ = some (.int .i64 p') ∧ Hid (Bl w2 w'))
          (first | with_reducible assumption | (refine HD.out _ ?_; (repeat (first | exact BA.out | exact Bl.refl _ | with_reducible refine Bl.drew ?_)); done) | fail)
          (first | (go_at_call 27; rename _ ∧ _ ∧ _ ∧ _ ∧ Hid (Bl w2 _) => hq; (with_reducible first | refine (KM.out _).mono ?_ | refine (KL.out _).mono ?_); rintro e w5 ⟨rfl, hgr⟩; have BA := Lib.hid (Bl.trans (Hid.out hq.2.2.2.2) hgr)) | fail)
        all_goals go_wp2_with fail
        all_goals go_ret2
        all_goals exact ⟨rfl, G2.out.trans (And.right (And.right (And.right (And.right (by assumption : _ ∧ _ ∧ _ ∧ _ ∧ Hid (Bl w2 _)))))).out⟩
      · have t0 := tmB_not.1 ht
        rw [show ofV o p o' p' t = 0 by simp [ofV, hc, hc', ht], show ofE o p o' p' t = 2 by simp [ofE, hc, hc', ht]]
        clear hc hc' ht
        by_cases t1 : t < 0
        · clear t0
          go_enter Try.func21, Try.ntmps21
          go_wp2_with fail
          refine (KC.out _).mono ?_; rintro e w1 ⟨rfl, gr⟩
          have k0 := (gr.cell (p := ⟨w.heap.size, 0, none⟩) (by simp; try omega)).trans (show _ = some (Value.int .i64 o) by simp [go_sem])
          have k1 := (gr.cell (p := ⟨w.heap.size, 1, none⟩) (by simp; try omega)).trans (show _ = some (Value.int .i64 p) by simp [go_sem])
          have m0 := (gr.cell (p := ⟨w.heap.size + 1, 0, none⟩) (by simp)).trans (show _ = some (Value.int .i64 o') by simp [go_sem])
          have m1 := (gr.cell (p := ⟨w.heap.size + 1, 1, none⟩) (by simp)).trans (show _ = some (Value.int .i64 p') by simp [go_sem])
          have G := Lib.hid (Bl.trans (((Bl.refl w).alloc _).alloc _) gr)
          clear gr
          go_wp2_with fail
          refine (KC'.out _).mono ?_; rintro e w2 ⟨rfl, gr⟩
          replace k0 := (gr.cell (p := ⟨w.heap.size, 0, none⟩) (cell_lt k0)).trans k0
          replace k1 := (gr.cell (p := ⟨w.heap.size, 1, none⟩) (cell_lt k1)).trans k1
          replace m0 := (gr.cell (p := ⟨w.heap.size + 1, 0, none⟩) (cell_lt m0)).trans m0
          replace m1 := (gr.cell (p := ⟨w.heap.size + 1, 1, none⟩) (cell_lt m1)).trans m1
          have G2 := Lib.hid (G.out.trans gr)
          clear gr
          go_wp2_with fail
          go_ret2
          exact ⟨rfl, G2.out⟩
        have t2 : 1099511627776 < t := by omega
        clear t0
        go_enter Try.func21, Try.ntmps21
        go_wp2_with fail
        refine (KC.out _).mono ?_; rintro e w1 ⟨rfl, gr⟩
        have k0 := (gr.cell (p := ⟨w.heap.size, 0, none⟩) (by simp; try omega)).trans (show _ = some (Value.int .i64 o) by simp [go_sem])
        have k1 := (gr.cell (p := ⟨w.heap.size, 1, none⟩) (by simp; try omega)).trans (show _ = some (Value.int .i64 p) by simp [go_sem])
        have m0 := (gr.cell (p := ⟨w.heap.size + 1, 0, none⟩) (by simp)).trans (show _ = some (Value.int .i64 o') by simp [go_sem])
        have m1 := (gr.cell (p := ⟨w.heap.size + 1, 1, none⟩) (by simp)).trans (show _ = some (Value.int .i64 p') by simp [go_sem])
        have G := Lib.hid (Bl.trans (((Bl.refl w).alloc _).alloc _) gr)
        clear gr
        go_wp2_with fail
        refine (KC'.out _).mono ?_; rintro e w2 ⟨rfl, gr⟩
        replace k0 := (gr.cell (p := ⟨w.heap.size, 0, none⟩) (cell_lt k0)).trans k0
        replace k1 := (gr.cell (p := ⟨w.heap.size, 1, none⟩) (cell_lt k1)).trans k1
        replace m0 := (gr.cell (p := ⟨w.heap.size + 1, 0, none⟩) (cell_lt m0)).trans m0
        replace m1 := (gr.cell (p := ⟨w.heap.size + 1, 1, none⟩) (cell_lt m1)).trans m1
        have G2 := Lib.hid (G.out.trans gr)
        clear gr
        go_wp2_with fail
        go_ret2
        exact ⟨rfl, G2.out⟩
    · have KC' := Lib.hid (fun w => cright_v hc' w)
      rw [show ofV o p o' p' t = 0 by simp [ofV, hc, hc'], show ofE o p o' p' t = 190 by simp [ofE, hc, hc']]
      clear hc hc'
      go_enter Try.func21, Try.ntmps21
      go_wp2_with fail
      refine (KC.out _).mono ?_; rintro e w1 ⟨rfl, gr⟩
      have k0 := (gr.cell (p := ⟨w.heap.size, 0, none⟩) (by simp; try omega)).trans (show _ = some (Value.int .i64 o) by simp [go_sem])
      have k1 := (gr.cell (p := ⟨w.heap.size, 1, none⟩) (by simp; try omega)).trans (show _ = some (Value.int .i64 p) by simp [go_sem])
      have m0 := (gr.cell (p := ⟨w.heap.size + 1, 0, none⟩) (by simp)).trans (show _ = some (Value.int .i64 o') by simp [go_sem])
      have m1 := (gr.cell (p := ⟨w.heap.size + 1, 1, none⟩) (by simp)).trans (show _ = some (Value.int .i64 p') by simp [go_sem])
      have G := Lib.hid (Bl.trans (((Bl.refl w).alloc _).alloc _) gr)
      clear gr
      go_wp2_with fail
      refine (KC'.out _).mono ?_; rintro e w2 ⟨rfl, gr⟩
      replace k0 := (gr.cell (p := ⟨w.heap.size, 0, none⟩) (cell_lt k0)).trans k0
      replace k1 := (gr.cell (p := ⟨w.heap.size, 1, none⟩) (cell_lt k1)).trans k1
      replace m0 := (gr.cell (p := ⟨w.heap.size + 1, 0, none⟩) (cell_lt m0)).trans m0
      replace m1 := (gr.cell (p := ⟨w.heap.size + 1, 1, none⟩) (cell_lt m1)).trans m1
      have G2 := Lib.hid (G.out.trans gr)
      clear gr
      go_wp2_with fail
      go_ret2
      exact ⟨rfl, G2.out⟩
  · have KC := Lib.hid (fun w => cright_v hc w)
    rw [show ofV o p o' p' t = 0 by simp [ofV, hc], show ofE o p o' p' t = 190 by simp [ofE, hc]]
    clear hc
    go_enter Try.func21, Try.ntmps21
    go_wp2_with fail
    refine (KC.out _).mono ?_; rintro e w1 ⟨rfl, gr⟩
    have G := Lib.hid (Bl.trans (((Bl.refl w).alloc _).alloc _) gr)
    clear gr
    go_wp2_with fail
    go_ret2
    exact ⟨rfl, G.out⟩

set_option maxHeartbeats 1000000 in
theorem cbound_any (p d : Int) (w : World) :
    Calls Try.prog 22 #[.int .i64 p, .int .i64 d] w fun e w' => e = .returned (.tuple #[.int .i64 (boV p d), .int .i64 (boE p d)]) ∧ Bl w w' := by
  rcases bcase (btB 0 p 200000) with hp | hp
  · have KP := Lib.hid (fun w => cbetween_v hp w)
    have hp' := btB_iff.1 hp
    rcases bcase (tmB d) with hd | hd
    · have KD := Lib.hid (fun w => isTime_v hd w)
      have KR := Lib.hid (fun w => drift_any (-p) d w (by omega) hd)
      have b1 := dr_bd (p := -p) (by omega) (tmB_iff.1 hd)
      rw [show boV p d = -(d * -p / 1000000000) by simp [boV, boB, hp, hd], show boE p d = 0 by simp [boE, boB, hp, hd]]
      generalize d * -p / 1000000000 = v at *
      have q0 : IntKind.i64.wrap (-p) = -p := IntWalk.i64_in _ (by omega)
      have q1 : IntKind.i64.wrap (-v) = -v := IntWalk.i64_in _ (by omega)
      clear hp hp' hd b1
      go_enter Try.func22, Try.ntmps22
      go_wp2_with fail
      refine (KP.out _).mono ?_; rintro e w1 ⟨rfl, rfl⟩
      go_wp2_with fail
      refine (KD.out _).mono ?_; rintro e w1 ⟨rfl, rfl⟩
      go_wp2_with fail
      refine (KR.out _).mono ?_; rintro e w1 ⟨rfl, gr⟩
      go_wp2_with fail
      go_ret2
      exact ⟨rfl, gr⟩
    · have KD := Lib.hid (fun w => isTime_v hd w)
      rw [show boV p d = 0 by simp [boV, boB, hp, hd], show boE p d = 2 by simp [boE, boB, hp, hd]]
      clear hp hp' hd
      go_enter Try.func22, Try.ntmps22
      go_wp2_with fail
      refine (KP.out _).mono ?_; rintro e w1 ⟨rfl, rfl⟩
      go_wp2_with fail
      refine (KD.out _).mono ?_; rintro e w1 ⟨rfl, rfl⟩
      go_wp2_with fail
      go_ret2
      exact ⟨rfl, Bl.refl _⟩
  · have KP := Lib.hid (fun w => cbetween_v hp w)
    rw [show boV p d = 0 by simp [boV, boB, hp], show boE p d = 2 by simp [boE, boB, hp]]
    clear hp
    go_enter Try.func22, Try.ntmps22
    go_wp2_with fail
    refine (KP.out _).mono ?_; rintro e w1 ⟨rfl, rfl⟩
    go_wp2_with fail
    go_ret2
    exact ⟨rfl, Bl.refl _⟩

set_option maxHeartbeats 1000000 in
theorem rbound_any (p d : Int) (w : World) :
    Calls Try.prog 23 #[.int .i64 p, .int .i64 d] w fun e w' => e = .returned (.tuple #[.int .i64 (boV p d), .int .i64 (boE p d)]) ∧ Bl w w' := by
  rcases bcase (boB p d) with h | h
  · have h' := h
    unfold boB at h'
    rw [Bool.and_eq_true, btB_iff, tmB_iff] at h'
    obtain ⟨⟨p1, p2⟩, d1, d2⟩ := h'
    have KR := Lib.hid (fun w => rdrift_any p d w ⟨p1, p2⟩ (tmB_iff.2 ⟨d1, d2⟩))
    rw [show boV p d = -(d * -p / 1000000000) by simp [boV, h], show boE p d = 0 by simp [boE, h]]
    generalize -(d * -p / 1000000000) = v at *
    clear h
    go_enter Try.func23, Try.ntmps23
    go_wp2_with fail
    refine (KR.out _).mono ?_; rintro e w1 ⟨rfl, gr⟩
    go_wp2_with fail
    go_ret2
    exact ⟨rfl, gr⟩
  · rw [show boV p d = 0 by simp [boV, h], show boE p d = 2 by simp [boE, h]]
    have h' : ¬ ((0 ≤ p ∧ p ≤ 200000) ∧ (0 ≤ d ∧ d ≤ 1099511627776)) := by
      intro k
      have : boB p d = true := by unfold boB; rw [btB_iff.2 k.1, tmB_iff.2 k.2]; rfl
      rw [h] at this; cases this
    clear h
    by_cases p1 : p < 0
    · clear h'
      go_enter Try.func23, Try.ntmps23
      go_wp2_with fail
      go_ret2
      exact ⟨rfl, Bl.refl _⟩
    by_cases p2 : 200000 < p
    · clear h'
      go_enter Try.func23, Try.ntmps23
      go_wp2_with fail
      go_ret2
      exact ⟨rfl, Bl.refl _⟩
    by_cases d1 : d < 0
    · clear h'
      go_enter Try.func23, Try.ntmps23
      go_wp2_with fail
      go_ret2
      exact ⟨rfl, Bl.refl _⟩
    have d2 : 1099511627776 < d := by omega
    clear h'
    go_enter Try.func23, Try.ntmps23
    go_wp2_with fail
    go_ret2
    exact ⟨rfl, Bl.refl _⟩

end Go.Proofs.Ytaekofoonekkkaa
