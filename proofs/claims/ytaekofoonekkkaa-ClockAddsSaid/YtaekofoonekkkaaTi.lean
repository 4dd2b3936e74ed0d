/-
  ClockBack: the time that True returns is the first one at which the clock shows that much, and is not after the time at which it shows just that.
-/
import Derived.Test.YtaekofoonekkkaaTg
import Derived.Test.YtaekofoonekkkaaTh
namespace Go.Proofs.Ytaekofoonekkkaa
open Go.RowKit

theorem lo_ok {o p t : Int} (hc : ckB o p = true) (ht : 0 ≤ t ∧ t ≤ 1099511627776) : loV o p t = atV o p t ∧ loE o p t = 0 := by
  have := tmB_iff.2 ht
  unfold loV loE; simp [hc, this]
theorem tu_ok {o p l : Int} (hc : ckB o p = true) (hf : fst o p l ≤ 1099511627776) : tuV o p l = fst o p l ∧ tuE o p l = 0 := by
  unfold tuV tuE trV trE; simp [hc, hf]

set_option maxRecDepth 100000 in
set_option maxHeartbeats 4000000 in
theorem back_law (O P t0 : Int) (w : World) :
    Calls Try.prog 6 #[.agg #[.int .i64 O, .int .i32 P], .int .i64 t0] w fun e w' => e = .returned (.bool true) ∧ Bl w w' := by
  have hc := d_ok O P
  have KW := Lib.hid (fun w => tworks_any w)
  have KC := Lib.hid (fun w => dclock_any O P w)
  have KT := Lib.hid (fun w => time_any t0 w)
  have ht := tm_bd t0
  generalize tm t0 = t at *
  generalize dO O = o at *
  generalize dP P = p at *
  obtain ⟨ho, hp⟩ := ckB_iff.1 hc
  have hl := lo_ok hc ht
  have K1 := Lib.hid (fun w => clocal_v hl.1 hl.2 w)
  have hf1 : cel o p (atV o p t) ≤ t := (cel_iff hp.1).2 (Int.le_refl _)
  have hf2 : fst o p (atV o p t) ≤ t := by unfold fst; omega
  have hf3 : 0 ≤ fst o p (atV o p t) := by unfold fst; omega
  have hf4 : fst o p (atV o p t) = 0 ∨ fst o p (atV o p t) = cel o p (atV o p t) := by unfold fst; omega
  have hf5 : cel o p (atV o p t) ≤ fst o p (atV o p t) := by unfold fst; omega
  have htu := tu_ok (l := atV o p t) hc (by omega)
  have K2 := Lib.hid (fun w => ctrue_v htu.1 htu.2 w)
  have hm := atV_mono (o := o) hp.1 hf2
  have hge := (cel_iff hp.1).1 hf5
  have hlt : ∀ s, s < cel o p (atV o p t) → atV o p s < atV o p t := fun s hs => by
    have := fun h => (cel_iff (o := o) (l := atV o p t) (t := s) hp.1).2 h
    omega
  generalize cel o p (atV o p t) = c at *
  generalize fst o p (atV o p t) = f at *
  have hg := lo_ok hc (t := f) (by omega)
  have K3 := Lib.hid (fun w => clocal_v hg.1 hg.2 w)
  by_cases h0 : f = 0
  · subst h0
    generalize atV o p t = l at *
    generalize atV o p 0 = g at *
    clear hc hp ho hf1 hf4 hf5 htu hm hlt hl hg
    go_enter Try.func6, Try.ntmps6
    go_wp2_with fail
    refine (KW.out _).mono ?_; rintro e w1 ⟨rfl, gr⟩
    have k0 := (gr.cell (p := ⟨w.heap.size, 0, none⟩) (by simp; try omega)).trans (show _ = some (Value.int .i64 O) by simp [go_sem])
    have k1 := (gr.cell (p := ⟨w.heap.size, 1, none⟩) (by simp; try omega)).trans (show _ = some (Value.int .i32 P) by simp [go_sem])
    have G := Lib.hid (Bl.trans ((Bl.refl w).alloc _) gr)
    clear gr
    go_wp2_with fail
    refine (KC.out _).mono ?_; rintro e w2 ⟨rfl, gr⟩
    replace G := Lib.hid (G.out.trans gr); clear gr k0 k1
    go_wp2_with fail
    refine (KT.out _).mono ?_; rintro e w3 ⟨rfl, rfl⟩
    go_wp2_with fail
    refine (K1.out _).mono ?_; rintro e w3 ⟨rfl, gr⟩
    have k0 := (gr.cell (p := ⟨w2.heap.size, 0, none⟩) (by simp; try omega)).trans (show _ = some (Value.int .i64 o) by simp [go_sem])
    have k1 := (gr.cell (p := ⟨w2.heap.size, 1, none⟩) (by simp; try omega)).trans (show _ = some (Value.int .i64 p) by simp [go_sem])
    replace G := Lib.hid ((G.out.alloc _).trans gr); clear gr
    go_wp2_with fail
    refine (K2.out _).mono ?_; rintro e w4 ⟨rfl, gr⟩
    replace k0 := cell_keep gr k0
    replace k1 := cell_keep gr k1
    replace G := Lib.hid (G.out.trans gr); clear gr
    go_wp2_with fail
    refine (K3.out _).mono ?_; rintro e w5 ⟨rfl, gr⟩
    replace k0 := cell_keep gr k0
    replace k1 := cell_keep gr k1
    replace G := Lib.hid (G.out.trans gr); clear gr
    have d1 : decide (t < 0) = false := decide_eq_false (by omega)
    have d2 : decide (g < l) = false := decide_eq_false (by omega)
    clear hf2 hf3 hge k0 k1 KW KC KT K1 K2 K3
    go_upto_if 62 with fail
    go_wp2_with fail
    go_ret
    exact ⟨rfl, G.out⟩
  · have h1 : f = c := by omega
    subst h1
    obtain ⟨f1, hfe, q0⟩ : ∃ x, f - 1 = x ∧ IntKind.i64.wrap (f - 1) = x := ⟨_, rfl, IntWalk.i64_in _ (by omega)⟩
    have hlt1 := hlt f1 (by omega)
    have hb := lo_ok hc (t := f1) (by omega)
    have K4 := Lib.hid (fun w => clocal_v hb.1 hb.2 w)
    have hgl : atV o p f = atV o p t := by omega
    rw [hgl] at hge K3
    generalize atV o p t = l at *
    generalize atV o p f1 = g at *
    have hf0 : 0 < f := by omega
    clear hfe hc hp ho hf1 hf4 hf5 htu hm hlt hl hg hge hgl hb h0
    go_enter Try.func6, Try.ntmps6
    go_wp2_with fail
    refine (KW.out _).mono ?_; rintro e w1 ⟨rfl, gr⟩
    have k0 := (gr.cell (p := ⟨w.heap.size, 0, none⟩) (by simp; try omega)).trans (show _ = some (Value.int .i64 O) by simp [go_sem])
    have k1 := (gr.cell (p := ⟨w.heap.size, 1, none⟩) (by simp; try omega)).trans (show _ = some (Value.int .i32 P) by simp [go_sem])
    have G := Lib.hid (Bl.trans ((Bl.refl w).alloc _) gr)
    clear gr
    go_wp2_with fail
    refine (KC.out _).mono ?_; rintro e w2 ⟨rfl, gr⟩
    replace G := Lib.hid (G.out.trans gr); clear gr k0 k1
    go_wp2_with fail
    refine (KT.out _).mono ?_; rintro e w3 ⟨rfl, rfl⟩
    go_wp2_with fail
    refine (K1.out _).mono ?_; rintro e w3 ⟨rfl, gr⟩
    have k0 := (gr.cell (p := ⟨w2.heap.size, 0, none⟩) (by simp; try omega)).trans (show _ = some (Value.int .i64 o) by simp [go_sem])
    have k1 := (gr.cell (p := ⟨w2.heap.size, 1, none⟩) (by simp; try omega)).trans (show _ = some (Value.int .i64 p) by simp [go_sem])
    replace G := Lib.hid ((G.out.alloc _).trans gr); clear gr
    go_wp2_with fail
    refine (K2.out _).mono ?_; rintro e w4 ⟨rfl, gr⟩
    replace k0 := cell_keep gr k0
    replace k1 := cell_keep gr k1
    replace G := Lib.hid (G.out.trans gr); clear gr
    go_wp2_with fail
    refine (K3.out _).mono ?_; rintro e w5 ⟨rfl, gr⟩
    replace k0 := cell_keep gr k0
    replace k1 := cell_keep gr k1
    replace G := Lib.hid (G.out.trans gr); clear gr
    have d1 : decide (t < f) = false := decide_eq_false (by omega)
    have d2 : decide (f < 0) = false := decide_eq_false (by omega)
    have d3 : (f == 0) = false := by rw [beq_eq_false_iff_ne]; omega
    have d4 : decide (g < l) = true := decide_eq_true (by omega)
    clear hf2 hf3 hf0 hlt1 KW KC KT K1 K2 K3
    go_upto_if 62 with fail
    go_upto_if 64 with fail
    go_wp2_with fail
    refine (K4.out _).mono ?_; rintro e w6 ⟨rfl, gr⟩
    replace G := Lib.hid (G.out.trans gr); clear gr
    go_wp2_with fail
    go_ret
    exact ⟨rfl, G.out⟩

end Go.Proofs.Ytaekofoonekkkaa
