/-
  ClockSpans: Elapsed, Offset and Bound agree with the reference for any arguments.
-/
import Derived.Test.YtaekofoonekkkaaTg
import Derived.Test.YtaekofoonekkkaaTh
namespace Go.Proofs.Ytaekofoonekkkaa
open Go.RowKit

attribute [local go_sem] Oper.semAt_some

theorem two_clocks3 (a b c d : Int) (k : Nat) (hk : k < 2) : ∃ p q : Int, ∀ w, (Instr.index 28 (.agg #[.int .i64 a, .int .i64 b, .int .i64 c, .int .i64 d]) (.int .i64 k)).run Try.prog w = .ok (.agg #[.int .i64 p, .int .i64 q]) w := by
  match k, hk with
  | 0, _ => exact ⟨a, b, fun _ => by kernel_rfl⟩
  | 1, _ => exact ⟨c, d, fun _ => by kernel_rfl⟩

set_option maxRecDepth 100000 in
set_option maxHeartbeats 4000000 in
theorem spans_law (o p O P O' P' t n m : Int) (w : World) :
    Calls Try.prog 5 #[.agg #[.int .i64 o, .int .i64 p], .agg #[.int .i64 O, .int .i32 P, .int .i64 O', .int .i32 P'], .int .i64 t, .int .i64 n, .int .i64 m] w fun e w' => e = .returned (.bool true) ∧ Bl w w' := by
  have KW := Lib.hid (fun w => tworks_any w)
  have KA := Lib.hid (fun w => dclock_any O P w)
  have KB := Lib.hid (fun w => dclock_any O' P' w)
  have K1 := Lib.hid (fun x y w => celapsed_any x y t n w)
  have K2 := Lib.hid (fun x y w => relapsed_any x y t n w)
  generalize dO O = o1 at *
  generalize dP P = p1 at *
  generalize dO O' = o2 at *
  generalize dP P' = p2 at *
  have K3 := Lib.hid (fun x y w => coffset_any o2 p2 x y t w)
  have K4 := Lib.hid (fun x y w => roffset_any o2 p2 x y t w)
  have K5 := Lib.hid (fun x y w => coffset_any x y o2 p2 t w)
  have K6 := Lib.hid (fun x y w => roffset_any x y o2 p2 t w)
  have K7 := Lib.hid (fun w => cbound_any m n w)
  have K8 := Lib.hid (fun w => rbound_any m n w)
  generalize boV m n = v7 at *
  generalize boE m n = u7 at *
  go_enter Try.func5, Try.ntmps5
  go_wp2_with fail
  refine (KW.out _).mono ?_; rintro e W ⟨rfl, gr⟩
  have k0 := (gr.cell (p := ⟨w.heap.size, 0, none⟩) (by simp; try omega)).trans (show _ = some (Value.int .i64 o) by simp [go_sem])
  have k1 := (gr.cell (p := ⟨w.heap.size, 1, none⟩) (by simp; try omega)).trans (show _ = some (Value.int .i64 p) by simp [go_sem])
  have k2 := (gr.cell (p := ⟨w.heap.size + 1, 0, none⟩) (by simp; try omega)).trans (show _ = some (Value.int .i64 O) by simp [go_sem])
  have k3 := (gr.cell (p := ⟨w.heap.size + 1, 1, none⟩) (by simp; try omega)).trans (show _ = some (Value.int .i32 P) by simp [go_sem])
  have k4 := (gr.cell (p := ⟨w.heap.size + 1, 2, none⟩) (by simp; try omega)).trans (show _ = some (Value.int .i64 O') by simp [go_sem])
  have k5 := (gr.cell (p := ⟨w.heap.size + 1, 3, none⟩) (by simp; try omega)).trans (show _ = some (Value.int .i32 P') by simp [go_sem])
  have G := Lib.hid (Bl.trans (((Bl.refl w).alloc _).alloc _) gr)
  clear gr
  generalize w.heap.size = a at *
  go_upto_region 3 with fail
  have HD := Lib.hid (show ∀ w', Bl W w' → (w'.cell? ⟨a, 0, none⟩ = some (.int .i64 o) ∧ w'.cell? ⟨a, 1, none⟩ = some (.int .i64 p) ∧ w'.cell? ⟨a + 1, 0, none⟩ = some (.int .i64 O) ∧ w'.cell? ⟨a + 1, 1, none⟩ = some (.int .i32 P) ∧ w'.cell? ⟨a + 1, 2, none⟩ = some (.int .i64 O') ∧ w'.cell? ⟨a + 1, 3, none⟩ = some (.int .i32 P') ∧ Hid (Bl W w')) from fun w' g => ⟨cell_keep g k0, cell_keep g k1, cell_keep g k2, cell_keep g k3, cell_keep g k4, cell_keep g k5, g⟩)
  go_region_held3 (fun w' => w'.cell? ⟨a, 0, none⟩ = some (.int .i64 o) ∧ w'.cell? ⟨a, 1, none⟩ = some (.int .i64 p) ∧ w'.cell? ⟨a + 1, 0, none⟩ = some (.int .i64 O) ∧ w'.cell? ⟨a + 1, 1, none⟩ = some (.int .i32 P) ∧ w'.cell? ⟨a + 1, 2, none⟩ = some (.int .i64 O') ∧ w'.cell? ⟨a + 1, 3, none⟩ = some (.int .i32 P') ∧ Hid (Bl W w'))
    (first | with_reducible assumption | (refine HD.out _ ?_; (repeat (first | exact BA.out | exact Bl.refl _ | with_reducible refine Bl.drew ?_)); done) | fail)
    (first | (go_at_call 11; rename _ ∧ _ ∧ _ ∧ _ ∧ _ ∧ _ ∧ Hid (Bl W _) => hq; (with_reducible refine (KA.out _).mono ?_); rintro e w2 ⟨rfl, hgr⟩; have BA := Lib.hid (Bl.trans (Hid.out hq.2.2.2.2.2.2) hgr)) | fail)
  rename _ ∧ _ ∧ _ ∧ _ ∧ _ ∧ _ ∧ Hid (Bl W _) => hX
  clear k0 k1 k2 k3 k4 k5
  obtain ⟨k0, k1, k2, k3, k4, k5, hX⟩ := hX
  replace G := Lib.hid (G.out.trans hX.out)
  clear hX HD
  rename World => W'
  clear k0 k1 k2 k3 KA KW
  have HJ := Lib.hid (show ∀ w', Bl W' w' → (w'.cell? ⟨a + 1, 2, none⟩ = some (.int .i64 O') ∧ w'.cell? ⟨a + 1, 3, none⟩ = some (.int .i32 P')) from fun w' g => ⟨cell_keep g k4, cell_keep g k5⟩)
  clear k4 k5
  go_wp2_with fail
  go_loopw [28] (fun iv wr => ∃ k : Nat, k ≤ 2 ∧ iv = .int .i64 k ∧ Hid (Bl W' wr)) (fun iv _ => 2 - (intOf iv).toNat)
  case atStart => exact ⟨0, by omega, rfl, Bl.refl _⟩
  case round =>
    obtain ⟨k, hk, rfl, hw⟩ := hrel
    by_cases hk2 : k < 2
    · obtain ⟨x, y, hrun⟩ := two_clocks3 o p o1 p1 k hk2
      have C1 := Lib.hid (fun w => K1.out x y w)
      have C2 := Lib.hid (fun w => K2.out x y w)
      have C3 := Lib.hid (fun w => K3.out x y w)
      have C4 := Lib.hid (fun w => K4.out x y w)
      have C5 := Lib.hid (fun w => K5.out x y w)
      have C6 := Lib.hid (fun w => K6.out x y w)
      clear K1 K2 K3 K4 K5 K6 K7 K8
      generalize elV x y t n = v1 at *
      generalize elE x y t n = u1 at *
      generalize ofV o2 p2 x y t = v2 at *
      generalize ofE o2 p2 x y t = u2 at *
      generalize ofV x y o2 p2 t = v3 at *
      generalize ofE x y o2 p2 t = u3 at *
      go_wp2_with fail
      refine (C1.out _).mono ?_; rintro e w4 ⟨rfl, gr⟩
      have k0 := (gr.cell (p := ⟨wr.heap.size, 0, none⟩) (by simp; try omega)).trans (show _ = some (Value.int .i64 x) by simp [go_sem])
      have k1 := (gr.cell (p := ⟨wr.heap.size, 1, none⟩) (by simp; try omega)).trans (show _ = some (Value.int .i64 y) by simp [go_sem])
      replace hw := Lib.hid ((hw.out.alloc _).trans gr); clear gr
      go_wp2_with fail
      refine (C2.out _).mono ?_; rintro e W2 ⟨rfl, gr⟩
      replace k0 := cell_keep gr k0
      replace k1 := cell_keep gr k1
      replace hw := Lib.hid (hw.out.trans gr); clear gr C1 C2
      generalize wr.heap.size = b at *
      obtain ⟨k2, k3⟩ := HJ.out _ hw.out
      go_upto_region 10 with fail
      have HD := Lib.hid (show ∀ w', Bl W2 w' → (w'.cell? ⟨b, 0, none⟩ = some (.int .i64 x) ∧ w'.cell? ⟨b, 1, none⟩ = some (.int .i64 y) ∧ w'.cell? ⟨a + 1, 2, none⟩ = some (.int .i64 O') ∧ w'.cell? ⟨a + 1, 3, none⟩ = some (.int .i32 P') ∧ Hid (Bl W2 w')) from fun w' g => ⟨cell_keep g k0, cell_keep g k1, cell_keep g k2, cell_keep g k3, g⟩)
      go_region_held3 (fun w' => w'.cell? ⟨b, 0, none⟩ = some (.int .i64 x) ∧ w'.cell? ⟨b, 1, none⟩ = some (.int .i64 y) ∧ w'.cell? ⟨a + 1, 2, none⟩ = some (.int .i64 O') ∧ w'.cell? ⟨a + 1, 3, none⟩ = some (.int .i32 P') ∧ Hid (Bl W2 w'))
        (first | with_reducible assumption | (refine HD.out _ ?_; (repeat (first | exact BA.out | exact Bl.refl _ | with_reducible refine Bl.drew ?_)); done) | fail)
        (first | (go_at_call 11; rename _ ∧ _ ∧ _ ∧ _ ∧ Hid (Bl W2 _) => hq; (with_reducible refine (KB.out _).mono ?_); rintro e w2 ⟨rfl, hgr⟩; have BA := Lib.hid (Bl.trans (Hid.out hq.2.2.2.2) hgr)) | (go_at_call 20; rename _ ∧ _ ∧ _ ∧ _ ∧ Hid (Bl W2 _) => hq; (with_reducible refine (C3.out _).mono ?_); rintro e w2 ⟨rfl, hgr⟩; have BA := Lib.hid (Bl.trans (Hid.out hq.2.2.2.2) hgr)) | fail)
      rename _ ∧ _ ∧ _ ∧ _ ∧ Hid (Bl W2 _) => hX
      clear k0 k1 k2 k3
      obtain ⟨k0, k1, k2, k3, hX⟩ := hX
      replace hw := Lib.hid (hw.out.trans hX.out)
      clear hX HD
      rename World => W2'
      go_upto_region 11 with fail
      have HD := Lib.hid (show ∀ w', Bl W2' w' → (w'.cell? ⟨b, 0, none⟩ = some (.int .i64 x) ∧ w'.cell? ⟨b, 1, none⟩ = some (.int .i64 y) ∧ w'.cell? ⟨a + 1, 2, none⟩ = some (.int .i64 O') ∧ w'.cell? ⟨a + 1, 3, none⟩ = some (.int .i32 P') ∧ Hid (Bl W2' w')) from fun w' g => ⟨cell_keep g k0, cell_keep g k1, cell_keep g k2, cell_keep g k3, g⟩)
      go_region_held3 (fun w' => w'.cell? ⟨b, 0, none⟩ = some (.int .i64 x) ∧ w'.cell? ⟨b, 1, none⟩ = some (.int .i64 y) ∧ w'.cell? ⟨a + 1, 2, none⟩ = some (.int .i64 O') ∧ w'.cell? ⟨a + 1, 3, none⟩ = some (.int .i32 P') ∧ Hid (Bl W2' w'))
        (first | with_reducible assumption | (refine HD.out _ ?_; (repeat (first | exact BA.out | exact Bl.refl _ | with_reducible refine Bl.drew ?_)); done) | fail)
        (first | (go_at_call 11; rename _ ∧ _ ∧ _ ∧ _ ∧ Hid (Bl W2' _) => hq; (with_reducible refine (KB.out _).mono ?_); rintro e w2 ⟨rfl, hgr⟩; have BA := Lib.hid (Bl.trans (Hid.out hq.2.2.2.2) hgr)) | (go_at_call 21; rename _ ∧ _ ∧ _ ∧ _ ∧ Hid (Bl W2' _) => hq; (with_reducible refine (C4.out _).mono ?_); rintro e w2 ⟨rfl, hgr⟩; have BA := Lib.hid (Bl.trans (Hid.out hq.2.2.2.2) hgr)) | fail)
      rename _ ∧ _ ∧ _ ∧ _ ∧ Hid (Bl W2' _) => hX
      clear k0 k1 k2 k3
      obtain ⟨k0, k1, k2, k3, hX⟩ := hX
      replace hw := Lib.hid (hw.out.trans hX.out)
      clear hX HD
      rename World => W2''
      go_upto_region 14 with fail
      have HD := Lib.hid (show ∀ w', Bl W2'' w' → (w'.cell? ⟨b, 0, none⟩ = some (.int .i64 x) ∧ w'.cell? ⟨b, 1, none⟩ = some (.int .i64 y) ∧ w'.cell? ⟨a + 1, 2, none⟩ = some (.int .i64 O') ∧ w'.cell? ⟨a + 1, 3, none⟩ = some (.int .i32 P') ∧ Hid (Bl W2'' w')) from fun w' g => ⟨cell_keep g k0, cell_keep g k1, cell_keep g k2, cell_keep g k3, g⟩)
      go_region_held3 (fun w' => w'.cell? ⟨b, 0, none⟩ = some (.int .i64 x) ∧ w'.cell? ⟨b, 1, none⟩ = some (.int .i64 y) ∧ w'.cell? ⟨a + 1, 2, none⟩ = some (.int .i64 O') ∧ w'.cell? ⟨a + 1, 3, none⟩ = some (.int .i32 P') ∧ Hid (Bl W2'' w'))
        (first | with_reducible assumption | (refine HD.out _ ?_; (repeat (first | exact BA.out | exact Bl.refl _ | with_reducible refine Bl.drew ?_)); done) | fail)
        (first | (go_at_call 11; rename _ ∧ _ ∧ _ ∧ _ ∧ Hid (Bl W2'' _) => hq; (with_reducible refine (KB.out _).mono ?_); rintro e w2 ⟨rfl, hgr⟩; have BA := Lib.hid (Bl.trans (Hid.out hq.2.2.2.2) hgr)) | (go_at_call 20; rename _ ∧ _ ∧ _ ∧ _ ∧ Hid (Bl W2'' _) => hq; (with_reducible refine (C5.out _).mono ?_); rintro e w2 ⟨rfl, hgr⟩; have BA := Lib.hid (Bl.trans (Hid.out hq.2.2.2.2) hgr)) | fail)
      rename _ ∧ _ ∧ _ ∧ _ ∧ Hid (Bl W2'' _) => hX
      clear k0 k1 k2 k3
      obtain ⟨k0, k1, k2, k3, hX⟩ := hX
      replace hw := Lib.hid (hw.out.trans hX.out)
      clear hX HD
      rename World => W2'''
      go_upto_region 15 with fail
      have HD := Lib.hid (show ∀ w', Bl W2''' w' → (w'.cell? ⟨b, 0, none⟩ = some (.int .i64 x) ∧ w'.cell? ⟨b, 1, none⟩ = some (.int .i64 y) ∧ w'.cell? ⟨a + 1, 2, none⟩ = some (.int .i64 O') ∧ w'.cell? ⟨a + 1, 3, none⟩ = some (.int .i32 P') ∧ Hid (Bl W2''' w')) from fun w' g => ⟨cell_keep g k0, cell_keep g k1, cell_keep g k2, cell_keep g k3, g⟩)
      go_region_held3 (fun w' => w'.cell? ⟨b, 0, none⟩ = some (.int .i64 x) ∧ w'.cell? ⟨b, 1, none⟩ = some (.int .i64 y) ∧ w'.cell? ⟨a + 1, 2, none⟩ = some (.int .i64 O') ∧ w'.cell? ⟨a + 1, 3, none⟩ = some (.int .i32 P') ∧ Hid (Bl W2''' w'))
        (first | with_reducible assumption | (refine HD.out _ ?_; (repeat (first | exact BA.out | exact Bl.refl _ | with_reducible refine Bl.drew ?_)); done) | fail)
        (first | (go_at_call 11; rename _ ∧ _ ∧ _ ∧ _ ∧ Hid (Bl W2''' _) => hq; (with_reducible refine (KB.out _).mono ?_); rintro e w2 ⟨rfl, hgr⟩; have BA := Lib.hid (Bl.trans (Hid.out hq.2.2.2.2) hgr)) | (go_at_call 21; rename _ ∧ _ ∧ _ ∧ _ ∧ Hid (Bl W2''' _) => hq; (with_reducible refine (C6.out _).mono ?_); rintro e w2 ⟨rfl, hgr⟩; have BA := Lib.hid (Bl.trans (Hid.out hq.2.2.2.2) hgr)) | fail)
      rename _ ∧ _ ∧ _ ∧ _ ∧ Hid (Bl W2''' _) => hX
      clear k0 k1 k2 k3
      obtain ⟨k0, k1, k2, k3, hX⟩ := hX
      replace hw := Lib.hid (hw.out.trans hX.out)
      clear hX HD
      rename World => W2''''
      clear k0 k1 k2 k3
      go_wp2_with fail
      go_roundw
      case rel => exact ⟨k + 1, by omega, by go_num, hw⟩
      case measure => simp [intOf]; omega
    · clear K1 K2 K3 K4 K5 K6
      go_wp2_with fail
      refine (K7.out _).mono ?_; rintro e w4 ⟨rfl, gr⟩
      go_wp2_with fail
      refine (K8.out _).mono ?_; rintro e w5 ⟨rfl, gr'⟩
      go_wp2_with fail
      go_ret
      exact ⟨rfl, ((G.out.trans hw.out).trans gr).trans gr'⟩

end Go.Proofs.Ytaekofoonekkkaa
