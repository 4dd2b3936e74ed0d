/-
  CurveBounds: Backlog and Output return what the reference does.
-/
import Derived.Test.YtgbbglnbolihfaaCk
import Derived.Test.YtgbbglnbolihfaaCn
import Derived.Test.YtgbbglnbolihfaaCw
import Derived.Test.YtgbbglnbolihfaaBw
import Derived.Deep.RegionHeld3
import Derived.Deep.DeepCutAuto
import Derived.Deep.CutBlock
namespace Go.Proofs.Ytgbbglnbolihfaa
open Go.ChangeShapes Go.WideShapes Go.ChangeAt Go.WideMaps Go.WideElems Go.RowKit

theorem two_buckets (x0 x1 x2 x3 : Int) (k : Nat) (hk : k < 2) : ∃ p q : Int, ∀ w, (Instr.index 69 (.agg #[.int .i64 x0, .int .i64 x1, .int .i64 x2, .int .i64 x3]) (.int .i64 k)).run Try.prog w = .ok (.agg #[.int .i64 p, .int .i64 q]) w := by
  match k, hk with
  | 0, _ => exact ⟨x0, x1, fun _ => by kernel_rfl⟩
  | 1, _ => exact ⟨x2, x3, fun _ => by kernel_rfl⟩
theorem three_services (x0 x1 x2 x3 x4 x5 : Int) (k : Nat) (hk : k < 3) : ∃ p q : Int, ∀ w, (Instr.index 66 (.agg #[.int .i64 x0, .int .i64 x1, .int .i64 x2, .int .i64 x3, .int .i64 x4, .int .i64 x5]) (.int .i64 k)).run Try.prog w = .ok (.agg #[.int .i64 p, .int .i64 q]) w := by
  match k, hk with
  | 0, _ => exact ⟨x0, x1, fun _ => by kernel_rfl⟩
  | 1, _ => exact ⟨x2, x3, fun _ => by kernel_rfl⟩
  | 2, _ => exact ⟨x4, x5, fun _ => by kernel_rfl⟩

set_option maxRecDepth 100000 in
set_option maxHeartbeats 8000000 in
theorem bounds_law (bu bR : Int) (B R0 : Int) (gA : Option Addr) (gc : Nat) (sA : Option Addr) (sc : Nat) (gs ss : List Int) (sr sl n0 n1 : Int) (w : World) (hB : 0 ≤ B ∧ B ≤ 4294967295) (hR : 0 ≤ R0 ∧ R0 ≤ 4294967295) (h0 : 0 ≤ n0 ∧ n0 ≤ 4294967295) (h1 : 0 ≤ n1 ∧ n1 ≤ 4294967295) :
    Calls Try.prog 7 #[.agg #[.int .i64 bu, .int .i64 bR], drV B R0 gA gs.length gc sA ss.length sc, .agg #[.int .i64 sr, .int .i64 sl], .agg #[.int .u32 n0, .int .u32 n1]] w fun e w' => e = .returned (.bool true) ∧ Bl w w' := by
  unfold drV
  have KW := Lib.hid (fun w => cworks_any w)
  have KO := Lib.hid (fun w => of_any n0 n1 h0 h1 w)
  generalize ofR n0 = o0 at *
  generalize ofL n1 = o1 at *
  have H0 := Lib.hid (fun w' => (by have := dbucket_any B R0 gA gs.length gc sA ss.length sc w' hB hR; unfold drV at this; exact this : Calls Try.prog 16 #[.agg #[.int .u32 B, .int .u32 R0, .slice gA gs.length gc, .slice sA ss.length sc]] w' fun e w'' => e = .returned (.agg #[.int .i64 (dBu B), .int .i64 (dRa R0)]) ∧ Bl w' w''))
  have bk := bkB_iff.1 (dB_ok B R0)
  generalize dBu B = u at *
  generalize dRa R0 = R at *
  obtain ⟨_, R1, R2⟩ := bk
  obtain ⟨h2, h3⟩ := h1
  clear h0 hB hR
  go_enter Try.func7, Try.ntmps7
  go_wp2_with fail
  have HC := Lib.hid (show ∀ w1, Bl ((((w.alloc (.cells #[.int .i64 bu, .int .i64 bR] 30)).alloc (.cells #[.int .u32 B, .int .u32 R0, .slice gA gs.length gc, .slice sA ss.length sc] 25)).alloc (.cells #[.int .i64 sr, .int .i64 sl] 54)).alloc (.cells #[.int .u32 n0, .int .u32 n1] 64)) w1 →
      (w1.cell? ⟨w.heap.size, 0, none⟩ = some (.int .i64 bu) ∧ w1.cell? ⟨w.heap.size, 1, none⟩ = some (.int .i64 bR) ∧ w1.cell? ⟨w.heap.size + 1, 0, none⟩ = some (.int .u32 B) ∧ w1.cell? ⟨w.heap.size + 1, 1, none⟩ = some (.int .u32 R0) ∧ w1.cell? ⟨w.heap.size + 1, 2, none⟩ = some (.slice gA gs.length gc) ∧ w1.cell? ⟨w.heap.size + 1, 3, none⟩ = some (.slice sA ss.length sc) ∧ w1.cell? ⟨w.heap.size + 1 + 1 + 1, 1, none⟩ = some (.int .u32 n1) ∧ Hid (Sl (w.heap.size + 1 + 1) sr sl w1)) from fun w1 g => by
    have h3 := Sl.new ((w.alloc (.cells #[.int .i64 bu, .int .i64 bR] 30)).alloc (.cells #[.int .u32 B, .int .u32 R0, .slice gA gs.length gc, .slice sA ss.length sc] 25)) sr sl 54
    rw [World.size_alloc, World.size_alloc] at h3
    refine ⟨?_, ?_, ?_, ?_, ?_, ?_, ?_, (h3.go ((Bl.refl _).alloc _)).go g⟩
    · exact (g.cell (p := ⟨w.heap.size, 0, none⟩) (by simp <;> omega)).trans (by simp [go_sem])
    · exact (g.cell (p := ⟨w.heap.size, 1, none⟩) (by simp <;> omega)).trans (by simp [go_sem])
    · exact (g.cell (p := ⟨w.heap.size + 1, 0, none⟩) (by simp <;> omega)).trans (by simp [go_sem])
    · exact (g.cell (p := ⟨w.heap.size + 1, 1, none⟩) (by simp <;> omega)).trans (by simp [go_sem])
    · exact (g.cell (p := ⟨w.heap.size + 1, 2, none⟩) (by simp <;> omega)).trans (by simp [go_sem])
    · exact (g.cell (p := ⟨w.heap.size + 1, 3, none⟩) (by simp <;> omega)).trans (by simp [go_sem])
    · exact (g.cell (p := ⟨w.heap.size + 1 + 1 + 1, 1, none⟩) (by simp <;> omega)).trans (by simp [go_sem]))
  have HB := Lib.hid (show Bl w ((((w.alloc (.cells #[.int .i64 bu, .int .i64 bR] 30)).alloc (.cells #[.int .u32 B, .int .u32 R0, .slice gA gs.length gc, .slice sA ss.length sc] 25)).alloc (.cells #[.int .i64 sr, .int .i64 sl] 54)).alloc (.cells #[.int .u32 n0, .int .u32 n1] 64)) from ((((Bl.refl w).alloc _).alloc _).alloc _).alloc _)
  generalize ((((w.alloc (.cells #[.int .i64 bu, .int .i64 bR] 30)).alloc (.cells #[.int .u32 B, .int .u32 R0, .slice gA gs.length gc, .slice sA ss.length sc] 25)).alloc (.cells #[.int .i64 sr, .int .i64 sl] 54)).alloc (.cells #[.int .u32 n0, .int .u32 n1] 64)) = W at *
  generalize w.heap.size = a at *
  refine (KO.out _).mono ?_; rintro e w1 ⟨rfl, gr⟩
  have SO := Lib.hid (Sl.new w1 o0 o1 54)
  have B1 := Lib.hid (gr.alloc (.cells #[.int .i64 o0, .int .i64 o1] 54))
  clear gr
  go_upto_region 2 with fail
  generalize (w1.alloc (.cells #[.int .i64 o0, .int .i64 o1] 54)) = W1 at *
  generalize w1.heap.size = ob at *
  have HD := Lib.hid (show ∀ w', Bl W1 w' → (w'.cell? ⟨a + 1, 0, none⟩ = some (.int .u32 B) ∧ w'.cell? ⟨a + 1, 1, none⟩ = some (.int .u32 R0) ∧ w'.cell? ⟨a + 1, 2, none⟩ = some (.slice gA gs.length gc) ∧ w'.cell? ⟨a + 1, 3, none⟩ = some (.slice sA ss.length sc) ∧ w'.cell? ⟨a + 1 + 1 + 1, 1, none⟩ = some (.int .u32 n1) ∧ Hid (Bl W1 w')) from fun w' g => (fun h => ⟨h.2.2.1, h.2.2.2.1, h.2.2.2.2.1, h.2.2.2.2.2.1, h.2.2.2.2.2.2.1, g⟩) (HC.out w' (B1.out.trans g)))
  obtain ⟨k0, k1, k2, k3, k4, _⟩ := HD.out W1 (Bl.refl _)
  have hfl : ∀ w', (Instr.field 30 (.agg #[.int .i64 u, .int .i64 R]) 1).run Try.prog w' = .ok (.int .i64 R) w' := fun _ => by kernel_rfl
  go_cut [10, 28, 29, 30, 31, 32, 33, 34, 35, 36, 37, 38, 39, 40, 41] (fun v10 _ _ _ _ _ _ _ _ _ _ _ _ _ _ wx => ∃ b f0 f1, v10 = .pointer (some ⟨b, 0, none⟩) ∧ Hid (Sl b f0 f1 wx) ∧ Hid (Bl W1 wx))
  case first =>
    by_cases hmin : R + n1 % 999 < 2097152
    · go_region_held3 (fun w' => w'.cell? ⟨a + 1, 0, none⟩ = some (.int .u32 B) ∧ w'.cell? ⟨a + 1, 1, none⟩ = some (.int .u32 R0) ∧ w'.cell? ⟨a + 1, 2, none⟩ = some (.slice gA gs.length gc) ∧ w'.cell? ⟨a + 1, 3, none⟩ = some (.slice sA ss.length sc) ∧ w'.cell? ⟨a + 1 + 1 + 1, 1, none⟩ = some (.int .u32 n1) ∧ Hid (Bl W1 w'))
        (first | with_reducible assumption | (refine HD.out _ ?_; (repeat (first | exact BA.out | exact Bl.refl _ | with_reducible refine Bl.drew ?_ | with_reducible refine Bl.alloc ?_ _ | with_reducible refine Bl.setCell ?_ (by first | exact Nat.le_refl _ | exact hge) _)); done) | fail)
        (first | (go_at_call 16; rename _ ∧ _ ∧ _ ∧ _ ∧ _ ∧ Hid (Bl W1 _) => hq; (with_reducible refine (H0.out _).mono ?_); rintro e w2 ⟨rfl, hgr⟩; have BA := Lib.hid (Bl.trans (Hid.out hq.2.2.2.2.2) hgr); first | (with_reducible have q1 := Sl.newD hgr; have q2 := q1; obtain ⟨g0, g1, g2, g3, g4⟩ := q2) | (have q1 := True.intro)) | fail)
      all_goals go_wp2_with fail
      all_goals go_meet
      all_goals first
        | exact ⟨_, _, _, rfl, Lib.hid (Sl.new _ _ _ _), Lib.hid (BA.out.alloc _)⟩
        | exact ⟨_, _, _, rfl, Lib.hid ((q1.set0 _).set1 _), Lib.hid ((BA.out.setCell (Nat.le_refl _) _).setCell (Nat.le_refl _) _)⟩
        | (show False)
    · go_region_held3 (fun w' => w'.cell? ⟨a + 1, 0, none⟩ = some (.int .u32 B) ∧ w'.cell? ⟨a + 1, 1, none⟩ = some (.int .u32 R0) ∧ w'.cell? ⟨a + 1, 2, none⟩ = some (.slice gA gs.length gc) ∧ w'.cell? ⟨a + 1, 3, none⟩ = some (.slice sA ss.length sc) ∧ w'.cell? ⟨a + 1 + 1 + 1, 1, none⟩ = some (.int .u32 n1) ∧ Hid (Bl W1 w'))
        (first | with_reducible assumption | (refine HD.out _ ?_; (repeat (first | exact BA.out | exact Bl.refl _ | with_reducible refine Bl.drew ?_ | with_reducible refine Bl.alloc ?_ _ | with_reducible refine Bl.setCell ?_ (by first | exact Nat.le_refl _ | exact hge) _)); done) | fail)
        (first | (go_at_call 16; rename _ ∧ _ ∧ _ ∧ _ ∧ _ ∧ Hid (Bl W1 _) => hq; (with_reducible refine (H0.out _).mono ?_); rintro e w2 ⟨rfl, hgr⟩; have BA := Lib.hid (Bl.trans (Hid.out hq.2.2.2.2.2) hgr); first | (with_reducible have q1 := Sl.newD hgr; have q2 := q1; obtain ⟨g0, g1, g2, g3, g4⟩ := q2) | (have q1 := True.intro)) | fail)
      all_goals go_wp2_with fail
      all_goals go_meet
      all_goals first
        | exact ⟨_, _, _, rfl, Lib.hid (Sl.new _ _ _ _), Lib.hid (BA.out.alloc _)⟩
        | exact ⟨_, _, _, rfl, Lib.hid ((q1.set0 _).set1 _), Lib.hid ((BA.out.setCell (Nat.le_refl _) _).setCell (Nat.le_refl _) _)⟩
        | (show False)
  obtain ⟨fb, f0, f1, rfl, hsf, hwx⟩ := hcut
  rename World => wx
  have B2 := Lib.hid (B1.out.trans hwx.out)
  have SO2 := Lib.hid (SO.out.go hwx.out)
  clear k0 k1 k2 k3 k4 HD hfl hwx SO B1
  have HD := Lib.hid (show ∀ w', Bl wx w' → (w'.cell? ⟨a, 0, none⟩ = some (.int .i64 bu) ∧ w'.cell? ⟨a, 1, none⟩ = some (.int .i64 bR) ∧ w'.cell? ⟨a + 1, 0, none⟩ = some (.int .u32 B) ∧ w'.cell? ⟨a + 1, 1, none⟩ = some (.int .u32 R0) ∧ w'.cell? ⟨a + 1, 2, none⟩ = some (.slice gA gs.length gc) ∧ w'.cell? ⟨a + 1, 3, none⟩ = some (.slice sA ss.length sc) ∧ Hid (Bl wx w')) from fun w' g => (fun h => ⟨h.1, h.2.1, h.2.2.1, h.2.2.2.1, h.2.2.2.2.1, h.2.2.2.2.2.1, g⟩) (HC.out w' (B2.out.trans g)))
  obtain ⟨k0, k1, k2, k3, k4, k5, _⟩ := HD.out wx (Bl.refl _)
  go_upto_region 3 with fail
  go_region_held3 (fun w' => w'.cell? ⟨a, 0, none⟩ = some (.int .i64 bu) ∧ w'.cell? ⟨a, 1, none⟩ = some (.int .i64 bR) ∧ w'.cell? ⟨a + 1, 0, none⟩ = some (.int .u32 B) ∧ w'.cell? ⟨a + 1, 1, none⟩ = some (.int .u32 R0) ∧ w'.cell? ⟨a + 1, 2, none⟩ = some (.slice gA gs.length gc) ∧ w'.cell? ⟨a + 1, 3, none⟩ = some (.slice sA ss.length sc) ∧ Hid (Bl wx w'))
    (first | with_reducible assumption | (refine HD.out _ ?_; (repeat (first | exact BA.out | exact Bl.refl _ | with_reducible refine Bl.drew ?_)); done) | fail)
    (first | (go_at_call 16; rename _ ∧ _ ∧ _ ∧ _ ∧ _ ∧ _ ∧ Hid (Bl wx _) => hq; (with_reducible refine (H0.out _).mono ?_); rintro e w2 ⟨rfl, hgr⟩; have BA := Lib.hid (Bl.trans (Hid.out hq.2.2.2.2.2.2) hgr)) | fail)
  go_wp2_with fail
  go_loopw [46] (fun iv wr => ∃ k : Nat, k ≤ 2 ∧ iv = .int .i64 k ∧ Hid (Bl wx wr)) (fun iv _ => 2 - (intOf iv).toNat)
  case atStart => exact ⟨0, by omega, rfl, Lib.hid (And.right (And.right (And.right (And.right (And.right (And.right (by assumption : _ ∧ _ ∧ _ ∧ _ ∧ _ ∧ _ ∧ Hid (Bl wx _)))))))).out⟩
  case round =>
    clear k0 k1 k2 k3 k4 k5 HD H0
    obtain ⟨k, hk, rfl, hw⟩ := hrel
    by_cases hlt : k < 2
    · obtain ⟨p, q, hrun⟩ := two_buckets bu bR u R k hlt
      have SS := (HC.out wr (B2.out.trans hw.out)).2.2.2.2.2.2.2.out
      have SP := SO2.out.go hw.out
      have SQ := hsf.out.go hw.out
      have c0 := SS.c0
      have c1 := SS.c1
      have c2 := SS.lt
      have c3 := SP.c0
      have c4 := SP.c1
      have c5 := SP.lt
      have c6 := SQ.c0
      have c7 := SQ.c1
      have c8 := SQ.lt
      have hltk : (k : Int) < 2 := by omega
      go_wp2_with fail
      clear c0 c1 c2 c3 c4 c5 c6 c7 c8 SS SP SQ
      have SBK := Lib.hid (Sl.new wr p q 30)
      have BI := Lib.hid (hw.out.alloc (.cells #[.int .i64 p, .int .i64 q] 30))
      generalize (wr.alloc (.cells #[.int .i64 p, .int .i64 q] 30)) = W5 at *
      generalize wr.heap.size = pb at *
      go_loopw [53] (fun jv wj => ∃ m : Nat, m ≤ 3 ∧ jv = .int .i64 m ∧ Hid (Bl W5 wj)) (fun jv _ => 3 - (intOf jv).toNat)
      case atStart => exact ⟨0, by omega, rfl, Bl.refl _⟩
      case round =>
        clear hrun
        obtain ⟨m, hm, rfl, hwj⟩ := hrel
        by_cases hlm : m < 3
        · obtain ⟨x, y, hrun⟩ := three_services sr sl o0 o1 f0 f1 m hlm
          obtain ⟨V, hV⟩ : ∃ V, baV p q x y = V := ⟨_, rfl⟩
          obtain ⟨E, hE⟩ : ∃ E, flE [(p, q)] x y = E := ⟨_, rfl⟩
          obtain ⟨OB, hOB⟩ : ∃ v, ouB p q x y = v := ⟨_, rfl⟩
          obtain ⟨OR, hOR⟩ : ∃ v, ouR p q x y = v := ⟨_, rfl⟩
          obtain ⟨OE, hOE⟩ : ∃ v, ouE p q x y = v := ⟨_, rfl⟩
          have KA := Lib.hid (fun W => by have := backlog_any p q x y W; rw [hV, hE] at this; exact this)
          have KB := Lib.hid (fun W => by have := rbacklog_any p q x y W; rw [hV, hE] at this; exact this)
          have KC := Lib.hid (fun W => by have := output_any p q x y W; rw [hOB, hOR, hOE] at this; exact this)
          have KD := Lib.hid (fun W => by have := routput_any p q x y W; rw [hOB, hOR, hOE] at this; exact this)
          clear hV hE hOB hOR hOE
          have SB1 := Lib.hid (SBK.out.go hwj.out)
          have hltm : (m : Int) < 3 := by omega
          have cB0 := SB1.out.c0
          have cB1 := SB1.out.c1
          have cBl := SB1.out.lt
          go_wp2_with fail
          refine Calls.mono (KA.out _) ?_
          rintro e w2 ⟨rfl, gr⟩
          have SX2 := Lib.hid (Sl.newP gr)
          have g2 : Bl wr w2 := Bl.trans (by (repeat (first | exact Bl.refl _ | with_reducible refine Bl.alloc ?_ _))) gr
          have SB2 := Lib.hid (SB1.out.go g2)
          have BW2 := Lib.hid (hwj.out.trans g2)
          clear gr g2 SB1 cB0 cB1 cBl
          generalize wr.heap.size = xb at *
          have cB0 := SB2.out.c0
          have cB1 := SB2.out.c1
          have cBl := SB2.out.lt
          have cX0 := SX2.out.c0
          have cX1 := SX2.out.c1
          have cXl := SX2.out.lt
          go_wp2_with fail
          refine Calls.mono (KB.out _) ?_
          rintro e w3 ⟨rfl, gr⟩
          have g3 : Bl w2 w3 := Bl.trans (by (repeat (first | exact Bl.refl _ | with_reducible refine Bl.alloc ?_ _))) gr
          have SB3 := Lib.hid (SB2.out.go g3)
          have SX3 := Lib.hid (SX2.out.go g3)
          have BW3 := Lib.hid (BW2.out.trans g3)
          clear gr g3 BW2 SB2 cB0 cB1 cBl SX2 cX0 cX1 cXl
          have cB0 := SB3.out.c0
          have cB1 := SB3.out.c1
          have cBl := SB3.out.lt
          have cX0 := SX3.out.c0
          have cX1 := SX3.out.c1
          have cXl := SX3.out.lt
          go_wp2_with fail
          refine Calls.mono (KC.out _) ?_
          rintro e w4 ⟨rfl, gr⟩
          have g4 : Bl w3 w4 := Bl.trans (by (repeat (first | exact Bl.refl _ | with_reducible refine Bl.alloc ?_ _))) gr
          have SB4 := Lib.hid (SB3.out.go g4)
          have SX4 := Lib.hid (SX3.out.go g4)
          have BW4 := Lib.hid (BW3.out.trans g4)
          clear gr g4 BW3 SB3 cB0 cB1 cBl SX3 cX0 cX1 cXl
          have cB0 := SB4.out.c0
          have cB1 := SB4.out.c1
          have cBl := SB4.out.lt
          have cX0 := SX4.out.c0
          have cX1 := SX4.out.c1
          have cXl := SX4.out.lt
          go_wp2_with fail
          refine Calls.mono (KD.out _) ?_
          rintro e w5 ⟨rfl, gr⟩
          have SO5 := Lib.hid (Sl.newP gr)
          generalize w4.heap.size = zb at *
          have g5 : Bl w4 w5 := Bl.trans (by (repeat (first | exact Bl.refl _ | with_reducible refine Bl.alloc ?_ _))) gr
          have SB5 := Lib.hid (SB4.out.go g5)
          have SX5 := Lib.hid (SX4.out.go g5)
          have BW5 := Lib.hid (BW4.out.trans g5)
          clear gr g5 BW4 SB4 cB0 cB1 cBl SX4 cX0 cX1 cXl
          have cB0 := SB5.out.c0
          have cB1 := SB5.out.c1
          have cBl := SB5.out.lt
          have cX0 := SX5.out.c0
          have cX1 := SX5.out.c1
          have cXl := SX5.out.lt
          have o0' := SO5.out.c0
          have o1' := SO5.out.c1
          have ol' := SO5.out.lt
          go_wp2_with fail
          go_roundw
          case rel => exact ⟨m + 1, by omega, by go_num, Lib.hid (BW5.out.alloc _)⟩
          case measure => simp [intOf]; omega
        · obtain rfl : m = 3 := by omega
          go_wp2_with fail
          go_roundw
          case rel => exact ⟨k + 1, by omega, by go_num, Lib.hid (BI.out.trans hwj.out)⟩
          case measure => simp [intOf]; omega
    · obtain rfl : k = 2 := by omega
      go_wp2_with fail
      refine (KW.out _).mono ?_; rintro e w9 ⟨rfl, gr⟩
      have B9 := Lib.hid (HB.out.trans (B2.out.trans (hw.out.trans gr)))
      clear gr
      go_wp2_with fail
      go_ret
      exact ⟨rfl, B9.out⟩

end Go.Proofs.Ytgbbglnbolihfaa
