/-
  CurveChecks: Check and Join return what the reference does.
-/
import Derived.Test.YtgbbglnbolihfaaCk
import Derived.Test.YtgbbglnbolihfaaCn
import Derived.Test.YtgbbglnbolihfaaMab
import Derived.Test.YtgbbglnbolihfaaBw
import Derived.Deep.RegionHeld3
import Derived.Deep.DeepCutAuto
import Derived.Deep.CutBlock
namespace Go.Proofs.Ytgbbglnbolihfaa
open Go.ChangeShapes Go.WideShapes Go.ChangeAt Go.WideMaps Go.WideElems Go.RowKit

theorem five_pairs (x0 x1 x2 x3 x4 x5 x6 x7 x8 x9 x10 x11 x12 x13 x14 x15 x16 x17 x18 x19 : Int) (k : Nat) (hk : k < 5) : ∃ p q p' q' : Int, ∀ w, (Instr.index 58 (.agg #[.int .i64 x0, .int .i64 x1, .int .i64 x2, .int .i64 x3, .int .i64 x4, .int .i64 x5, .int .i64 x6, .int .i64 x7, .int .i64 x8, .int .i64 x9, .int .i64 x10, .int .i64 x11, .int .i64 x12, .int .i64 x13, .int .i64 x14, .int .i64 x15, .int .i64 x16, .int .i64 x17, .int .i64 x18, .int .i64 x19]) (.int .i64 k)).run Try.prog w = .ok (.agg #[.int .i64 p, .int .i64 q, .int .i64 p', .int .i64 q']) w := by
  match k, hk with
  | 0, _ => exact ⟨x0, x1, x2, x3, fun _ => by kernel_rfl⟩
  | 1, _ => exact ⟨x4, x5, x6, x7, fun _ => by kernel_rfl⟩
  | 2, _ => exact ⟨x8, x9, x10, x11, fun _ => by kernel_rfl⟩
  | 3, _ => exact ⟨x12, x13, x14, x15, fun _ => by kernel_rfl⟩
  | 4, _ => exact ⟨x16, x17, x18, x19, fun _ => by kernel_rfl⟩

set_option maxRecDepth 100000 in
set_option maxHeartbeats 8000000 in
theorem cchecks_law (ar al br bl n0 n1 n2 n3 : Int) (w : World) (h0 : 0 ≤ n0 ∧ n0 ≤ 4294967295) (h1 : 0 ≤ n1 ∧ n1 ≤ 4294967295) (h2 : 0 ≤ n2 ∧ n2 ≤ 4294967295) (h3 : 0 ≤ n3 ∧ n3 ≤ 4294967295) :
    Calls Try.prog 5 #[.agg #[.int .i64 ar, .int .i64 al], .agg #[.int .i64 br, .int .i64 bl], .agg #[.int .u32 n0, .int .u32 n1, .int .u32 n2, .int .u32 n3]] w fun e w' => e = .returned (.bool true) ∧ Bl w w' := by
  have KW := Lib.hid (fun w => cworks_any w)
  have KO := Lib.hid (fun w => of_any n0 n1 h0 h1 w)
  have KP := Lib.hid (fun w => of_any n2 n3 h2 h3 w)
  have hv2 := (svB_iff.1 (of_ok n2 n3)).2
  generalize ofR n0 = x at *
  generalize ofL n1 = x' at *
  generalize ofR n2 = y at *
  generalize ofL n3 = y' at *
  clear h0 h1 h2 h3
  have HC := Lib.hid (show ∀ w1, Bl (((w.alloc (.cells #[.int .i64 ar, .int .i64 al] 54)).alloc (.cells #[.int .i64 br, .int .i64 bl] 54)).alloc (.cells #[.int .u32 n0, .int .u32 n1, .int .u32 n2, .int .u32 n3] 55)) w1 →
      Sl w.heap.size ar al w1 ∧ Sl (w.heap.size + 1) br bl w1 ∧ (w1.cell? ⟨w.heap.size + 1 + 1, 0, none⟩ = some (.int .u32 n0) ∧ w1.cell? ⟨w.heap.size + 1 + 1, 1, none⟩ = some (.int .u32 n1) ∧ w1.cell? ⟨w.heap.size + 1 + 1, 2, none⟩ = some (.int .u32 n2) ∧ w1.cell? ⟨w.heap.size + 1 + 1, 3, none⟩ = some (.int .u32 n3)) from fun w1 g => by
    have h1 := Sl.new w ar al 54
    have h2 := Sl.new (w.alloc (.cells #[.int .i64 ar, .int .i64 al] 54)) br bl 54
    rw [World.size_alloc] at h2
    exact ⟨((h1.go ((Bl.refl _).alloc _)).go ((Bl.refl _).alloc _)).go g, (h2.go ((Bl.refl _).alloc _)).go g, (g.cell (p := ⟨w.heap.size + 1 + 1, 0, none⟩) (by simp)).trans (by simp [go_sem]), (g.cell (p := ⟨w.heap.size + 1 + 1, 1, none⟩) (by simp)).trans (by simp [go_sem]), (g.cell (p := ⟨w.heap.size + 1 + 1, 2, none⟩) (by simp)).trans (by simp [go_sem]), (g.cell (p := ⟨w.heap.size + 1 + 1, 3, none⟩) (by simp)).trans (by simp [go_sem])⟩)
  have HB := Lib.hid (show Bl w (((w.alloc (.cells #[.int .i64 ar, .int .i64 al] 54)).alloc (.cells #[.int .i64 br, .int .i64 bl] 54)).alloc (.cells #[.int .u32 n0, .int .u32 n1, .int .u32 n2, .int .u32 n3] 55)) from (((Bl.refl w).alloc _).alloc _).alloc _)
  go_enter Try.func5, Try.ntmps5
  go_upto_region 1 with fail
  generalize (((w.alloc (.cells #[.int .i64 ar, .int .i64 al] 54)).alloc (.cells #[.int .i64 br, .int .i64 bl] 54)).alloc (.cells #[.int .u32 n0, .int .u32 n1, .int .u32 n2, .int .u32 n3] 55)) = W at *
  generalize w.heap.size = a at *
  have HD := Lib.hid (show ∀ w', Bl W w' → (w'.cell? ⟨a + 1 + 1, 0, none⟩ = some (.int .u32 n0) ∧ w'.cell? ⟨a + 1 + 1, 1, none⟩ = some (.int .u32 n1) ∧ w'.cell? ⟨a + 1 + 1, 2, none⟩ = some (.int .u32 n2) ∧ w'.cell? ⟨a + 1 + 1, 3, none⟩ = some (.int .u32 n3) ∧ Hid (Bl W w')) from fun w' g => ⟨(HC.out w' g).2.2.1, (HC.out w' g).2.2.2.1, (HC.out w' g).2.2.2.2.1, (HC.out w' g).2.2.2.2.2, g⟩)
  obtain ⟨k0, k1, k2, k3, _⟩ := HD.out W (Bl.refl W)
  go_cut [7, 8] (fun s7 s8 wx => Hid (MadeAB W x x' y y' s7 s8 wx))
  case first =>
    go_region_held3 (fun w' => w'.cell? ⟨a + 1 + 1, 0, none⟩ = some (.int .u32 n0) ∧ w'.cell? ⟨a + 1 + 1, 1, none⟩ = some (.int .u32 n1) ∧ w'.cell? ⟨a + 1 + 1, 2, none⟩ = some (.int .u32 n2) ∧ w'.cell? ⟨a + 1 + 1, 3, none⟩ = some (.int .u32 n3) ∧ Hid (Bl W w')) (first | with_reducible assumption | (refine HD.out _ ?_; (repeat (first | exact BB.out | exact BA.out | exact Bl.refl _ | with_reducible refine Bl.setCell ?_ (by first | exact Nat.le_refl _ | omega | (simp <;> omega)) _ | with_reducible refine Bl.alloc ?_ _ | with_reducible refine Bl.drew ?_)); done) | fail) (first | (go_at_call 27; rename _ ∧ _ ∧ _ ∧ _ ∧ Hid (Bl W _) => hq; ((with_reducible refine (KO.out _).mono ?_); rintro e wa ⟨rfl, hgrwa⟩; have BA := Lib.hid (Bl.trans (Hid.out hq.2.2.2.2) hgrwa); have qzwa : W.heap.size ≤ wa.heap.size := BA.out.size; first | (with_reducible have q1 := Sl.newD2 hgrwa) | (with_reducible have q1 := Sl.newD hgrwa) | (have q1 := True.intro))) | (go_at_call 27; rename _ ∧ _ ∧ _ ∧ _ ∧ Hid (Bl W _) => hq; ((with_reducible refine (KP.out _).mono ?_); rintro e wb ⟨rfl, hgrwb⟩; have BB := Lib.hid (Bl.trans (Hid.out hq.2.2.2.2) hgrwb); have qzwb : W.heap.size ≤ wb.heap.size := BB.out.size; first | (with_reducible have q2 := And.intro (Sl.go (And.left q1) hgrwb) (Sl.go (And.right q1) hgrwb); obtain ⟨g0, g1, g2, g3, g4⟩ := q2.1; obtain ⟨g5, g6, g7, g8, g9⟩ := q2.2) | (with_reducible have q2 := And.intro (Sl.go q1 (Bl.trans ((Bl.refl wa).alloc _) hgrwb)) (Sl.newP hgrwb); have n1 : ¬ W.heap.size = wa.heap.size := Nat.ne_of_lt q1.lt; have n2 : ¬ wa.heap.size = W.heap.size := Nat.ne_of_gt q1.lt; obtain ⟨g0, g1, g2, g3, g4⟩ := q2.1; obtain ⟨g5, g6, g7, g8, g9⟩ := q2.2) | (with_reducible have q2 := Sl.go q1 hgrwb; have n1 : ¬ W.heap.size = wb.heap.size := Nat.ne_of_lt q2.lt; have n2 : ¬ wb.heap.size = W.heap.size := Nat.ne_of_gt q2.lt; have q3 := q2; obtain ⟨g0, g1, g2, g3, g4⟩ := q3) | (with_reducible have q2 := Sl.newP2 hgrwb; obtain ⟨g0, g1, g2, g3, g4⟩ := q2.1; obtain ⟨g5, g6, g7, g8, g9⟩ := q2.2) | (with_reducible have q2 := Sl.newP hgrwb; have n1 : ¬ wa.heap.size = wb.heap.size := Nat.ne_of_lt q2.lt; have n2 : ¬ wb.heap.size = wa.heap.size := Nat.ne_of_gt q2.lt; have q3 := q2; obtain ⟨g0, g1, g2, g3, g4⟩ := q3) | (have q2 := True.intro))) | fail)
    all_goals go_wp2_with fail
    all_goals go_meet
    all_goals (first | with_reducible exact made_aft BB | with_reducible exact made_aft' BB | with_reducible exact made_mix BB q2 (by first | exact Nat.le_refl _ | assumption | omega) | with_reducible exact made_mix' BB q2 (by first | exact Nat.le_refl _ | assumption | omega) | with_reducible exact made_bef BB q2.1 q2.2 (by first | exact n1 | exact n2 | omega) (by first | exact Nat.le_refl _ | assumption | omega) (by first | exact Nat.le_refl _ | assumption | omega) | with_reducible exact made_bef BB q2.2 q2.1 (by first | exact n1 | exact n2 | omega) (by first | exact Nat.le_refl _ | assumption | omega) (by first | exact Nat.le_refl _ | assumption | omega) | fail)
  obtain ⟨b, c, rfl, rfl, hbc, hS, hT, hb1, hc1, hB⟩ := hcut.out
  clear hcut k0 k1 k2 k3 KO KP HD
  rename World => wx
  obtain ⟨SA0, SB0, _⟩ := HC.out wx hB
  have cA0 := SA0.c0
  have cA1 := SA0.c1
  have cB0 := SB0.c0
  have cB1 := SB0.c1
  have cS0 := hS.c0
  have cS1 := hS.c1
  have cT0 := hT.c0
  have cT1 := hT.c1
  have BX := Lib.hid (HB.out.trans hB)
  clear SA0 SB0 hS hT hB HC HB hbc hb1 hc1
  go_wp2_with fail
  have hmod : IntKind.i64.wrap (y' % 9) = y' % 9 := IntWalk.i64_in _ (by omega)
  go_loopw [52] (fun iv wr => ∃ k : Nat, k ≤ 5 ∧ iv = .int .i64 k ∧ Hid (Bl w wr)) (fun iv _ => 5 - (intOf iv).toNat)
  case atStart => exact ⟨0, by omega, rfl, BX⟩
  case round =>
    clear cA0 cA1 cB0 cB1 cS0 cS1 cT0 cT1 BX
    obtain ⟨k, hk, rfl, hw⟩ := hrel
    by_cases hlt : k < 5
    · obtain ⟨p, q, p', q', hrun⟩ := five_pairs ar al br bl x x' y y' x x' br bl ar x' y y' x al 1 (y' % 9) k hlt
      obtain ⟨J, hJ⟩ : ∃ J, joR p q p' q' = J := ⟨_, rfl⟩
      obtain ⟨J', hJ'⟩ : ∃ J', joL p q p' q' = J' := ⟨_, rfl⟩
      obtain ⟨E, hE⟩ : ∃ E, joE p q p' q' = E := ⟨_, rfl⟩
      obtain ⟨C, hC⟩ : ∃ C, svE p q = C := ⟨_, rfl⟩
      have K1 := Lib.hid (fun W => by have := join_any p q p' q' W; rw [hJ, hJ', hE] at this; exact this)
      have K2 := Lib.hid (fun W => by have := rjoin_any p q p' q' W; rw [hJ, hJ', hE] at this; exact this)
      have K3 := Lib.hid (fun W => scheck_v hC W)
      have K4 := Lib.hid (fun W => srcheck_v hC W)
      clear hJ hJ' hE hC hmod hv2
      have hlt5 : (k : Int) < 5 := by omega
      go_wp2_with fail
      refine (K1.out _).mono ?_; rintro e w1 ⟨rfl, gr⟩
      have HP := Lib.hid (show ∀ w2, Bl w1 w2 → w2.cell? ⟨wr.heap.size, 0, none⟩ = some (.int .i64 p) ∧ w2.cell? ⟨wr.heap.size, 1, none⟩ = some (.int .i64 q) ∧ w2.cell? ⟨wr.heap.size, 2, none⟩ = some (.int .i64 p') ∧ w2.cell? ⟨wr.heap.size, 3, none⟩ = some (.int .i64 q') from fun w2 g =>
        ⟨((gr.trans g).cell (p := ⟨wr.heap.size, 0, none⟩) (by simp)).trans (by simp [go_sem]), ((gr.trans g).cell (p := ⟨wr.heap.size, 1, none⟩) (by simp)).trans (by simp [go_sem]), ((gr.trans g).cell (p := ⟨wr.heap.size, 2, none⟩) (by simp)).trans (by simp [go_sem]), ((gr.trans g).cell (p := ⟨wr.heap.size, 3, none⟩) (by simp)).trans (by simp [go_sem])⟩)
      have B1 := Lib.hid (hw.out.trans (Bl.trans ((Bl.refl _).alloc _) gr))
      have pl : wr.heap.size < w1.heap.size := by have := gr.size; simp at this; omega
      clear gr
      generalize wr.heap.size = pb at *
      obtain ⟨c0, c1, c2, c3⟩ := HP.out w1 (Bl.refl _)
      go_wp2_with fail
      refine (K2.out _).mono ?_; rintro e w2 ⟨rfl, gr⟩
      have SJ := Lib.hid (Sl.newP gr)
      have B2 := Lib.hid (B1.out.trans (Bl.trans ((Bl.refl _).alloc _) gr))
      have HP2 := Lib.hid (fun w3 (g : Bl w2 w3) => HP.out w3 ((Bl.trans ((Bl.refl w1).alloc _) gr).trans g))
      clear gr c0 c1 c2 c3 pl
      generalize w1.heap.size = jb at *
      have HD := Lib.hid (show ∀ W7, W7 = w2.alloc (.cells #[.int .i64 J, .int .i64 J'] 54) → ∀ kb, kb = w2.heap.size → ∀ w', Bl W7 w' → (w'.cell? ⟨jb, 0, none⟩ = some (.int .i64 J) ∧ w'.cell? ⟨jb, 1, none⟩ = some (.int .i64 J') ∧ w'.cell? ⟨kb, 0, none⟩ = some (.int .i64 J) ∧ w'.cell? ⟨kb, 1, none⟩ = some (.int .i64 J') ∧ w'.cell? ⟨pb, 0, none⟩ = some (.int .i64 p) ∧ w'.cell? ⟨pb, 1, none⟩ = some (.int .i64 q) ∧ Hid (Bl W7 w')) from fun W7 h7 kb hk w' g => by
        subst h7 hk
        have g2 : Bl w2 w' := Bl.trans ((Bl.refl w2).alloc _) g
        have n := Sl.newP g
        have j := SJ.out.go g2
        have c := HP2.out w' g2
        exact ⟨j.c0, j.c1, n.c0, n.c1, c.1, c.2.1, g⟩)
      go_upto_region 7 with fail
      have BK := Lib.hid (B2.out.alloc (.cells #[.int .i64 J, .int .i64 J'] 54))
      have HDx := Lib.hid (HD.out _ rfl _ rfl)
      clear HD HP HP2 SJ B1 B2
      generalize (w2.alloc (.cells #[.int .i64 J, .int .i64 J'] 54)) = W7 at *
      generalize w2.heap.size = kb at *
      obtain ⟨d0, d1, d2, d3, d4, d5, _⟩ := HDx.out W7 (Bl.refl _)
      have HD := HDx
      clear HDx
      go_region_held3 (fun w' => w'.cell? ⟨jb, 0, none⟩ = some (.int .i64 J) ∧ w'.cell? ⟨jb, 1, none⟩ = some (.int .i64 J') ∧ w'.cell? ⟨kb, 0, none⟩ = some (.int .i64 J) ∧ w'.cell? ⟨kb, 1, none⟩ = some (.int .i64 J') ∧ w'.cell? ⟨pb, 0, none⟩ = some (.int .i64 p) ∧ w'.cell? ⟨pb, 1, none⟩ = some (.int .i64 q) ∧ Hid (Bl W7 w'))
        (first | with_reducible assumption | (refine HD.out _ ?_; (repeat (first | exact BB.out | exact BA.out | exact Bl.refl _ | with_reducible refine Bl.drew ?_)); done) | fail)
        (first | (go_at_call 30; rename _ ∧ _ ∧ _ ∧ _ ∧ _ ∧ _ ∧ Hid (Bl W7 _) => hq; (with_reducible refine (K3.out _).mono ?_); rintro e w4 ⟨rfl, hgr⟩; have BA := Lib.hid (Bl.trans (Hid.out hq.2.2.2.2.2.2) hgr)) | (go_at_call 31; rename _ ∧ _ ∧ _ ∧ _ ∧ _ ∧ _ ∧ Hid (Bl W7 _) => hq; (with_reducible refine (K4.out _).mono ?_); rintro e w5 ⟨rfl, hgr⟩; have BB := Lib.hid (Bl.trans (Hid.out hq.2.2.2.2.2.2) hgr)) | fail)
      all_goals go_wp2_with fail
      all_goals exact ⟨⟨k + 1, by omega, by go_num, Lib.hid (BK.out.trans (And.right (And.right (And.right (And.right (And.right (And.right (by assumption : _ ∧ _ ∧ _ ∧ _ ∧ _ ∧ _ ∧ Hid (Bl W7 _)))))))).out)⟩, by simp [intOf]; omega⟩
    · obtain rfl : k = 5 := by omega
      go_wp2_with fail
      refine (KW.out _).mono ?_; rintro e w9 ⟨rfl, gr⟩
      have B9 := Lib.hid (hw.out.trans gr)
      clear gr
      go_wp2_with fail
      go_ret
      exact ⟨rfl, B9.out⟩

end Go.Proofs.Ytgbbglnbolihfaa
