/-
  What Backlog and Output of package curve return.
-/
import Derived.Test.YtgbbglnbolihfaaCg
import Derived.Deep.DeepCutAuto
import Derived.Deep.CutBlock
namespace Go.Proofs.Ytgbbglnbolihfaa
open Go.RowKit Go.Shelf

theorem Tr.one {w : World} {c : Nat} {u R : Int} (h0 : w.cell? ⟨c, 0, none⟩ = some (.int .i64 u)) (h1 : w.cell? ⟨c, 1, none⟩ = some (.int .i64 R)) : Tr w (some ⟨c, 0, none⟩) [(u, R)] := fun k hk => by
  obtain rfl : k = 0 := by simp at hk; omega
  exact ⟨c, 0, rfl, cell_lt h0, h0, h1⟩

/-- What Backlog gives. -/
def baV (u R r l : Int) : Int := if flE [(u, R)] r l = 0 then u + cl (R * l) 1048576 else 0
theorem fl1 {u R r l : Int} (h : flE [(u, R)] r l = 0) : ((1 ≤ u ∧ u ≤ 1048576) ∧ (1 ≤ R ∧ R ≤ 2097152)) ∧ ((1 ≤ r ∧ r ≤ 2097152) ∧ (0 ≤ l ∧ l ≤ 268435456)) ∧ R ≤ r := by
  obtain ⟨_, _, h3, h4, h5⟩ := flE_ok.1 h
  have h3' := bkB_iff.1 (bksB_iff.1 h3 0 (by simp))
  obtain ⟨k, hk, hs⟩ := slB_iff.1 h5
  obtain rfl : k = 0 := by simp at hk; omega
  exact ⟨h3', svB_iff.1 h4, hs⟩
theorem fl1_ok {u R r l : Int} (h1 : (1 ≤ u ∧ u ≤ 1048576) ∧ (1 ≤ R ∧ R ≤ 2097152)) (h2 : (1 ≤ r ∧ r ≤ 2097152) ∧ (0 ≤ l ∧ l ≤ 268435456)) (h3 : R ≤ r) : flE [(u, R)] r l = 0 := by
  refine flE_ok.2 ⟨by simp, by simp, bksB_iff.2 (fun k hk => ?_), svB_iff.2 h2, slB_iff.2 ⟨0, by simp, h3⟩⟩
  obtain rfl : k = 0 := by simp at hk; omega
  exact bkB_iff.2 h1
theorem clr1 {u R r : Int} (hu : u ≤ 1048576) (hu0 : 0 ≤ u) (hr : 1 ≤ r) (h : R ≤ r) : clr [(u, R)] r = cl (u * 1048576) r := by
  have e : dis [(u, R)] r = [cl (u * 1048576) r] := by
    show dsp _ _ 0 ++ dsb _ _ 0 = _
    have e1 : crs [(u, R)] r 0 1 = [] := by
      show crs _ _ _ 0 ++ _ = _
      rw [if_neg (fun hh => by have h1 : r < R := hh.1; omega)]; rfl
    unfold dsb
    rw [if_pos (show sn [(u, R)] 0 ≤ r from h)]
    show [] ++ cl (u * 1048576) r :: crs _ _ _ 1 = _
    rw [e1]; rfl
  unfold clr
  rw [e]
  have : cl (u * 1048576) r ≤ u * 1048576 := cl_self_le (by omega) (by omega)
  show min 9223372036854775807 (cl (u * 1048576) r) = _
  omega

theorem checkFlow1 {u R r l v : Int} {c : Nat} {w : World} (hv : flE [(u, R)] r l = v) (h0 : w.cell? ⟨c, 0, none⟩ = some (.int .i64 u)) (h1 : w.cell? ⟨c, 1, none⟩ = some (.int .i64 R)) :
    Calls Try.prog 56 #[.slice (some ⟨c, 0, none⟩) 1 1, .agg #[.int .i64 r, .int .i64 l]] w fun e w' => e = .returned (.int .i64 v) ∧ Bl w w' := by
  have := checkFlow_any [(u, R)] (some ⟨c, 0, none⟩) 1 r l w (by simp) (Tr.one h0 h1)
  rw [hv] at this; exact this
theorem delay1 {u R r l v e0 : Int} {c : Nat} {w : World} (hv : deV [(u, R)] r l = v) (he : flE [(u, R)] r l = e0) (h0 : w.cell? ⟨c, 0, none⟩ = some (.int .i64 u)) (h1 : w.cell? ⟨c, 1, none⟩ = some (.int .i64 R)) :
    Calls Try.prog 33 #[.slice (some ⟨c, 0, none⟩) 1 1, .agg #[.int .i64 r, .int .i64 l]] w fun e w' => e = .returned (.tuple #[.int .i64 v, .int .i64 e0]) ∧ Bl w w' := by
  have := delay_any [(u, R)] (some ⟨c, 0, none⟩) 1 r l w (by simp) (Tr.one h0 h1)
  rw [hv, he] at this; exact this

set_option maxHeartbeats 1000000 in
theorem backlog_any (u R r l : Int) (w : World) :
    Calls Try.prog 35 #[.agg #[.int .i64 u, .int .i64 R], .agg #[.int .i64 r, .int .i64 l]] w fun e w' => e = .returned (.tuple #[.int .i64 (baV u R r l), .int .i64 (flE [(u, R)] r l)]) ∧ Bl w w' := by
  by_cases h : flE [(u, R)] r l = 0
  · have KF := Lib.hid (fun (c : Nat) (W : World) h0 h1 => checkFlow1 (c := c) (w := W) h h0 h1)
    have eV : baV u R r l = u + cl (R * l) 1048576 := by unfold baV; rw [if_pos h]
    rw [eV, h]
    obtain ⟨⟨⟨u1, u2⟩, R1, R2⟩, ⟨⟨r1, r2⟩, l1, l2⟩, hRr⟩ := fl1 h
    obtain ⟨p1, p2⟩ := mul_bd (x := R) (y := l) ⟨by omega, R2⟩ ⟨l1, l2⟩
    obtain ⟨q, hq⟩ : ∃ q, cl (R * l) 1048576 = q := ⟨_, rfl⟩
    have q1 : q ≤ 536870912 := by rw [← hq]; exact (cl_le (by decide)).2 (by omega)
    have q0 : 0 ≤ q := by rw [← hq]; exact cl_nonneg (by decide) p1
    have KC := Lib.hid (fun w => ceil_v hq (by omega) (by omega) (by omega) (by omega) w)
    rw [hq]
    have wl : IntKind.i64.wrap (u + q) = u + q := IntWalk.i64_in _ (by omega)
    clear h eV hq p1 p2 hRr R1 R2 r1 r2 l1 l2 u1 u2
    go_enter Try.func35, Try.ntmps35
    go_wp2_with fail
    refine (KF.out _ _ (by simp [go_sem]) (by simp [go_sem])).mono ?_; rintro e w1 ⟨rfl, gr⟩
    have k0 := (gr.cell (p := ⟨w.heap.size, 0, none⟩) (by simp <;> omega)).trans (show _ = some (Value.int .i64 u) by simp [go_sem])
    have k1 := (gr.cell (p := ⟨w.heap.size, 1, none⟩) (by simp <;> omega)).trans (show _ = some (Value.int .i64 R) by simp [go_sem])
    have k2 := (gr.cell (p := ⟨w.heap.size + 1, 1, none⟩) (by simp <;> omega)).trans (show _ = some (Value.int .i64 l) by simp [go_sem])
    have G := Lib.hid (Bl.trans ((((Bl.refl w).alloc _).alloc _).alloc _) gr)
    clear gr
    have ha := cell_lt k0
    have hb := cell_lt k2
    generalize w.heap.size = a at *
    have HD := Lib.hid (show ∀ w', Bl w1 w' → (w'.cell? ⟨a, 0, none⟩ = some (.int .i64 u) ∧ w'.cell? ⟨a, 1, none⟩ = some (.int .i64 R) ∧ w'.cell? ⟨a + 1, 1, none⟩ = some (.int .i64 l) ∧ Hid (Bl w1 w')) from fun w' g => ⟨(g.cell (p := ⟨a, 0, none⟩) ha).trans k0, (g.cell (p := ⟨a, 1, none⟩) ha).trans k1, (g.cell (p := ⟨a + 1, 1, none⟩) hb).trans k2, g⟩)
    clear ha hb KF
    go_wp2_with fail
    go_region_held3 (fun w' => w'.cell? ⟨a, 0, none⟩ = some (.int .i64 u) ∧ w'.cell? ⟨a, 1, none⟩ = some (.int .i64 R) ∧ w'.cell? ⟨a + 1, 1, none⟩ = some (.int .i64 l) ∧ Hid (Bl w1 w'))
      (first | with_reducible assumption | (refine HD.out _ ?_; (repeat (first | exact BA.out | exact Bl.refl _ | with_reducible refine Bl.drew ?_)); done) | fail)
      (first | (go_at_call 61; rename _ ∧ _ ∧ _ ∧ Hid (Bl w1 _) => hq; (with_reducible refine (KC.out _).mono ?_); rintro e w2 ⟨rfl, hgr⟩; have BA := Lib.hid (Bl.trans (Hid.out hq.2.2.2) hgr)) | fail)
    all_goals go_wp2_with fail
    all_goals go_ret2
    all_goals exact ⟨rfl, G.out.trans (And.right (And.right (And.right (by assumption : _ ∧ _ ∧ _ ∧ Hid (Bl w1 _))))).out⟩
  · have eV : baV u R r l = 0 := by unfold baV; rw [if_neg h]
    rw [eV]
    obtain ⟨v, hv⟩ : ∃ v, flE [(u, R)] r l = v := ⟨_, rfl⟩
    have KF := Lib.hid (fun (c : Nat) (W : World) h0 h1 => checkFlow1 (c := c) (w := W) hv h0 h1)
    rw [hv] at h ⊢
    clear hv
    clear eV
    go_enter Try.func35, Try.ntmps35
    go_wp2_with fail
    refine (KF.out _ _ (by simp [go_sem]) (by simp [go_sem])).mono ?_; rintro e w1 ⟨rfl, gr⟩
    have G := Lib.hid (Bl.trans ((((Bl.refl w).alloc _).alloc _).alloc _) gr)
    clear gr
    go_wp2_with fail
    go_ret2
    exact ⟨rfl, G.out⟩

/-- What Output gives: its error, its burst, its rate. -/
def ouU (u R r l : Int) : Int := u + cl (R * deV [(u, R)] r l) 1048576
def ouE (u R r l : Int) : Int := if flE [(u, R)] r l = 0 then (if ouU u R r l ≤ 1048576 then 0 else 6) else flE [(u, R)] r l
def ouB (u R r l : Int) : Int := if ouE u R r l = 0 then ouU u R r l else 0
def ouR (u R r l : Int) : Int := if ouE u R r l = 0 then R else 0

set_option maxHeartbeats 2000000 in
theorem output_any (u R r l : Int) (w : World) :
    Calls Try.prog 37 #[.agg #[.int .i64 u, .int .i64 R], .agg #[.int .i64 r, .int .i64 l]] w fun e w' => e = .returned (.tuple #[.agg #[.int .i64 (ouB u R r l), .int .i64 (ouR u R r l)], .int .i64 (ouE u R r l)]) ∧ Bl w w' := by
  by_cases h : flE [(u, R)] r l = 0
  · obtain ⟨⟨⟨u1, u2⟩, R1, R2⟩, ⟨⟨r1, r2⟩, l1, l2⟩, hRr⟩ := fl1 h
    obtain ⟨d, hd⟩ : ∃ d, deV [(u, R)] r l = d := ⟨_, rfl⟩
    have KF := Lib.hid (fun (c : Nat) (W : World) h0 h1 => delay1 (c := c) (w := W) hd h h0 h1)
    have hd0 : 0 ≤ d ∧ d ≤ 1099780063232 := by
      obtain ⟨_, _, h3, h4, h5⟩ := flE_ok.1 h
      have := clr_bd ⟨r1, r2⟩ h3 h5
      rw [deV_ok h] at hd; omega
    obtain ⟨p1, p2⟩ := mul_bd (x := R) (y := d) ⟨by omega, R2⟩ hd0
    obtain ⟨q, hq⟩ : ∃ q, cl (R * d) 1048576 = q := ⟨_, rfl⟩
    have q1 : q ≤ 2199560126464 := by rw [← hq]; exact (cl_le (by decide)).2 (by omega)
    have q0 : 0 ≤ q := by rw [← hq]; exact cl_nonneg (by decide) p1
    have KC := Lib.hid (fun w => ceil_v hq (by omega) (by omega) (by omega) (by omega) w)
    have eU : ouU u R r l = u + q := by unfold ouU; rw [hd, hq]
    have wl : IntKind.i64.wrap (u + q) = u + q := IntWalk.i64_in _ (by omega)
    have EB := Lib.hid (show ouE u R r l = (if u + q ≤ 1048576 then 0 else 6) by unfold ouE; rw [if_pos h, eU])
    have EU := Lib.hid (show ouB u R r l = (if ouE u R r l = 0 then u + q else 0) by unfold ouB; rw [eU])
    have ER := Lib.hid (show ouR u R r l = (if ouE u R r l = 0 then R else 0) from rfl)
    have KK := Lib.hid (show u + q ≤ 1048576 → bkE (u + q) R = 0 from fun hh => bkE_t (bkB_iff.2 ⟨⟨by omega, hh⟩, R1, R2⟩))
    have KN := Lib.hid (show ¬ u + q ≤ 1048576 → bkE (u + q) R = 130 from fun hh => bkE_f (bkB_not.2 (fun x => hh x.1.2)))
    clear h eU hq hd hd0 p1 p2 hRr R1 R2 r1 r2 l1 l2 u1 u2
    go_enter Try.func37, Try.ntmps37
    go_wp2_with fail
    refine (KF.out _ _ (by simp [go_sem]) (by simp [go_sem])).mono ?_; rintro e w1 ⟨rfl, gr⟩
    have k0 := (gr.cell (p := ⟨w.heap.size, 0, none⟩) (by simp <;> omega)).trans (show _ = some (Value.int .i64 u) by simp [go_sem])
    have k1 := (gr.cell (p := ⟨w.heap.size, 1, none⟩) (by simp <;> omega)).trans (show _ = some (Value.int .i64 R) by simp [go_sem])
    have f0 := (gr.frozen (p := ⟨w.heap.size, 0, none⟩) (by simp <;> omega)).trans (show _ = false by simp [go_sem])
    have G := Lib.hid (Bl.trans (((((Bl.refl w).alloc _).alloc _).alloc _).alloc _) gr)
    have SR := Lib.hid (Sl.go (w' := w1) (a := w.heap.size + 1 + 1) (x := 0) (y := 0) (by
      have h := Sl.new ((w.alloc (.cells #[.int .i64 u, .int .i64 R] 30)).alloc (.cells #[.int .i64 r, .int .i64 l] 54)) 0 0 30
      rw [World.size_alloc, World.size_alloc] at h
      exact h.go ((Bl.refl _).alloc _)) gr)
    have BS := Lib.hid (fun (w2 : World) (g : Bl w w2) (i : Nat) (v : Value) => g.setCell (p := ⟨w.heap.size + 1 + 1, i, none⟩) (show w.heap.size ≤ w.heap.size + 1 + 1 by omega) v)
    have BT := Lib.hid (fun (w2 : World) (g : Bl w w2) (i : Nat) (v : Value) => g.setCell (p := ⟨w.heap.size, i, none⟩) (Nat.le_refl _) v)
    clear gr
    have ha := cell_lt k0
    generalize w.heap.size = a at *
    have HD := Lib.hid (show ∀ w', Bl w1 w' → (w'.cell? ⟨a, 0, none⟩ = some (.int .i64 u) ∧ w'.cell? ⟨a, 1, none⟩ = some (.int .i64 R) ∧ w'.frozen? ⟨a, 0, none⟩ = false ∧ Hid (Bl w1 w')) from fun w' g => ⟨(g.cell (p := ⟨a, 0, none⟩) ha).trans k0, (g.cell (p := ⟨a, 1, none⟩) ha).trans k1, (g.frozen (p := ⟨a, 0, none⟩) ha).trans f0, g⟩)
    clear ha KF
    go_wp2_with fail
    go_cut [19, 20, 21, 22, 23, 24, 25, 26] (fun _ _ _ _ _ _ _ _ wx => ∃ wy, wx = wy.setCell ⟨a, 0, none⟩ (.int .i64 (u + q)) ∧ Hid (Bl w1 wy))
    case first =>
      go_region_with (go_at_call 61; (with_reducible refine (KC.out _).mono ?_); rintro e w2 ⟨rfl, hgr⟩; obtain ⟨x0, x1, x2, x3⟩ := HD.out w2 (Bl.trans (by (repeat (first | exact Bl.refl _ | with_reducible refine Bl.drew ?_))) hgr))
      all_goals go_wp2_with fail
      all_goals go_meet
      all_goals exact ⟨w2, rfl, x3⟩
    obtain ⟨wy, rfl, hwy⟩ := hcut
    obtain ⟨y0, y1, y2, _⟩ := HD.out wy hwy.out
    have S2 := Lib.hid ((SR.out.go hwy.out).far (show a + 1 + 1 ≠ a by omega) 0 (.int .i64 (u + q)))
    have G2 := Lib.hid (BT.out _ (G.out.trans hwy.out) 0 (.int .i64 (u + q)))
    have m0 : (wy.setCell ⟨a, 0, none⟩ (.int .i64 (u + q))).cell? ⟨a, 0, none⟩ = some (.int .i64 (u + q)) := World.cell?_setCell_same' _ _ _ (by rw [y0]; rfl)
    have m1 : (wy.setCell ⟨a, 0, none⟩ (.int .i64 (u + q))).cell? ⟨a, 1, none⟩ = some (.int .i64 R) := by simp [go_sem, y1]
    have ha := cell_lt m0
    clear y0 y1 y2 hwy k0 k1 f0 HD SR G KC q0 q1 wl BT
    generalize wy.setCell ⟨a, 0, none⟩ (.int .i64 (u + q)) = wz at *
    by_cases hs : u + q ≤ 1048576
    · have e1 : ouE u R r l = 0 := by rw [EB.out, if_pos hs]
      have e2 : ouB u R r l = u + q := by rw [EU.out, if_pos e1]
      have e3 : ouR u R r l = R := by rw [ER.out, if_pos e1]
      have H := Lib.hid (And.intro e1 (And.intro e2 e3))
      have KB := Lib.hid (fun w => check_v (KK.out hs) w)
      clear e1 e2 e3 EB EU ER KK KN hs
      go_wp2_with fail
      refine (KB.out _).mono ?_; rintro e w3 ⟨rfl, gr⟩
      have n0 := (gr.cell (p := ⟨a, 0, none⟩) ha).trans m0
      have n1 := (gr.cell (p := ⟨a, 1, none⟩) ha).trans m1
      have S3 := S2.out.go gr
      have G3 := Lib.hid (G2.out.trans gr)
      have s0 := S3.c0
      have s1 := S3.c1
      have s2 := S3.f0
      have s3 := S3.f1
      have hz : ¬ a + 1 + 1 = a := by omega
      clear gr S3 m0 m1 ha
      go_wp2_with fail
      refine bodyPost_ret (v := .tuple #[.agg #[.int .i64 (u + q), .int .i64 R], .int .i64 0]) (by simp [results, Try.results37, go_sem, s0, s1]) rfl ⟨?_, ?_⟩
      · rw [H.out.1, H.out.2.1, H.out.2.2]
      · exact BS.out _ (BS.out _ G3.out _ _) _ _
    · have e1 : ouE u R r l = 6 := by rw [EB.out, if_neg hs]
      have e2 : ouB u R r l = 0 := by rw [EU.out, if_neg (by rw [e1]; decide)]
      have e3 : ouR u R r l = 0 := by rw [ER.out, if_neg (by rw [e1]; decide)]
      have H := Lib.hid (And.intro e1 (And.intro e2 e3))
      have KB := Lib.hid (fun w => check_v (KN.out (by omega)) w)
      clear e1 e2 e3 EB EU ER KK KN hs
      go_wp2_with fail
      refine (KB.out _).mono ?_; rintro e w3 ⟨rfl, gr⟩
      have S3 := S2.out.go gr
      have G3 := Lib.hid (G2.out.trans gr)
      have s0 := S3.c0
      have s1 := S3.c1
      have s2 := S3.f0
      have s3 := S3.f1
      clear gr S3 m0 m1 ha
      go_wp2_with fail
      refine bodyPost_ret (v := .tuple #[.agg #[.int .i64 0, .int .i64 0], .int .i64 6]) (by simp [results, Try.results37, go_sem, s0, s1]) rfl ⟨?_, ?_⟩
      · rw [H.out.1, H.out.2.1, H.out.2.2]
      · exact BS.out _ (BS.out _ G3.out _ _) _ _
  · have e1 : ouE u R r l = flE [(u, R)] r l := by unfold ouE; rw [if_neg h]
    have e2 : ouB u R r l = 0 := by unfold ouB; rw [e1, if_neg h]
    have e3 : ouR u R r l = 0 := by unfold ouR; rw [e1, if_neg h]
    have hd : deV [(u, R)] r l = 0 := deV_no h
    obtain ⟨v, hv⟩ : ∃ v, flE [(u, R)] r l = v := ⟨_, rfl⟩
    rw [hv] at h e1
    have KF := Lib.hid (fun (c : Nat) (W : World) h0 h1 => delay1 (c := c) (w := W) hd hv h0 h1)
    have H := Lib.hid (And.intro e1 (And.intro e2 e3))
    clear e1 e2 e3 hd hv
    go_enter Try.func37, Try.ntmps37
    go_wp2_with fail
    refine (KF.out _ _ (by simp [go_sem]) (by simp [go_sem])).mono ?_; rintro e w1 ⟨rfl, gr⟩
    have G := Lib.hid (Bl.trans (((((Bl.refl w).alloc _).alloc _).alloc _).alloc _) gr)
    have SR := Sl.go (w' := w1) (a := w.heap.size + 1 + 1) (x := 0) (y := 0) (by
      have h := Sl.new ((w.alloc (.cells #[.int .i64 u, .int .i64 R] 30)).alloc (.cells #[.int .i64 r, .int .i64 l] 54)) 0 0 30
      rw [World.size_alloc, World.size_alloc] at h
      exact h.go ((Bl.refl _).alloc _)) gr
    have BS := Lib.hid (fun (w2 : World) (g : Bl w w2) (i : Nat) (v : Value) => g.setCell (p := ⟨w.heap.size + 1 + 1, i, none⟩) (show w.heap.size ≤ w.heap.size + 1 + 1 by omega) v)
    have s0 := SR.c0
    have s1 := SR.c1
    have s2 := SR.f0
    have s3 := SR.f1
    clear gr SR
    generalize w.heap.size = a at *
    go_wp2_with fail
    refine bodyPost_ret (v := .tuple #[.agg #[.int .i64 0, .int .i64 0], .int .i64 v]) (by simp [results, Try.results37, go_sem, s0, s1]) rfl ⟨?_, ?_⟩
    · rw [H.out.1, H.out.2.1, H.out.2.2]
    · exact BS.out _ (BS.out _ G.out _ _) _ _

end Go.Proofs.Ytgbbglnbolihfaa
