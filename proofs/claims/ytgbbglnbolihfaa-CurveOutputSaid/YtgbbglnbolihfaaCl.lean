/-
  CurveTight: for one bucket Delay is the least bound; repeating the bucket changes nothing.
-/
import Derived.Test.YtgbbglnbolihfaaCk
import Derived.Test.YtgbbglnbolihfaaBw
import Derived.Test.YtgbbglnbolihfaaBt
namespace Go.Proofs.Ytgbbglnbolihfaa
open Go.ChangeShapes Go.WideShapes Go.ChangeAt Go.WideMaps Go.WideElems Go.RowKit

/-- Buckets that are all alike. -/
theorem clr_alike {xs : List (Int × Int)} {u R r : Int} (hu : 1 ≤ u ∧ u ≤ 1048576) (hr : 1 ≤ r ∧ r ≤ 2097152) (h : R ≤ r) (hl : 1 ≤ xs.length) (hx : ∀ k, k < xs.length → fs xs k = u ∧ sn xs k = R) : clr xs r = cl (u * 1048576) r := by
  have hq : cl (u * 1048576) r ≤ u * 1048576 := cl_self_le (by omega) (by omega)
  have h1 : clr xs r ≤ cl (u * 1048576) r := by
    refine (mn_le_iff (by omega)).2 ⟨_, mem_dis_iff.2 ⟨0, by omega, ?_, .inl rfl⟩, ?_⟩
    · rw [(hx 0 (by omega)).2]; exact h
    · rw [(hx 0 (by omega)).1]; exact Int.le_refl _
  have h2 : cl (u * 1048576) r ≤ clr xs r := by
    refine (le_mn_iff (by omega)).2 (fun y hy => ?_)
    obtain ⟨k, hk, _, rfl | ⟨j, hj, ⟨hc, _⟩, _⟩⟩ := mem_dis_iff.1 hy
    · rw [(hx k hk).1]; exact Int.le_refl _
    · rw [(hx j hj).2] at hc; omega
  omega
theorem fl_alike {xs : List (Int × Int)} {u R r l : Int} (hb : bkB u R = true) (hs : svB r l = true) (h : R ≤ r) (hl : 1 ≤ xs.length ∧ xs.length ≤ 12) (hx : ∀ k, k < xs.length → fs xs k = u ∧ sn xs k = R) : flE xs r l = 0 :=
  flE_ok.2 ⟨hl.1, hl.2, bksB_iff.2 (fun k hk => by rw [(hx k hk).1, (hx k hk).2]; exact hb), hs, slB_iff.2 ⟨0, by omega, by rw [(hx 0 (by omega)).2]; exact h⟩⟩
theorem de_alike {xs : List (Int × Int)} {u R r l : Int} (hb : bkB u R = true) (hs : svB r l = true) (h : R ≤ r) (hl : 1 ≤ xs.length ∧ xs.length ≤ 12) (hx : ∀ k, k < xs.length → fs xs k = u ∧ sn xs k = R) : deV xs r l = l + cl (u * 1048576) r := by
  rw [deV_ok (fl_alike hb hs h hl hx), clr_alike (bkB_iff.1 hb).1 (svB_iff.1 hs).1 h hl.1 hx]
theorem alike1 (u R : Int) : ∀ k, k < [(u, R)].length → fs [(u, R)] k = u ∧ sn [(u, R)] k = R := fun k hk => by
  obtain rfl : k = 0 := by simp at hk; omega
  exact ⟨rfl, rfl⟩
theorem alike3 (u R : Int) : ∀ k, k < [(u, R), (u, R), (u, R)].length → fs [(u, R), (u, R), (u, R)] k = u ∧ sn [(u, R), (u, R), (u, R)] k = R := fun k hk => by
  obtain rfl | rfl | rfl : k = 0 ∨ k = 1 ∨ k = 2 := by simp at hk; omega
  all_goals exact ⟨rfl, rfl⟩
theorem dr_one {t u r l : Int} (ht : 0 ≤ t ∧ t ≤ 1099511627776) (hu : 1 ≤ u ∧ u ≤ 1048576) (hs : svB r l = true) : drE [(t, u)] r l = 0 ∧ dep [(t, u)] r l 0 = t + (l + cl (u * 1048576) r) := by
  constructor
  · refine drE_ok.2 ⟨rtB_iff.2 ⟨by simp, fun k hk => ?_⟩, hs⟩
    obtain rfl : k = 0 := by simp at hk; omega
    exact ⟨ht, hu⟩
  · have e0 : bnd 0 0 r = 0 := by
      have : cl (0 * 1048576) r = 0 := by
        have h1 := (cl_le (n := 0 * 1048576) (x := 0) (show 0 < r by have := (svB_iff.1 hs).1.1; omega)).2 (by omega)
        have h2 := cl_nonneg (n := 0 * 1048576) (show 0 < r by have := (svB_iff.1 hs).1.1; omega) (by omega)
        omega
      unfold bnd; rw [this]; rfl
    have e1 : (bz [(t, u)] r 1).1 = t := by show thS 0 0 r t = t; unfold thS; rw [e0, if_pos ht.1]
    have e2 : (bz [(t, u)] r 1).2 = u := by show thO 0 0 r t u = u; unfold thO; rw [e0, if_pos ht.1, Int.zero_add]
    unfold dep
    rw [e1, e2]
    unfold bnd
    omega

set_option maxRecDepth 100000 in
set_option maxHeartbeats 8000000 in
theorem tight_law (B R0 : Int) (gA : Option Addr) (gc : Nat) (sA : Option Addr) (sc : Nat) (gs ss : List Int) (m l t : Int) (w : World) (hB : 0 ≤ B ∧ B ≤ 4294967295) (hR : 0 ≤ R0 ∧ R0 ≤ 4294967295) (hm : 0 ≤ m ∧ m ≤ 4294967295) (hl : 0 ≤ l ∧ l ≤ 65535) (ht : 0 ≤ t ∧ t ≤ 4294967295) :
    Calls Try.prog 10 #[drV B R0 gA gs.length gc sA ss.length sc, .int .u32 m, .int .u16 l, .int .u32 t] w fun e w' => e = .returned (.bool true) ∧ Bl w w' := by
  obtain ⟨t0, t1⟩ := ht
  obtain ⟨m0, m1⟩ := hm
  obtain ⟨l0, l1⟩ := hl
  unfold drV
  have KW := Lib.hid (fun w => cworks_any w)
  go_enter Try.func10, Try.ntmps10
  go_wp2_with fail
  refine (KW.out _).mono ?_; rintro e w1 ⟨rfl, gr⟩
  have k0 := (gr.cell (p := ⟨w.heap.size, 0, none⟩) (by simp <;> omega)).trans (show _ = some (Value.int .u32 B) by simp [go_sem])
  have k1 := (gr.cell (p := ⟨w.heap.size, 1, none⟩) (by simp <;> omega)).trans (show _ = some (Value.int .u32 R0) by simp [go_sem])
  have k2 := (gr.cell (p := ⟨w.heap.size, 2, none⟩) (by simp <;> omega)).trans (show _ = some (Value.slice gA gs.length gc) by simp [go_sem])
  have k3 := (gr.cell (p := ⟨w.heap.size, 3, none⟩) (by simp <;> omega)).trans (show _ = some (Value.slice sA ss.length sc) by simp [go_sem])
  have BW1 := Lib.hid (Bl.trans ((Bl.refl w).alloc _) gr)
  clear gr
  generalize w.heap.size = a at *
  have bu := dB_ok B R0
  have H0 := Lib.hid (fun w' => (by have := dbucket_any B R0 gA gs.length gc sA ss.length sc w' hB hR; unfold drV at this; exact this : Calls Try.prog 16 #[.agg #[.int .u32 B, .int .u32 R0, .slice gA gs.length gc, .slice sA ss.length sc]] w' fun e w'' => e = .returned (.agg #[.int .i64 (dBu B), .int .i64 (dRa R0)]) ∧ Bl w' w''))
  generalize dBu B = u at *
  generalize dRa R0 = R at *
  clear hB hR
  have BU := Lib.hid bu
  obtain ⟨⟨u1, u2⟩, R1, R2⟩ := bkB_iff.1 bu
  clear bu
  go_wp2_with fail
  refine (H0.out _).mono ?_; rintro e w2 ⟨rfl, gr⟩
  have BW2 := Lib.hid (BW1.out.trans gr)
  clear gr k0 k1 k2 k3 BW1 H0
  go_upto_region 5 with fail
  obtain ⟨r, hr⟩ : ∃ r, (if R + m % 262144 < 2097152 then R + m % 262144 else 2097152) = r := ⟨_, rfl⟩
  have hr1 : R ≤ r ∧ r ≤ 2097152 := by rw [← hr]; split <;> omega
  rw [hr]
  have hs : svB r l = true := svB_iff.2 (by omega)
  have KD := Lib.hid (fun (c : Nat) (W : World) h0 h1 => delay1 (c := c) (w := W) (de_alike BU.out hs hr1.1 ⟨by simp, by simp⟩ (alike1 u R)) (fl_alike BU.out hs hr1.1 ⟨by simp, by simp⟩ (alike1 u R)) h0 h1)
  have KN := Lib.hid (fun (c : Nat) (W : World) (h0 : W.cell? ⟨c, 0, none⟩ = some (.int .i64 t)) (h1 : W.cell? ⟨c, 1, none⟩ = some (.int .i64 u)) => by
    have hd := dr_one (t := t) (u := u) ⟨t0, by omega⟩ ⟨u1, u2⟩ hs
    have := drain_any [(t, u)] (some ⟨c, 0, none⟩) 1 r l W (by simp) (Tr.one h0 h1)
    rw [hd.1] at this; exact this)
  have HN := Lib.hid (dr_one (t := t) (u := u) (r := r) (l := l) ⟨t0, by omega⟩ ⟨u1, u2⟩ hs)
  have KE := Lib.hid (fun (c : Nat) (W : World) (h0 : W.cell? ⟨c, 0, none⟩ = some (.int .i64 u)) (h1 : W.cell? ⟨c, 1, none⟩ = some (.int .i64 R)) (h2 : W.cell? ⟨c, 2, none⟩ = some (.int .i64 u)) (h3 : W.cell? ⟨c, 3, none⟩ = some (.int .i64 R)) (h4 : W.cell? ⟨c, 4, none⟩ = some (.int .i64 u)) (h5 : W.cell? ⟨c, 5, none⟩ = some (.int .i64 R)) => by
    have := delay_any [(u, R), (u, R), (u, R)] (some ⟨c, 0, none⟩) 3 r l W (by simp) (Tr.three h0 h1 h2 h3 h4 h5)
    rw [de_alike BU.out hs hr1.1 ⟨by simp, by simp⟩ (alike3 u R), fl_alike BU.out hs hr1.1 ⟨by simp, by simp⟩ (alike3 u R)] at this; exact this)
  have hq : 0 ≤ l + cl (u * 1048576) r ∧ l + cl (u * 1048576) r ≤ 1099511693312 := by
    have q1 := cl_nonneg (n := u * 1048576) (show 0 < r by omega) (by omega)
    have q2 := cl_self_le (n := u * 1048576) (show 0 < r by omega) (by omega)
    omega
  generalize l + cl (u * 1048576) r = d at *
  have wd : IntKind.i64.wrap (t + d) = t + d := IntWalk.i64_in _ (by omega)
  clear hr hr1 hs hq u1 u2 R1 R2 BU
  go_wp2_with fail
  refine Calls.mono (KD.out _ _ ?_ ?_) ?_
  iterate 2 (· simp [go_sem])
  rintro e w3 ⟨rfl, gr⟩
  have g3 : Bl ((w2.alloc (.cells #[.int .i64 u, .int .i64 R] 30)).alloc (.cells #[.int .i64 r, .int .i64 l] 54)) w3 := Bl.trans (by (repeat (first | exact Bl.refl _ | with_reducible refine Bl.alloc ?_ _))) gr
  have SB3 := Lib.hid (((Sl.new w2 u R 30).go ((Bl.refl _).alloc (.cells #[.int .i64 r, .int .i64 l] 54))).go g3)
  have SA3 := Lib.hid (show Sl (w2.heap.size + 1) r l w3 by have h := Sl.new (w2.alloc (.cells #[.int .i64 u, .int .i64 R] 30)) r l 54; rw [World.size_alloc] at h; exact h.go g3)
  have BW3 := Lib.hid (BW2.out.trans (Bl.trans (((Bl.refl w2).alloc _).alloc _) g3))
  clear gr g3 BW2
  generalize w2.heap.size = b at *
  have s0 := SA3.out.c0
  have s1 := SA3.out.c1
  have b0 := SB3.out.c0
  have b1 := SB3.out.c1
  have sl := SA3.out.lt
  have bl := SB3.out.lt
  go_wp2_with fail
  refine Calls.mono (KN.out _ _ ?_ ?_) ?_
  iterate 2 (· simp [go_sem])
  rintro e w4 ⟨v, rfl, hv, gr⟩
  have g4 : Bl w3 w4 := Bl.trans (by (repeat (first | exact Bl.refl _ | with_reducible refine Bl.alloc ?_ _))) gr
  have SA4 := Lib.hid (SA3.out.go g4)
  have SB4 := Lib.hid (SB3.out.go g4)
  have BW4 := Lib.hid (BW3.out.trans g4)
  clear gr g4 s0 s1 b0 b1 sl bl SA3 SB3 BW3
  have s0 := SA4.out.c0
  have s1 := SA4.out.c1
  have b0 := SB4.out.c0
  have b1 := SB4.out.c1
  have sl := SA4.out.lt
  have bl := SB4.out.lt
  obtain ⟨hne, _⟩ | ⟨_, db, rfl, _, hI⟩ := hv
  · exact absurd HN.out.1 hne
  have HI := Lib.hid hI
  clear hI
  go_wp2_with fail
  refine Calls.mono (KE.out _ _ ?_ ?_ ?_ ?_ ?_ ?_) ?_
  iterate 6 (· simp [go_sem])
  rintro e w5 ⟨rfl, gr⟩
  have g5 : Bl w4 w5 := Bl.trans (by (repeat (first | exact Bl.refl _ | with_reducible refine Bl.alloc ?_ _))) gr
  have SA5 := Lib.hid (SA4.out.go g5)
  have SB5 := Lib.hid (SB4.out.go g5)
  have BW5 := Lib.hid (BW4.out.trans g5)
  have HI2 := Lib.hid (HI.out.go g5)
  clear gr g5 s0 s1 b0 b1 sl bl SA4 SB4 BW4
  have s0 := SA5.out.c0
  have s1 := SA5.out.c1
  have b0 := SB5.out.c0
  have b1 := SB5.out.c1
  have sl := SA5.out.lt
  have bl := SB5.out.lt
  obtain ⟨b', o', hb', d0⟩ := HI2.out 0 (by simp)
  cases hb'
  rw [HN.out.2] at d0
  go_wp2_with fail
  go_ret
  exact ⟨rfl, BW5.out⟩

end Go.Proofs.Ytgbbglnbolihfaa
