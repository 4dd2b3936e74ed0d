/-
  CurveHolds: every frame of a trace that conforms to two buckets has its latest departure at most Delay after its arrival.
-/
import Derived.Test.YtgbbglnbolihfaaCk
import Derived.Test.YtgbbglnbolihfaaCy
import Derived.Test.YtgbbglnbolihfaaCl
import Derived.Test.YtgbbglnbolihfaaCza
import Derived.Test.YtgbbglnbolihfaaBleast
import Derived.Test.YtgbbglnbolihfaaBz
namespace Go.Proofs.Ytgbbglnbolihfaa
open Go.ChangeShapes Go.WideShapes Go.ChangeAt Go.WideMaps Go.WideElems Go.RowKit

/-- A part of a conforming trace conforms: what has been kept for one bucket, kept again for another. -/
theorem cnf_keep {u R v S : Int} {xs : List (Int × Int)} (ho : rtB xs = true) (hu : 0 ≤ u) (hR : 0 ≤ R) (h : fitB xs u R = true) : fitB (cnf v S xs) u R = true := by
  have hO : Ok xs := (rtB_iff.1 ho).2
  have key : ∀ k, k ≤ xs.length → Pt xs (cnfS v S xs k) k := by
    intro k
    induction k with
    | zero => exact fun _ => Pt.start hO
    | succ k ih =>
      intro hk
      by_cases hf : fitB (cnfS v S xs k ++ [(fs xs k, sn xs k)]) v S = true
      · have e : cnfS v S xs (k + 1) = cnfS v S xs k ++ [(fs xs k, sn xs k)] := if_pos hf
        rw [e]; exact (ih (by omega)).keep hO (by omega)
      · have e : cnfS v S xs (k + 1) = cnfS v S xs k := if_neg hf
        rw [e]; exact (ih (by omega)).skip hO (by omega)
  exact (key xs.length (Nat.le_refl _)).fit (cf_of_fit hO hu hR h)

set_option maxRecDepth 100000 in
set_option maxHeartbeats 8000000 in
theorem holds_law (B R0 : Int) (gA : Option Addr) (gc : Nat) (sA : Option Addr) (sc : Nat) (gs ss : List Int) (p0 p1 m l : Int) (w : World) (hB : 0 ≤ B ∧ B ≤ 4294967295) (hR : 0 ≤ R0 ∧ R0 ≤ 4294967295) (hg : Us w gA gs) (hs : Us w sA ss) (ug : U16 gs) (us : U16 ss) (sl : (ss.length : Int) ≤ 9223372036854775807) (hp0 : 0 ≤ p0 ∧ p0 ≤ 65535) (hp1 : 0 ≤ p1 ∧ p1 ≤ 4294967295) (hm : 0 ≤ m ∧ m ≤ 4294967295) (hl : 0 ≤ l ∧ l ≤ 65535) :
    Calls Try.prog 9 #[drV B R0 gA gs.length gc sA ss.length sc, .int .u16 p0, .int .u32 p1, .int .u32 m, .int .u16 l] w fun e w' => e = .returned (.bool true) ∧ Bl w w' := by
  obtain ⟨m0, m1⟩ := hm
  obtain ⟨l0, l1⟩ := hl
  obtain ⟨p00, p01⟩ := hp0
  obtain ⟨p10, p11⟩ := hp1
  have HG := Lib.hid hg
  have HS := Lib.hid hs
  unfold drV
  have KW := Lib.hid (fun w => cworks_any w)
  go_enter Try.func9, Try.ntmps9
  go_wp2_with fail
  refine (KW.out _).mono ?_; rintro e w1 ⟨rfl, gr⟩
  have k0 := (gr.cell (p := ⟨w.heap.size, 0, none⟩) (by simp <;> omega)).trans (show _ = some (Value.int .u32 B) by simp [go_sem])
  have k1 := (gr.cell (p := ⟨w.heap.size, 1, none⟩) (by simp <;> omega)).trans (show _ = some (Value.int .u32 R0) by simp [go_sem])
  have k2 := (gr.cell (p := ⟨w.heap.size, 2, none⟩) (by simp <;> omega)).trans (show _ = some (Value.slice gA gs.length gc) by simp [go_sem])
  have k3 := (gr.cell (p := ⟨w.heap.size, 3, none⟩) (by simp <;> omega)).trans (show _ = some (Value.slice sA ss.length sc) by simp [go_sem])
  have BW1 := Lib.hid (Bl.trans ((Bl.refl w).alloc _) gr)
  have pl := cell_lt k0
  have HD4 := Lib.hid (show ∀ w', Bl w1 w' → w'.cell? ⟨w.heap.size, 0, none⟩ = some (.int .u32 B) ∧ w'.cell? ⟨w.heap.size, 1, none⟩ = some (.int .u32 R0) ∧ w'.cell? ⟨w.heap.size, 2, none⟩ = some (.slice gA gs.length gc) ∧ w'.cell? ⟨w.heap.size, 3, none⟩ = some (.slice sA ss.length sc) from fun w' g => ⟨(g.cell (p := ⟨w.heap.size, 0, none⟩) pl).trans k0, (g.cell (p := ⟨w.heap.size, 1, none⟩) pl).trans k1, (g.cell (p := ⟨w.heap.size, 2, none⟩) pl).trans k2, (g.cell (p := ⟨w.heap.size, 3, none⟩) pl).trans k3⟩)
  clear gr
  have HCN := Lib.hid (fun (v S : Int) (hvS : bkB v S = true) (w' : World) (g : Bl w w') => lconforming_any B R0 gA gc sA sc gs ss v S w' hB hR (HG.out.go g) (HS.out.go g) ug us sl hvS)
  have hlen0 : (dTr gs ss).length ≤ 30 := by unfold dTr; rw [dT_len]; omega
  have hok0 : rtB (dTr gs ss) = true := dT_ok ug us (by omega)
  have bu := dB_ok B R0
  have ok1 := (cnfS_ok (u := dBu B) (R := dRa R0) hok0 (dTr gs ss).length (Nat.le_refl _)).1
  have ft1 := cnfS_fit (u := dBu B) (R := dRa R0) (xs := dTr gs ss) (dTr gs ss).length
  have le1 := cnfS_len (dBu B) (dRa R0) (dTr gs ss) (dTr gs ss).length
  have H0 := Lib.hid (fun w' => (by have := dbucket_any B R0 gA gs.length gc sA ss.length sc w' hB hR; unfold drV at this; exact this : Calls Try.prog 16 #[.agg #[.int .u32 B, .int .u32 R0, .slice gA gs.length gc, .slice sA ss.length sc]] w' fun e w'' => e = .returned (.agg #[.int .i64 (dBu B), .int .i64 (dRa R0)]) ∧ Bl w' w''))
  generalize w.heap.size = a at *
  have CN := Lib.hid (show rtB (cnf (dBu B) (dRa R0) (dTr gs ss)) = true ∧ fitB (cnf (dBu B) (dRa R0) (dTr gs ss)) (dBu B) (dRa R0) = true ∧ (cnf (dBu B) (dRa R0) (dTr gs ss)).length ≤ 30 from ⟨ok1, ft1, Nat.le_trans le1 hlen0⟩)
  clear ok1 ft1 le1 hok0 hlen0 hg hs ug us sl hB hR
  unfold drV at HCN
  generalize cnf (dBu B) (dRa R0) (dTr gs ss) = zs at *
  generalize dBu B = u at *
  generalize dRa R0 = R at *
  have BU := Lib.hid bu
  obtain ⟨⟨u1, u2⟩, R1, R2⟩ := bkB_iff.1 bu
  clear bu
  go_wp2_with fail
  refine (H0.out _).mono ?_; rintro e w2 ⟨rfl, gr⟩
  have BW2 := Lib.hid gr
  clear gr k0 k1 k2 k3 H0 pl
  obtain ⟨v, hv⟩ : ∃ v, 1 + p0 = v := ⟨_, rfl⟩
  obtain ⟨S, hS⟩ : ∃ S, 1 + p1 % 2097152 = S := ⟨_, rfl⟩
  have wv : IntKind.i64.wrap (1 + p0) = v := by rw [hv]; exact IntWalk.i64_in _ (by omega)
  have wS : IntKind.i64.wrap (1 + p1 % 2097152) = S := by rw [hS]; exact IntWalk.i64_in _ (by omega)
  have hvS : bkB v S = true := bkB_iff.2 (by omega)
  obtain ⟨⟨v1, v2⟩, S1, S2⟩ := bkB_iff.1 hvS
  go_upto_region 4 with fail
  clear wv wS hv hS
  have HVS := Lib.hid hvS
  clear hvS
  go_upto_region 5 with fail
  obtain ⟨mi, hmi⟩ : ∃ mi, (if S < R then S else R) = mi := ⟨_, rfl⟩
  have hmi2 : mi = min R S := by rw [← hmi]; split <;> omega
  rw [hmi]
  clear hmi
  obtain ⟨r, hr⟩ : ∃ r, (if mi + m % 262144 < 2097152 then mi + m % 262144 else 2097152) = r := ⟨_, rfl⟩
  have hr1 : (1 ≤ r ∧ r ≤ 2097152) ∧ (R ≤ r ∨ S ≤ r) := by
    rw [← hr]; split <;> omega
  clear hmi2
  rw [hr]
  clear hr
  have hsv : svB r l = true := svB_iff.2 (by omega)
  obtain ⟨ys, hys⟩ : ∃ ys, cnf v S zs = ys := ⟨_, rfl⟩
  have KCN := Lib.hid (fun (w' : World) (g : Bl w w') => by have := HCN.out v S HVS.out w' g; rw [hys] at this; exact this)
  have oky := (cnfS_ok (u := v) (R := S) CN.out.1 zs.length (Nat.le_refl _)).1
  have fy2 := cnfS_fit (u := v) (R := S) (xs := zs) zs.length
  have ly := cnfS_len v S zs zs.length
  have fy1 := cnf_keep (u := u) (R := R) (v := v) (S := S) CN.out.1 (by omega) (by omega) CN.out.2.1
  have e0 : cnfS v S zs zs.length = ys := hys
  rw [e0] at oky fy2 ly
  rw [hys] at fy1
  have hly : ys.length ≤ 30 := Nat.le_trans ly CN.out.2.2
  have OKY := Lib.hid (rtB_iff.1 oky).2
  have hbk2 : bksB [(u, R), (v, S)] = true := bksB_iff.2 (fun k hk => by
    obtain rfl | rfl : k = 0 ∨ k = 1 := by simp at hk; omega
    · exact BU.out
    · exact HVS.out)
  have hsl2 : slB [(u, R), (v, S)] r = true := slB_iff.2 (by
    rcases hr1.2 with h | h
    · exact ⟨0, by simp, h⟩
    · exact ⟨1, by simp, h⟩)
  have hfl2 : flE [(u, R), (v, S)] r l = 0 := flE_ok.2 ⟨by simp, by simp, hbk2, hsv, hsl2⟩
  have hde2 := deV_ok hfl2
  have hcb := clr_bd hr1.1 hbk2 hsl2
  have HM := Lib.hid (fun j hj => holds_math (l := l) hr1.1 hbk2 OKY.out (by omega) (fun k hk => by
    obtain rfl | rfl : k = 0 ∨ k = 1 := by simp at hk; omega
    · exact fy1
    · exact fy2) j hj)
  have HMM := Lib.hid (fun j (hj : j + 1 < ys.length) => dep_mono (xs := ys) (r := r) (l := l) hr1.1.1 j (fun k hk => OKY.out k (by omega)))
  have hdr : drE ys r l = 0 := drE_ok.2 ⟨oky, hsv⟩
  have h1d : S ≤ r → flE [(v, S)] r l = 0 ∧ l + clr [(u, R), (v, S)] r ≤ deV [(v, S)] r l := fun h => by
    refine ⟨fl_alike HVS.out hsv h ⟨by simp, by simp⟩ (alike1 v S), ?_⟩
    rw [de_alike HVS.out hsv h ⟨by simp, by simp⟩ (alike1 v S)]
    have : clr [(u, R), (v, S)] r ≤ cl (v * 1048576) r := (mn_le_iff (by have := cl_self_le (n := v * 1048576) (show 0 < r by omega) (by omega); omega)).2 ⟨_, mem_dis_iff.2 ⟨1, by simp, h, .inl rfl⟩, Int.le_refl _⟩
    omega
  obtain ⟨D, hD⟩ : ∃ D, l + clr [(u, R), (v, S)] r = D := ⟨_, rfl⟩
  obtain ⟨V1, hV1⟩ : ∃ V, deV [(v, S)] r l = V := ⟨_, rfl⟩
  obtain ⟨E1, hE1⟩ : ∃ E, flE [(v, S)] r l = E := ⟨_, rfl⟩
  rw [hV1, hE1, hD] at h1d
  rw [hD] at hde2 HM
  have hDb : 0 ≤ D ∧ D ≤ 1099511693312 := by omega
  have KN := Lib.hid (fun (A : Option Addr) (c : Nat) (W : World) (h : Tr W A ys) => by have := drain_any ys A c r l W (by omega) h; rw [hdr] at this; exact this)
  have K2 := Lib.hid (fun (c : Nat) (W : World) (h0 : W.cell? ⟨c, 0, none⟩ = some (.int .i64 u)) (h1 : W.cell? ⟨c, 1, none⟩ = some (.int .i64 R)) (h2 : W.cell? ⟨c, 2, none⟩ = some (.int .i64 v)) (h3 : W.cell? ⟨c, 3, none⟩ = some (.int .i64 S)) => by
    have := delay_any [(u, R), (v, S)] (some ⟨c, 0, none⟩) 2 r l W (by simp) (Tr.two h0 h1 h2 h3)
    rw [hde2, hfl2] at this; exact this)
  have K1 := Lib.hid (fun (c : Nat) (W : World) h0 h1 => delay1 (c := c) (w := W) hV1 hE1 h0 h1)
  have H1D := Lib.hid h1d
  have HDR := Lib.hid hdr
  clear hys oky fy1 fy2 ly e0 hbk2 hsl2 hfl2 hde2 hcb hdr h1d hD hV1 hE1 hsv u1 u2 v1 v2 R1 R2 S1 S2
  have SX2 := Lib.hid ((((Sl.new w2 u R 30).go ((Bl.refl _).alloc (.cells #[.int .i64 v, .int .i64 S] 30))).go ((Bl.refl _).alloc (.cells #[.int .i64 r, .int .i64 l] 54))))
  have SB2 := Lib.hid (show Sl (w2.heap.size + 1) v S (((w2.alloc (.cells #[.int .i64 u, .int .i64 R] 30)).alloc (.cells #[.int .i64 v, .int .i64 S] 30)).alloc (.cells #[.int .i64 r, .int .i64 l] 54)) by have h := Sl.new (w2.alloc (.cells #[.int .i64 u, .int .i64 R] 30)) v S 30; rw [World.size_alloc] at h; exact h.go ((Bl.refl _).alloc _))
  have SA2 := Lib.hid (show Sl (w2.heap.size + 1 + 1) r l (((w2.alloc (.cells #[.int .i64 u, .int .i64 R] 30)).alloc (.cells #[.int .i64 v, .int .i64 S] 30)).alloc (.cells #[.int .i64 r, .int .i64 l] 54)) by have h := Sl.new ((w2.alloc (.cells #[.int .i64 u, .int .i64 R] 30)).alloc (.cells #[.int .i64 v, .int .i64 S] 30)) r l 54; rw [World.size_alloc, World.size_alloc] at h; exact h)
  have BX := Lib.hid (BW2.out.trans ((((Bl.refl w2).alloc (.cells #[.int .i64 u, .int .i64 R] 30)).alloc (.cells #[.int .i64 v, .int .i64 S] 30)).alloc (.cells #[.int .i64 r, .int .i64 l] 54)))
  clear BW2
  generalize (((w2.alloc (.cells #[.int .i64 u, .int .i64 R] 30)).alloc (.cells #[.int .i64 v, .int .i64 S] 30)).alloc (.cells #[.int .i64 r, .int .i64 l] 54)) = w3 at *
  generalize w2.heap.size = b at *
  obtain ⟨k0, k1, k2, k3⟩ := HD4.out w3 BX.out
  have cB0 := SB2.out.c0
  have cB1 := SB2.out.c1
  go_wp2_with fail
  refine (KCN.out _ (BW1.out.trans BX.out)).mono ?_
  rintro e w4 ⟨A, c, rfl, hc4, hT4, gr, _⟩
  have T4 := Lib.hid hT4
  have SX4 := Lib.hid (SX2.out.go gr)
  have SB4 := Lib.hid (SB2.out.go gr)
  have SA4 := Lib.hid (SA2.out.go gr)
  have BW4 := Lib.hid (BW1.out.trans (BX.out.trans gr))
  clear gr hT4 hc4 SX2 SB2 SA2 BX k0 k1 k2 k3 cB0 cB1 HD4
  have cX0 := SX4.out.c0
  have cX1 := SX4.out.c1
  have cXl := SX4.out.lt
  have cB0 := SB4.out.c0
  have cB1 := SB4.out.c1
  have cBl := SB4.out.lt
  have cA0 := SA4.out.c0
  have cA1 := SA4.out.c1
  have cAl := SA4.out.lt
  go_wp2_with fail
  refine (KN.out _ _ _ T4.out).mono ?_
  rintro e w5 ⟨v5, rfl, hv5, gr⟩
  have T5 := Lib.hid (T4.out.go gr)
  have g5 : Bl w4 w5 := Bl.trans (by (repeat (first | exact Bl.refl _ | with_reducible refine Bl.alloc ?_ _))) gr
  have SX5 := Lib.hid (SX4.out.go g5)
  have SB5 := Lib.hid (SB4.out.go g5)
  have SA5 := Lib.hid (SA4.out.go g5)
  have BW5 := Lib.hid (BW4.out.trans g5)
  obtain ⟨hne, _⟩ | ⟨_, db, rfl, _, hI⟩ := hv5
  · exact absurd HDR.out hne
  have I5 := Lib.hid hI
  clear hI
  clear gr g5 BW4 SX4 cX0 cX1 cXl SB4 cB0 cB1 cBl SA4 cA0 cA1 cAl
  have cX0 := SX5.out.c0
  have cX1 := SX5.out.c1
  have cXl := SX5.out.lt
  have cB0 := SB5.out.c0
  have cB1 := SB5.out.c1
  have cBl := SB5.out.lt
  have cA0 := SA5.out.c0
  have cA1 := SA5.out.c1
  have cAl := SA5.out.lt
  go_wp2_with fail
  refine Calls.mono (K2.out _ _ ?_ ?_ ?_ ?_) ?_
  iterate 4 (· simp [go_sem])
  rintro e w6 ⟨rfl, gr⟩
  have g6 : Bl w5 w6 := Bl.trans (by (repeat (first | exact Bl.refl _ | with_reducible refine Bl.alloc ?_ _))) gr
  have SX6 := Lib.hid (SX5.out.go g6)
  have SB6 := Lib.hid (SB5.out.go g6)
  have SA6 := Lib.hid (SA5.out.go g6)
  have BW6 := Lib.hid (BW5.out.trans g6)
  have T6 := Lib.hid (T5.out.go g6)
  have I6 := Lib.hid (I5.out.go g6)
  clear I5
  clear gr g6 BW5 SX5 cX0 cX1 cXl SB5 cB0 cB1 cBl SA5 cA0 cA1 cAl
  have cX0 := SX6.out.c0
  have cX1 := SX6.out.c1
  have cXl := SX6.out.lt
  have cB0 := SB6.out.c0
  have cB1 := SB6.out.c1
  have cBl := SB6.out.lt
  have cA0 := SA6.out.c0
  have cA1 := SA6.out.c1
  have cAl := SA6.out.lt
  go_wp2_with fail
  refine Calls.mono (K1.out _ _ ?_ ?_) ?_
  iterate 2 (· simp [go_sem])
  rintro e w7 ⟨rfl, gr⟩
  have g7 : Bl w6 w7 := Bl.trans (by (repeat (first | exact Bl.refl _ | with_reducible refine Bl.alloc ?_ _))) gr
  have SX7 := Lib.hid (SX6.out.go g7)
  have SB7 := Lib.hid (SB6.out.go g7)
  have SA7 := Lib.hid (SA6.out.go g7)
  have BW7 := Lib.hid (BW6.out.trans g7)
  have T7 := Lib.hid (T6.out.go g7)
  have I7 := Lib.hid (I6.out.go g7)
  clear I6
  clear gr g7 BW6 SX6 cX0 cX1 cXl SB6 cB0 cB1 cBl SA6 cA0 cA1 cAl
  have cX0 := SX7.out.c0
  have cX1 := SX7.out.c1
  have cXl := SX7.out.lt
  have cB0 := SB7.out.c0
  have cB1 := SB7.out.c1
  have cBl := SB7.out.lt
  have cA0 := SA7.out.c0
  have cA1 := SA7.out.c1
  have cAl := SA7.out.lt
  have hly2 : (ys.length : Int) ≤ 30 := by omega
  by_cases hSr : S ≤ r
  · obtain ⟨he1, hv1⟩ := H1D.out hSr
    subst he1
    go_wp2_with fail
    go_loopw [21] (fun iv wr => ∃ i : Nat, i ≤ ys.length ∧ iv = .int .i64 i ∧ Hid (Bl w7 wr)) (fun iv _ => ys.length - (intOf iv).toNat)
    case atStart => exact ⟨0, by omega, rfl, Bl.refl _⟩
    case round =>
      obtain ⟨i, hi, rfl, hwi⟩ := hrel
      by_cases hlt : i < ys.length
      · obtain ⟨b1, o1, rfl, _, c0, _⟩ := (T7.out.go hwi.out) i hlt
        obtain ⟨b2, o2, e2, d0⟩ := (I7.out.go hwi.out) i hlt
        obtain ⟨rfl, rfl⟩ : db = b2 ∧ o2 = 0 := by cases e2; exact ⟨rfl, rfl⟩
        clear e2
        rw [Nat.zero_add] at d0
        have hx := HM.out i hlt
        have okk := OKY.out i hlt
        have pv := prev_bd (xs := ys) (k := i) (fun j hj => OKY.out j (by omega))
        unfold okAt at okk
        obtain ⟨y, hy⟩ : ∃ y, fs ys i = y := ⟨_, rfl⟩
        obtain ⟨x, hx0⟩ : ∃ x, dep ys r l i = x := ⟨_, rfl⟩
        rw [hy] at c0 hx okk
        rw [hx0] at d0 hx
        have wy : IntKind.i64.wrap (y + D) = y + D := IntWalk.i64_in _ (by omega)
        have hlti : (i : Int) < (ys.length : Int) := by omega
        have hi30 : (i : Int) ≤ 30 := by omega
        have hge0 : (0 : Int) ≤ (i : Int) := by omega
        have HX := Lib.hid hx0
        clear hy hx0 okk pv
        by_cases hi0 : i = 0
        · subst hi0
          have q1 : decide (y + D < x) = false := decide_eq_false (by omega)
          have q2 : decide ((0 : Int) < 0) = false := by decide
          have hl0 : (0 : Int) < (ys.length : Int) := by omega
          rw [Nat.zero_mul, Nat.add_zero] at c0
          go_wp2_with fail
          go_quiet (fail)
          go_wp2_with fail
          go_roundw
          case rel => exact ⟨1, by omega, by go_num, Lib.hid (hwi.out.trans ((Bl.refl _).drewN _))⟩
          case measure => simp [intOf]; omega
        · obtain ⟨i', rfl⟩ : ∃ i', i = i' + 1 := ⟨i - 1, by omega⟩
          obtain ⟨b3, o3, e3, d1⟩ := (I7.out.go hwi.out) i' (by omega)
          obtain ⟨rfl, rfl⟩ : db = b3 ∧ o3 = 0 := by cases e3; exact ⟨rfl, rfl⟩
          clear e3
          rw [Nat.zero_add] at d1
          have hz := HMM.out i' hlt
          rw [HX.out] at hz
          generalize dep ys r l i' = z at *
          have w1' : IntKind.i64.wrap (((i' + 1 : Nat) : Int) - 1) = (i' : Int) := by rw [show ((i' + 1 : Nat) : Int) - 1 = (i' : Int) by omega]; exact IntWalk.i64_in _ (by omega)
          have w2' : IntKind.i64.wrap ((i' : Int) + 1 - 1) = (i' : Int) := by rw [show (i' : Int) + 1 - 1 = (i' : Int) by omega]; exact IntWalk.i64_in _ (by omega)
          have hlti' : (i' : Int) < (ys.length : Int) := by omega
          have q1 : decide (y + D < x) = false := decide_eq_false (by omega)
          have q2 : decide ((0 : Int) < (i' : Int) + 1) = true := decide_eq_true (by omega)
          have q3 : decide (x < z) = false := decide_eq_false (by omega)
          go_wp2_with fail
          go_quiet (fail)
          go_wp2_with fail
          go_roundw
          case rel => exact ⟨i' + 1 + 1, by omega, by go_num, Lib.hid (hwi.out.trans ((Bl.refl _).drewN _))⟩
          case measure => simp [intOf]; omega
      · obtain rfl : i = ys.length := by omega
        go_wp2_with fail
        go_ret
        exact ⟨rfl, BW7.out.trans hwi.out⟩
  · clear H1D
    go_wp2_with fail
    go_loopw [21] (fun iv wr => ∃ i : Nat, i ≤ ys.length ∧ iv = .int .i64 i ∧ Hid (Bl w7 wr)) (fun iv _ => ys.length - (intOf iv).toNat)
    case atStart => exact ⟨0, by omega, rfl, Bl.refl _⟩
    case round =>
      obtain ⟨i, hi, rfl, hwi⟩ := hrel
      by_cases hlt : i < ys.length
      · obtain ⟨b1, o1, rfl, _, c0, _⟩ := (T7.out.go hwi.out) i hlt
        obtain ⟨b2, o2, e2, d0⟩ := (I7.out.go hwi.out) i hlt
        obtain ⟨rfl, rfl⟩ : db = b2 ∧ o2 = 0 := by cases e2; exact ⟨rfl, rfl⟩
        clear e2
        rw [Nat.zero_add] at d0
        have hx := HM.out i hlt
        have okk := OKY.out i hlt
        have pv := prev_bd (xs := ys) (k := i) (fun j hj => OKY.out j (by omega))
        unfold okAt at okk
        obtain ⟨y, hy⟩ : ∃ y, fs ys i = y := ⟨_, rfl⟩
        obtain ⟨x, hx0⟩ : ∃ x, dep ys r l i = x := ⟨_, rfl⟩
        rw [hy] at c0 hx okk
        rw [hx0] at d0 hx
        have wy : IntKind.i64.wrap (y + D) = y + D := IntWalk.i64_in _ (by omega)
        have hlti : (i : Int) < (ys.length : Int) := by omega
        have hi30 : (i : Int) ≤ 30 := by omega
        have hge0 : (0 : Int) ≤ (i : Int) := by omega
        have HX := Lib.hid hx0
        clear hy hx0 okk pv
        by_cases hi0 : i = 0
        · subst hi0
          have q1 : decide (y + D < x) = false := decide_eq_false (by omega)
          have q2 : decide ((0 : Int) < 0) = false := by decide
          have hl0 : (0 : Int) < (ys.length : Int) := by omega
          rw [Nat.zero_mul, Nat.add_zero] at c0
          go_wp2_with fail
          go_quiet (fail)
          go_wp2_with fail
          go_roundw
          case rel => exact ⟨1, by omega, by go_num, Lib.hid (hwi.out.trans ((Bl.refl _).drewN _))⟩
          case measure => simp [intOf]; omega
        · obtain ⟨i', rfl⟩ : ∃ i', i = i' + 1 := ⟨i - 1, by omega⟩
          obtain ⟨b3, o3, e3, d1⟩ := (I7.out.go hwi.out) i' (by omega)
          obtain ⟨rfl, rfl⟩ : db = b3 ∧ o3 = 0 := by cases e3; exact ⟨rfl, rfl⟩
          clear e3
          rw [Nat.zero_add] at d1
          have hz := HMM.out i' hlt
          rw [HX.out] at hz
          generalize dep ys r l i' = z at *
          have w1' : IntKind.i64.wrap (((i' + 1 : Nat) : Int) - 1) = (i' : Int) := by rw [show ((i' + 1 : Nat) : Int) - 1 = (i' : Int) by omega]; exact IntWalk.i64_in _ (by omega)
          have w2' : IntKind.i64.wrap ((i' : Int) + 1 - 1) = (i' : Int) := by rw [show (i' : Int) + 1 - 1 = (i' : Int) by omega]; exact IntWalk.i64_in _ (by omega)
          have hlti' : (i' : Int) < (ys.length : Int) := by omega
          have q1 : decide (y + D < x) = false := decide_eq_false (by omega)
          have q2 : decide ((0 : Int) < (i' : Int) + 1) = true := decide_eq_true (by omega)
          have q3 : decide (x < z) = false := decide_eq_false (by omega)
          go_wp2_with fail
          go_quiet (fail)
          go_wp2_with fail
          go_roundw
          case rel => exact ⟨i' + 1 + 1, by omega, by go_num, Lib.hid (hwi.out.trans ((Bl.refl _).drewN _))⟩
          case measure => simp [intOf]; omega
      · obtain rfl : i = ys.length := by omega
        go_wp2_with fail
        go_ret
        exact ⟨rfl, BW7.out.trans hwi.out⟩

end Go.Proofs.Ytgbbglnbolihfaa
