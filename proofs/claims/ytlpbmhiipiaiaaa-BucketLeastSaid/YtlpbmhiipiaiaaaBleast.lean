/-
  BucketLeast: a trace conforms with the least burst, with every greater one, and with no smaller one; a greater rate needs no greater burst.
-/
import Derived.Test.YtlpbmhiipiaiaaaBw
import Derived.Test.YtlpbmhiipiaiaaaBr
import Derived.Test.YtlpbmhiipiaiaaaBt
namespace Go.Proofs.Ytlpbmhiipiaiaaa
open Go.ChangeShapes Go.WideShapes Go.ChangeAt Go.WideMaps Go.WideElems Go.RowKit

/-- A greater rate needs no greater burst. -/
theorem lea_mono {xs : List (Int × Int)} {R R' : Int} (ht : rtB xs = true) (h : R ≤ R') : lea xs R' ≤ lea xs R := by
  refine (lea_le xs R' _).2 ⟨lea_pos xs R, fun i m him => ?_⟩
  have h1 := ((lea_le xs R _).1 (Int.le_refl _)).2 i m him
  have h2 := fs_mono (rtB_iff.1 ht).2 i m him
  unfold inI Bk.exc at h1 ⊢
  have h3 : R * (fs xs (i + m) - fs xs i) ≤ R' * (fs xs (i + m) - fs xs i) := Int.mul_le_mul_of_nonneg_right h (by omega)
  omega
theorem lea_nil (R : Int) : lea [] R = 1 := rfl
theorem fit_lea {xs : List (Int × Int)} {u R : Int} (hb : bkB u R = true) (ht : rtB xs = true) : coB u R xs = decide (lea xs R ≤ u) := by
  rw [coB_ok hb ht]
  unfold fitB
  have h := lea_fi xs R u (bkB_iff.1 hb).1.1
  by_cases hc : lea xs R ≤ u
  · rw [decide_eq_true hc, decide_eq_true (h.2 hc)]
  · rw [decide_eq_false hc, decide_eq_false (fun g => hc (h.1 g))]

/-- The slice does not lie in block b. -/
def Df (A : Option Addr) (b : Nat) (xs : List (Int × Int)) : Prop := ∀ k, k < xs.length → ∀ b' off, A = some ⟨b', off, none⟩ → b' ≠ b
theorem Tr.setD {w : World} {A : Option Addr} {xs : List (Int × Int)} {b : Nat} (h : Tr w A xs) (hd : Df A b xs) (v : Value) : Tr (w.setCell ⟨b, 0, none⟩ v) A xs := fun k hk => by
  obtain ⟨b', off, h1, h2, h3, h4⟩ := h k hk
  have hn : b ≠ b' := fun e => hd k hk b' off h1 e.symm
  exact ⟨b', off, h1, by simpa [World.setCell] using h2, by rw [World.cell?_setCell_far _ _ _ _ hn]; exact h3, by rw [World.cell?_setCell_far _ _ _ _ hn]; exact h4⟩
/-- What 'b, l := d.Bucket(), d.Trace()' leaves, b apart from l. -/
def MadeBD (W : World) (u R : Int) (ps : List (Int × Int)) (s5 s6 : Value) (wx : World) : Prop :=
  ∃ b A c, s5 = .pointer (some ⟨b, 0, none⟩) ∧ s6 = .slice A ps.length c ∧ Sl b u R wx ∧ Tr wx A ps ∧ Bl W wx ∧ W.heap.size ≤ b ∧ Df A b ps

set_option maxRecDepth 100000 in
set_option maxHeartbeats 8000000 in
theorem least_law (B R : Int) (gA : Option Addr) (gc : Nat) (sA : Option Addr) (sc : Nat) (gs ss : List Int) (t : Int) (w : World) (hB : 0 ≤ B ∧ B ≤ 4294967295) (hR : 0 ≤ R ∧ R ≤ 4294967295) (hg : Us w gA gs) (hs : Us w sA ss) (ug : U16 gs) (us : U16 ss) (sl : (ss.length : Int) ≤ 9223372036854775807) (ht : 0 ≤ t ∧ t ≤ 65535) :
    Calls Try.prog 7 #[drV B R gA gs.length gc sA ss.length sc, .int .u16 t] w fun e w' => e = .returned (.bool true) ∧ Bl w w' := by
  unfold drV
  have HG := Lib.hid hg
  have HS := Lib.hid hs
  have KW := Lib.hid (fun w => works_any w)
  obtain ⟨t0, t1⟩ := ht
  go_enter Try.func7, Try.ntmps7
  go_wp2_with fail
  have hd : D4 w.heap.size B R (.slice gA gs.length gc) (.slice sA ss.length sc) (w.alloc (.cells #[.int .u32 B, .int .u32 R, .slice gA gs.length gc, .slice sA ss.length sc] 27)) (w.alloc (.cells #[.int .u32 B, .int .u32 R, .slice gA gs.length gc, .slice sA ss.length sc] 27)) := ⟨by simp [go_sem], by simp [go_sem], by simp [go_sem], by simp [go_sem], Bl.refl _⟩
  have hb0 : Bl w (w.alloc (.cells #[.int .u32 B, .int .u32 R, .slice gA gs.length gc, .slice sA ss.length sc] 27)) := (Bl.refl w).alloc _
  have k4 : w.heap.size < (w.alloc (.cells #[.int .u32 B, .int .u32 R, .slice gA gs.length gc, .slice sA ss.length sc] 27)).heap.size := by simp
  have HD0 := Lib.hid hd
  have HB00 := Lib.hid hb0
  have K40 := Lib.hid k4
  clear hd hb0 k4
  generalize (w.alloc (.cells #[.int .u32 B, .int .u32 R, .slice gA gs.length gc, .slice sA ss.length sc] 27)) = W0 at *
  refine (KW.out _).mono ?_; rintro e W ⟨rfl, gr⟩
  have HD := Lib.hid (show D4 w.heap.size B R (.slice gA gs.length gc) (.slice sA ss.length sc) W W from (fun h => ⟨h.1, h.2.1, h.2.2.1, h.2.2.2.1, Bl.refl W⟩) (D4.step K40 HD0.out gr))
  have HB0 := Lib.hid (HB00.out.trans gr)
  have K4 := Lib.hid (Nat.lt_of_lt_of_le K40.out gr.size)
  clear gr HD0 HB00 K40
  have H1 := Lib.hid (fun w' => (by have := dbucket_any B R gA gs.length gc sA ss.length sc w' hB hR; unfold drV at this; exact this : Calls Try.prog 10 #[.agg #[.int .u32 B, .int .u32 R, .slice gA gs.length gc, .slice sA ss.length sc]] w' fun e w'' => e = .returned (.agg #[.int .i64 (dBu B), .int .i64 (dRa R)]) ∧ Bl w' w''))
  have H2 := Lib.hid (fun (w' : World) (h : Bl W w') => (by have := dtrace_any B R gA gc sA sc gs ss w' (HG.out.go (HB0.out.trans h)) (HS.out.go (HB0.out.trans h)) ug us sl; unfold drV at this; exact this : Calls Try.prog 17 #[.agg #[.int .u32 B, .int .u32 R, .slice gA gs.length gc, .slice sA ss.length sc]] w' (TrRes w' (dTr gs ss))))
  have hlen : (dTr gs ss).length ≤ 30 := by unfold dTr; rw [dT_len]; omega
  have hok : rtB (dTr gs ss) = true := dT_ok ug us (by omega)
  have hbk := dB_ok B R
  clear hg hs ug us sl hB hR
  generalize dTr gs ss = ys at *
  generalize dRa R = dr at *
  generalize dBu B = du at *
  have OK := Lib.hid hok
  obtain ⟨⟨hu1, hu2⟩, hr1, hr2⟩ := bkB_iff.1 hbk
  clear hok hbk
  have k0 := HD.out.1
  have k1 := HD.out.2.1
  have k2 := HD.out.2.2.1
  have k3 := HD.out.2.2.2.1
  generalize w.heap.size = a0 at *
  go_upto_region 3 with fail
  go_cut [5, 6] (fun s5 s6 wx => Hid (MadeBD W du dr ys s5 s6 wx))
  case first =>
    go_region_held3 (fun w' => w'.cell? ⟨a0, 0, none⟩ = some (.int .u32 B) ∧ w'.cell? ⟨a0, 1, none⟩ = some (.int .u32 R) ∧ w'.cell? ⟨a0, 2, none⟩ = some (.slice gA gs.length gc) ∧ w'.cell? ⟨a0, 3, none⟩ = some (.slice sA ss.length sc) ∧ Hid (Bl W w')) (first | with_reducible assumption | exact sb.out | exact D4.drew HD.out | (rename _ ∧ _ ∧ _ ∧ _ ∧ Hid (Bl W _) => hq; (first | exact D4.dalloc K4 _ hq | exact D4.alloc K4 _ hq | exact D4.alloc K4 _ sb.out | exact D4.set K4 (Nat.le_refl _) _ _ hq | exact D4.set K4 qz _ _ hq)) | fail) (first | (go_at_call 10; rename _ ∧ _ ∧ _ ∧ _ ∧ Hid (Bl W _) => hq; ((with_reducible refine (H1.out _).mono ?_); rintro e wa ⟨rfl, hgra⟩; have sb := Lib.hid (D4.step K4 hq hgra); have qz : W.heap.size ≤ wa.heap.size := sb.out.2.2.2.2.out.size; first | (with_reducible have q := Lib.hid (Sl.newD hgra)) | (have q := True.intro))) | (go_at_call 17; rename _ ∧ _ ∧ _ ∧ _ ∧ Hid (Bl W _) => hq; ((refine (H2.out _ hq.2.2.2.2.out).mono ?_); rintro e wb ⟨A1, ca, rfl, hca, hTa, hgrb, hfa⟩; have sb := Lib.hid (D4.step K4 hq hgrb); first | ((with_reducible have q2 := Lib.hid (Sl.newP hgrb)); have p0 := q2.out.c0; have p1 := q2.out.c1; have p2 := q2.out.f0; have p3 := q2.out.f1) | ((with_reducible have q2 := Lib.hid (Sl.go (Hid.out q) hgrb)); have p0 := q2.out.c0; have p1 := q2.out.c1; have p2 := q2.out.f0; have p3 := q2.out.f1) | (have q2 := True.intro))) | fail)
    all_goals go_wp2_with fail
    all_goals go_meet
    case rel => exact ⟨_, A1, ca, rfl, rfl, Sl.new wb _ _ _, hTa.go ((Bl.refl _).alloc _), sb.out.2.2.2.2.out.alloc _, sb.out.2.2.2.2.out.size, fun k hk b' off e => by obtain ⟨_, _, e2, h2, _⟩ := hTa k hk; rw [e] at e2; injection e2 with e2; injection e2 with e2 _; omega⟩
    case rel => exact ⟨_, A1, ca, rfl, rfl, (q2.out.set0 _).set1 _, (hTa.setCell 0 _ (fun b off h => by have := hfa b off h; simp at this; omega)).setCell 1 _ (fun b off h => by have := hfa b off h; simp at this; omega), (sb.out.2.2.2.2.out.setCell qz _).setCell qz _, qz, fun k hk b' off e => by have := hfa b' off e; simp at this; omega⟩
    case rel => exact ⟨_, A1, ca, rfl, rfl, (q2.out.set0 _).set1 _, (hTa.setCell 0 _ (fun b off h => by have := hfa b off h; have := q.out.lt; simp at *; omega)).setCell 1 _ (fun b off h => by have := hfa b off h; have := q.out.lt; simp at *; omega), (sb.out.2.2.2.2.out.setCell (Nat.le_refl _) _).setCell (Nat.le_refl _) _, Nat.le_refl _, fun k hk b' off e => by have := hfa b' off e; have := q.out.lt; simp at *; omega⟩
  obtain ⟨b, A, c, rfl, rfl, hS, hT, hB1, hWb, hDf⟩ := hcut.out
  have S0 := Lib.hid hS
  have T0 := Lib.hid hT
  have B0 := Lib.hid (HB0.out.trans hB1)
  have WB := Lib.hid (Nat.le_trans HB0.out.size hWb)
  have DF := Lib.hid hDf
  clear hcut hS hT hB1 hWb hDf k0 k1 k2 k3 HG HS HD H1 H2 HB0
  have hL1 := lea_pos ys dr
  have hmono : ∀ R', dr ≤ R' → lea ys R' ≤ lea ys dr := fun R' h => lea_mono OK.out h
  have HMONO := Lib.hid hmono
  have hfit : ∀ u, bkB u dr = true → coB u dr ys = decide (lea ys dr ≤ u) := fun u h => fit_lea h OK.out
  have HFIT := Lib.hid hfit
  have hok1 : btB 1 dr 2097152 = true := btB_t ⟨hr1, hr2⟩
  have hleO := fun h => leV_ok hok1 OK.out (show lea ys dr ≤ 1048576 from h)
  have hleB := fun h => leV_big hok1 OK.out (show ¬ lea ys dr ≤ 1048576 from h)
  have hnil : ys.length = 0 → lea ys dr = 1 := fun h => by rw [List.eq_nil_of_length_eq_zero h]; exact lea_nil dr
  obtain ⟨L, hL⟩ : ∃ L, lea ys dr = L := ⟨_, rfl⟩
  rw [hL] at hL1 hleO hleB hnil
  have HL := Lib.hid hL
  have w0 : IntKind.i64.wrap (dr + t) = dr + t := IntWalk.i64_in _ (by omega)
  obtain ⟨R2, hR2⟩ : ∃ v, (if (2097152 : Int) < dr + t then 2097152 else dr + t) = v := ⟨_, rfl⟩
  have q1 : dr ≤ R2 := by rw [← hR2]; split <;> omega
  have q2 : R2 ≤ 2097152 := by rw [← hR2]; split <;> omega
  have s0 := S0.out.c0
  have s1 := S0.out.c1
  have hys : (ys.length : Int) ≤ 9223372036854775807 := by omega
  by_cases hbig : L ≤ 1048576
  · have K1 := Lib.hid (fun w h => least_v (hleO hbig) A c w hys h)
    have hm2 := HMONO.out R2 q1
    rw [HL.out] at hm2
    have hl2 := lea_pos ys R2
    have hle2 := leV_ok (R := R2) (xs := ys) (btB_t ⟨by omega, q2⟩) OK.out (by omega)
    obtain ⟨L2, hL2⟩ : ∃ L, lea ys R2 = L := ⟨_, rfl⟩
    rw [hL2] at hm2 hl2 hle2
    have K2 := Lib.hid (fun w h => least_v hle2 A c w hys h)
    clear hleO hleB hle2 hL2 hnil hL hmono hfit hok1
    go_wp2_with fail
    refine (K1.out _ T0.out).mono ?_; rintro e w1 ⟨rfl, gr⟩
    have S1 := Lib.hid (S0.out.go gr)
    have T1 := Lib.hid (T0.out.go gr)
    have B1 := Lib.hid (B0.out.trans gr)
    clear gr s0 s1
    have s0 := S1.out.c0
    have s1 := S1.out.c1
    go_wp2_with fail
    refine (K2.out _ T1.out).mono ?_; rintro e w2 ⟨rfl, gr⟩
    have S2 := Lib.hid (S1.out.go gr)
    have T2 := Lib.hid (T1.out.go gr)
    have B2 := Lib.hid (B1.out.trans gr)
    clear gr s0 s1
    have s0 := S2.out.c0
    have s1 := S2.out.c1
    have f0 := S2.out.f0
    have n1 : ¬ L < L2 := by omega
    have n2 : ¬ L2 < 1 := by omega
    clear hR2 w0 q1 q2
    have hb1 : bkB L dr = true := bkB_iff.2 ⟨⟨hL1, hbig⟩, hr1, hr2⟩
    have hc1 := (HFIT.out L hb1).trans (decide_eq_true (by rw [HL.out]; omega))
    have KF1 := Lib.hid (fun w h => lfits_v (len := ys.length) rfl hc1 hys A c w h)
    have w3 : IntKind.i64.wrap (L + t) = L + t := IntWalk.i64_in _ (by omega)
    obtain ⟨u2, hu2'⟩ : ∃ v, (if (1048576 : Int) < L + t then 1048576 else L + t) = v := ⟨_, rfl⟩
    have p1 : L ≤ u2 := by rw [← hu2']; split <;> omega
    have p2 : u2 ≤ 1048576 := by rw [← hu2']; split <;> omega
    have hb2 : bkB u2 dr = true := bkB_iff.2 ⟨⟨by omega, p2⟩, hr1, hr2⟩
    have hc2 := (HFIT.out u2 hb2).trans (decide_eq_true (by rw [HL.out]; omega))
    have KF2 := Lib.hid (fun w h => lfits_v (len := ys.length) rfl hc2 hys A c w h)
    have w4 : IntKind.i64.wrap (L - 1) = L - 1 := IntWalk.i64_in _ (by omega)
    clear hb1 hc1 hb2 hc2
    go_wp2_with fail
    refine (KF1.out _ (T2.out.setD DF.out _)).mono ?_; rintro e w5 ⟨rfl, gr⟩
    have S5 := Lib.hid ((S2.out.set0 L).go gr)
    have T5 := Lib.hid ((T2.out.setD DF.out (.int .i64 L)).go gr)
    have B5 := Lib.hid ((B2.out.setCell (p := ⟨b, 0, none⟩) WB.out (.int .i64 L)).trans gr)
    clear gr s0 s1 f0
    have s0 := S5.out.c0
    have s1 := S5.out.c1
    have f0 := S5.out.f0
    go_wp2_with fail
    refine (KF2.out _ (T5.out.setD DF.out _)).mono ?_; rintro e w6 ⟨rfl, gr⟩
    have S6 := Lib.hid ((S5.out.set0 u2).go gr)
    have T6 := Lib.hid ((T5.out.setD DF.out (.int .i64 u2)).go gr)
    have B6 := Lib.hid ((B5.out.setCell (p := ⟨b, 0, none⟩) WB.out (.int .i64 u2)).trans gr)
    clear gr s0 s1 f0
    have s0 := S6.out.c0
    have s1 := S6.out.c1
    have f0 := S6.out.f0
    by_cases h1 : L = 1
    · have e1 : (L == 1) = true := by rw [h1]; rfl
      clear h1
      go_wp2_with fail
      go_ret
      exact ⟨rfl, B6.out.setCell (p := ⟨b, 0, none⟩) WB.out _⟩
    · have e1 : (L == 1) = false := beq_false_of_ne h1
      have hb3 : bkB (L - 1) dr = true := bkB_iff.2 ⟨⟨by omega, by omega⟩, hr1, hr2⟩
      have hc3 := (HFIT.out (L - 1) hb3).trans (decide_eq_false (by rw [HL.out]; omega))
      have KF3 := Lib.hid (fun w h => lfits_v (len := ys.length) rfl hc3 hys A c w h)
      clear h1 hb3 hc3
      go_wp2_with fail
      refine (KF3.out _ (T6.out.setD DF.out _)).mono ?_; rintro e w7 ⟨rfl, gr⟩
      have B7 := Lib.hid ((B6.out.setCell (p := ⟨b, 0, none⟩) WB.out (.int .i64 (L - 1))).trans gr)
      clear gr s0 s1 f0
      go_wp2_with fail
      go_ret
      exact ⟨rfl, B7.out⟩
  · have K1 := Lib.hid (fun w h => least_v (hleB hbig) A c w hys h)
    have hpos : (0 : Int) < (ys.length : Int) := by
      rcases Nat.eq_zero_or_pos ys.length with h | h
      · have := hnil h; omega
      · omega
    have hposN : 0 < ys.length := by omega
    obtain ⟨⟨V2, E2⟩, hv2⟩ : ∃ q, leV R2 ys = q := ⟨_, rfl⟩
    have K2 := Lib.hid (fun w h => least_v hv2 A c w hys h)
    clear hleO hleB hnil hL hmono hfit hok1 hv2
    go_wp2_with fail
    refine (K1.out _ T0.out).mono ?_; rintro e w1 ⟨rfl, gr⟩
    have S1 := Lib.hid (S0.out.go gr)
    have T1 := Lib.hid (T0.out.go gr)
    have B1 := Lib.hid (B0.out.trans gr)
    clear gr s0 s1
    have s0 := S1.out.c0
    have s1 := S1.out.c1
    go_wp2_with fail
    refine (K2.out _ T1.out).mono ?_; rintro e w2 ⟨rfl, gr⟩
    have B2 := Lib.hid (B1.out.trans gr)
    clear gr s0 s1
    go_wp2_with fail
    go_ret
    exact ⟨rfl, B2.out⟩

end Go.Proofs.Ytlpbmhiipiaiaaa
