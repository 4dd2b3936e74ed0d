/-
  CurveWaits: at most Backlog octets of a conforming trace are waiting, if the service has been busy since an earlier arrival.
-/
import Derived.Test.YtgbbglnbolihfaaCk
import Derived.Test.YtgbbglnbolihfaaBw
import Derived.Test.YtgbbglnbolihfaaBleast
import Derived.Test.YtgbbglnbolihfaaBv
namespace Go.Proofs.Ytgbbglnbolihfaa
open Go.ChangeShapes Go.WideShapes Go.ChangeAt Go.WideMaps Go.WideElems Go.RowKit

theorem cnf_len3 {u R : Int} {xs : List (Int × Int)} (h : rtB xs = true) : (cnf u R xs).length ≤ xs.length ∧ rtB (cnf u R xs) = true ∧ fitB (cnf u R xs) u R = true :=
  ⟨cnfS_len u R xs xs.length, (cnfS_ok h xs.length (Nat.le_refl _)).1, cnfS_fit xs.length⟩
/-- The sum of m sizes from i on. -/
def psm (f : Nat → Int) (i : Nat) : Nat → Int
  | 0 => 0
  | m + 1 => psm f i m + f (i + m)
theorem psm_succ (f : Nat → Int) (i m : Nat) : psm f i (m + 1) = Bk.sumF f i m := by
  induction m with
  | zero => show 0 + f (i + 0) = f i; rw [Nat.add_zero]; omega
  | succ m ih => show psm f i (m + 1) + f (i + (m + 1)) = Bk.sumF f i m + f (i + m + 1); rw [ih]; rfl
theorem psm_bd {xs : List (Int × Int)} {i m : Nat} (h : ∀ j, j < xs.length → okAt xs j) (hm : i + m ≤ xs.length) : 0 ≤ psm (sn xs) i m ∧ psm (sn xs) i m ≤ (m : Int) * 1048576 := by
  induction m with
  | zero => exact ⟨Int.le_refl _, by simp [psm]⟩
  | succ m ih =>
    have h1 := ih (by omega)
    have h2 := h (i + m) (by omega)
    unfold okAt at h2
    show 0 ≤ psm (sn xs) i m + sn xs (i + m) ∧ psm (sn xs) i m + sn xs (i + m) ≤ _
    omega
/-- What is waiting, in plain numbers. -/
theorem waits_math {xs : List (Int × Int)} {u R r l q t S P x : Int} {i m : Nat} (hf : fitB xs u R = true) (him : i + m < xs.length) (hS : psm (sn xs) i (m + 1) = S) (hR : 1 ≤ R) (hr : R ≤ r) (hq : R * l ≤ q * 1048576) (ht : fs xs (i + m) ≤ t) (hx : x = t - fs xs i - l)
    (hP : (0 < x → P = r * x) ∧ (x ≤ 0 → P = 0)) : S * 1048576 - P ≤ (u + q) * 1048576 := by
  have h1 := fi_neg.1 (of_decide_eq_true hf) i m him
  unfold inI Bk.exc at h1
  rw [← psm_succ, hS] at h1
  by_cases hc : 0 < x
  · rw [hP.1 hc]
    have h2 : R * (fs xs (i + m) - fs xs i) ≤ R * (x + l) := Int.mul_le_mul_of_nonneg_left (by omega) (by omega)
    rw [Int.mul_add] at h2
    have h3 : R * x ≤ r * x := Int.mul_le_mul_of_nonneg_right hr (by omega)
    omega
  · rw [hP.2 (by omega)]
    have h2 : R * (fs xs (i + m) - fs xs i) ≤ R * l := Int.mul_le_mul_of_nonneg_left (by omega) (by omega)
    omega

set_option maxRecDepth 100000 in
set_option maxHeartbeats 8000000 in
theorem waits_law (B R : Int) (gA : Option Addr) (gc : Nat) (sA : Option Addr) (sc : Nat) (gs ss : List Int) (m l t : Int) (w : World) (hB : 0 ≤ B ∧ B ≤ 4294967295) (hR : 0 ≤ R ∧ R ≤ 4294967295) (hg : Us w gA gs) (hs : Us w sA ss) (ug : U16 gs) (us : U16 ss) (sl : (ss.length : Int) ≤ 9223372036854775807) (hm : 0 ≤ m ∧ m ≤ 4294967295) (hl : 0 ≤ l ∧ l ≤ 65535) (ht : 0 ≤ t ∧ t ≤ 4294967295) :
    Calls Try.prog 12 #[drV B R gA gs.length gc sA ss.length sc, .int .u32 m, .int .u16 l, .int .u32 t] w fun e w' => e = .returned (.bool true) ∧ Bl w w' := by
  obtain ⟨t0, t1⟩ := ht
  obtain ⟨m0, m1⟩ := hm
  obtain ⟨l0, l1⟩ := hl
  unfold drV
  have HG := Lib.hid hg
  have HS := Lib.hid hs
  have KW := Lib.hid (fun w => cworks_any w)
  go_enter Try.func12, Try.ntmps12
  go_wp2_with fail
  have hd : D4 w.heap.size B R (.slice gA gs.length gc) (.slice sA ss.length sc) (w.alloc (.cells #[.int .u32 B, .int .u32 R, .slice gA gs.length gc, .slice sA ss.length sc] 25)) (w.alloc (.cells #[.int .u32 B, .int .u32 R, .slice gA gs.length gc, .slice sA ss.length sc] 25)) := ⟨by simp [go_sem], by simp [go_sem], by simp [go_sem], by simp [go_sem], Bl.refl _⟩
  have hb0 : Bl w (w.alloc (.cells #[.int .u32 B, .int .u32 R, .slice gA gs.length gc, .slice sA ss.length sc] 25)) := (Bl.refl w).alloc _
  have k4 : w.heap.size < (w.alloc (.cells #[.int .u32 B, .int .u32 R, .slice gA gs.length gc, .slice sA ss.length sc] 25)).heap.size := by simp
  have HD0 := Lib.hid hd
  have HB00 := Lib.hid hb0
  have K40 := Lib.hid k4
  clear hd hb0 k4
  generalize (w.alloc (.cells #[.int .u32 B, .int .u32 R, .slice gA gs.length gc, .slice sA ss.length sc] 25)) = W0 at *
  refine (KW.out _).mono ?_; rintro e W ⟨rfl, gr⟩
  have HD := Lib.hid (show D4 w.heap.size B R (.slice gA gs.length gc) (.slice sA ss.length sc) W W from (fun h => ⟨h.1, h.2.1, h.2.2.1, h.2.2.2.1, Bl.refl W⟩) (D4.step K40 HD0.out gr))
  have HB0 := Lib.hid (HB00.out.trans gr)
  have K4 := Lib.hid (Nat.lt_of_lt_of_le K40.out gr.size)
  clear gr HD0 HB00 K40
  have H1 := Lib.hid (fun w' => (by have := dbucket_any B R gA gs.length gc sA ss.length sc w' hB hR; unfold drV at this; exact this : Calls Try.prog 16 #[.agg #[.int .u32 B, .int .u32 R, .slice gA gs.length gc, .slice sA ss.length sc]] w' fun e w'' => e = .returned (.agg #[.int .i64 (dBu B), .int .i64 (dRa R)]) ∧ Bl w' w''))
  have H2 := Lib.hid (fun (w' : World) (h : Bl W w') => (by have := dconf_any B R gA gc sA sc gs ss w' hB hR (HG.out.go (HB0.out.trans h)) (HS.out.go (HB0.out.trans h)) ug us sl; unfold drV at this; exact this : Calls Try.prog 17 #[.agg #[.int .u32 B, .int .u32 R, .slice gA gs.length gc, .slice sA ss.length sc]] w' (TrRes w' (cnf (dBu B) (dRa R) (dTr gs ss)))))
  have hlen0 : (dTr gs ss).length ≤ 30 := by unfold dTr; rw [dT_len]; omega
  have hok0 : rtB (dTr gs ss) = true := dT_ok ug us (by omega)
  have hbk := dB_ok B R
  have hcl := cnf_len3 (u := dBu B) (R := dRa R) hok0
  have hlen : (cnf (dBu B) (dRa R) (dTr gs ss)).length ≤ 30 := by omega
  have OK := Lib.hid hcl.2.1
  have FT := Lib.hid hcl.2.2
  clear hg hs ug us sl hB hR hcl hok0 hlen0
  generalize cnf (dBu B) (dRa R) (dTr gs ss) = ys at *
  generalize dRa R = dr at *
  generalize dBu B = du at *
  have HBK := Lib.hid hbk
  obtain ⟨⟨hu1, hu2⟩, hr1, hr2⟩ := bkB_iff.1 hbk
  clear hbk
  have k0 := HD.out.1
  have k1 := HD.out.2.1
  have k2 := HD.out.2.2.1
  have k3 := HD.out.2.2.2.1
  generalize w.heap.size = a0 at *
  go_upto_region 3 with fail
  go_cut [9, 10] (fun s5 s6 wx => Hid (MadeBD W du dr ys s5 s6 wx))
  case first =>
    go_region_held3 (fun w' => w'.cell? ⟨a0, 0, none⟩ = some (.int .u32 B) ∧ w'.cell? ⟨a0, 1, none⟩ = some (.int .u32 R) ∧ w'.cell? ⟨a0, 2, none⟩ = some (.slice gA gs.length gc) ∧ w'.cell? ⟨a0, 3, none⟩ = some (.slice sA ss.length sc) ∧ Hid (Bl W w')) (first | with_reducible assumption | exact sb.out | exact D4.drew HD.out | (rename _ ∧ _ ∧ _ ∧ _ ∧ Hid (Bl W _) => hq; (first | exact D4.dalloc K4 _ hq | exact D4.alloc K4 _ hq | exact D4.alloc K4 _ sb.out | exact D4.set K4 (Nat.le_refl _) _ _ hq | exact D4.set K4 qz _ _ hq)) | fail) (first | (go_at_call 16; rename _ ∧ _ ∧ _ ∧ _ ∧ Hid (Bl W _) => hq; ((with_reducible refine (H1.out _).mono ?_); rintro e wa ⟨rfl, hgra⟩; have sb := Lib.hid (D4.step K4 hq hgra); have qz : W.heap.size ≤ wa.heap.size := sb.out.2.2.2.2.out.size; first | (with_reducible have q := Lib.hid (Sl.newD hgra)) | (have q := True.intro))) | (go_at_call 17; rename _ ∧ _ ∧ _ ∧ _ ∧ Hid (Bl W _) => hq; ((refine (H2.out _ hq.2.2.2.2.out).mono ?_); rintro e wb ⟨A1, ca, rfl, hca, hTa, hgrb, hfa⟩; have sb := Lib.hid (D4.step K4 hq hgrb); first | ((with_reducible have q2 := Lib.hid (Sl.newP hgrb)); have p0 := q2.out.c0; have p1 := q2.out.c1; have p2 := q2.out.f0; have p3 := q2.out.f1) | ((with_reducible have q2 := Lib.hid (Sl.go (Hid.out q) hgrb)); have p0 := q2.out.c0; have p1 := q2.out.c1; have p2 := q2.out.f0; have p3 := q2.out.f1) | (have q2 := True.intro))) | fail)
    all_goals go_wp2_with fail
    all_goals go_meet
    case rel => exact ⟨_, A1, ca, rfl, rfl, Sl.new wb _ _ _, hTa.go ((Bl.refl _).alloc _), sb.out.2.2.2.2.out.alloc _, sb.out.2.2.2.2.out.size, fun k hk b' off e => by obtain ⟨_, _, e2, h2, _⟩ := hTa k hk; rw [e] at e2; injection e2 with e2; injection e2 with e2 _; omega⟩
    case rel => exact ⟨_, A1, ca, rfl, rfl, (q2.out.set0 _).set1 _, (hTa.setCell 0 _ (fun b off h => by have := hfa b off h; simp at this; omega)).setCell 1 _ (fun b off h => by have := hfa b off h; simp at this; omega), (sb.out.2.2.2.2.out.setCell qz _).setCell qz _, qz, fun k hk b' off e => by have := hfa b' off e; simp at this; omega⟩
    case rel => exact ⟨_, A1, ca, rfl, rfl, (q2.out.set0 _).set1 _, (hTa.setCell 0 _ (fun b off h => by have := hfa b off h; have := q.out.lt; simp at *; omega)).setCell 1 _ (fun b off h => by have := hfa b off h; have := q.out.lt; simp at *; omega), (sb.out.2.2.2.2.out.setCell (Nat.le_refl _) _).setCell (Nat.le_refl _) _, Nat.le_refl _, fun k hk b' off e => by have := hfa b' off e; have := q.out.lt; simp at *; omega⟩
  obtain ⟨b, A, c, rfl, rfl, hS, hT, hB1, hWb, hDf⟩ := hcut.out
  have S0 := Lib.hid hS
  have T0 := Lib.hid hT
  have B0 := Lib.hid (HB0.out.trans hB1)
  clear hcut hS hT hB1 hWb hDf k0 k1 k2 k3 HG HS HD H1 H2 HB0
  have s0 := S0.out.c0
  have s1 := S0.out.c1
  rename World => wx
  go_upto_region 5 with fail
  obtain ⟨r, hr⟩ : ∃ r, (if dr + m % 262144 < 2097152 then dr + m % 262144 else 2097152) = r := ⟨_, rfl⟩
  have hr1' : dr ≤ r ∧ r ≤ 2097152 := by rw [← hr]; split <;> omega
  rw [hr]
  clear hr s0 s1
  have hfl := fl1_ok (u := du) (R := dr) (r := r) (l := l) (by omega) (by omega) hr1'.1
  obtain ⟨q, hq⟩ : ∃ q, cl (dr * l) 1048576 = q := ⟨_, rfl⟩
  have hba : baV du dr r l = du + q := by unfold baV; rw [if_pos hfl, hq]
  have KB := Lib.hid (fun (W : World) => by have := backlog_any du dr r l W; rw [hba, hfl] at this; exact this)
  have hq2 : dr * l ≤ q * 1048576 := by rw [← hq]; exact cl_ge (by decide)
  have hq0 : 0 ≤ q := by rw [← hq]; exact cl_nonneg (by decide) (Int.mul_nonneg (by omega) l0)
  have hq1 : q ≤ 536870912 := by
    rw [← hq]; refine (cl_le (by decide)).2 ?_
    have := mul_bd (x := dr) (y := l) (X := 2097152) (Y := 65535) (by omega) (by omega); omega
  have SB0 := Lib.hid (S0.out.go ((Bl.refl _).alloc (.cells #[.int .i64 r, .int .i64 l] 54)))
  have SA0 := Lib.hid (Sl.new wx r l 54)
  have T1 := Lib.hid (T0.out.go ((Bl.refl _).alloc (.cells #[.int .i64 r, .int .i64 l] 54)))
  have B1 := Lib.hid (B0.out.alloc (.cells #[.int .i64 r, .int .i64 l] 54))
  clear hfl hba hq S0 T0 B0
  generalize (wx.alloc (.cells #[.int .i64 r, .int .i64 l] 54)) = w5 at *
  generalize wx.heap.size = sb at *
  have s0 := SB0.out.c0
  have s1 := SB0.out.c1
  have s2 := SA0.out.c0
  have s3 := SA0.out.c1
  go_wp2_with fail
  refine (KB.out _).mono ?_; rintro e w6 ⟨rfl, gr⟩
  have SA6 := Lib.hid (SA0.out.go gr)
  have T6 := Lib.hid (T1.out.go gr)
  have B6 := Lib.hid (B1.out.trans gr)
  clear gr s0 s1 s2 s3 SB0 SA0 T1 B1 KB
  have OKA := Lib.hid (rtB_iff.1 OK.out).2
  have QQ := Lib.hid (And.intro hq2 (And.intro hr1 hr1'.1))
  have nB : IntKind.i64.wrap ((du + q) * 1048576) = (du + q) * 1048576 := IntWalk.i64_in _ (by omega)
  have hlen2 : (ys.length : Int) ≤ 30 := by omega
  have tm0 : 0 ≤ t % 99999 ∧ t % 99999 ≤ 99998 := by omega
  go_wp2_with fail
  go_loopw [14] (fun iv wr => ∃ i : Nat, i ≤ ys.length ∧ iv = .int .i64 i ∧ Hid (Bl w6 wr)) (fun iv _ => ys.length - (intOf iv).toNat)
  case atStart => exact ⟨0, Nat.zero_le _, rfl, Bl.refl _⟩
  case round =>
    obtain ⟨i, hi, rfl, hw⟩ := hrel
    by_cases hlt : i < ys.length
    · go_wp2_with fail
      go_loopw [15, 16] (fun qv jv wj => ∃ m : Nat, i + m ≤ ys.length ∧ jv = .int .i64 ((i + m : Nat) : Int) ∧ qv = .int .i64 (psm (sn ys) i m) ∧ Hid (Bl w6 wj)) (fun _ jv _ => ys.length - (intOf jv).toNat)
      case atStart => exact ⟨0, by omega, rfl, rfl, hw⟩
      case round =>
        obtain ⟨m, hm, rfl, rfl, hwj⟩ := hrel
        by_cases hlj : i + m < ys.length
        · obtain ⟨b1, o1, rfl, _, c0, _⟩ := (T6.out.go hwj.out) i hlt
          obtain ⟨b2, o2, e2, _, d0, d1⟩ := (T6.out.go hwj.out) (i + m) hlj
          obtain ⟨rfl, rfl⟩ : b1 = b2 ∧ o1 = o2 := by cases e2; exact ⟨rfl, rfl⟩
          clear e2
          have ok1 := OKA.out i hlt
          have ok2 := OKA.out (i + m) hlj
          have ps1 := psm_bd (xs := ys) (i := i) (m := m) OKA.out hm
          have ps2 := psm_bd (xs := ys) (i := i) (m := m + 1) OKA.out (by omega)
          have pv1 := prev_bd (xs := ys) (k := i) (fun j hj => OKA.out j (by omega))
          have pv2 := prev_bd (xs := ys) (k := i + m) (fun j hj => OKA.out j (by omega))
          unfold okAt at ok1 ok2
          obtain ⟨S, hS⟩ : ∃ S, psm (sn ys) i (m + 1) = S := ⟨_, rfl⟩
          have hS2 : psm (sn ys) i m + sn ys (i + m) = S := hS
          have hmath := fun (t' P x : Int) (h1 : fs ys (i + m) ≤ t') (h2 : x = t' - fs ys i - l) h3 => waits_math (t := t') (P := P) (x := x) FT.out hlj hS QQ.out.2.1 QQ.out.2.2 QQ.out.1 h1 h2 h3
          obtain ⟨z, hz⟩ : ∃ z, fs ys i = z := ⟨_, rfl⟩
          obtain ⟨y, hy⟩ : ∃ y, fs ys (i + m) = y := ⟨_, rfl⟩
          obtain ⟨v, hv⟩ : ∃ v, sn ys (i + m) = v := ⟨_, rfl⟩
          obtain ⟨Q, hQ⟩ : ∃ Q, psm (sn ys) i m = Q := ⟨_, rfl⟩
          rw [hz] at c0 ok1 hmath
          rw [hy] at d0 ok2 hmath
          rw [hv] at d1 ok2 hS2
          rw [hQ] at hS2 ps1 ⊢
          rw [hS] at ps2
          have a0' := (SA6.out.go hwj.out).c0
          have a1' := (SA6.out.go hwj.out).c1
          have hm30 : (m : Int) ≤ 30 := by omega
          obtain ⟨t', ht'⟩ : ∃ t', y + t % 99999 = t' := ⟨_, rfl⟩
          have tb : y ≤ t' ∧ t' ≤ 1099511727774 := by omega
          have HM := Lib.hid (hmath t' (if 0 < t' - z - l then r * (t' - z - l) else 0) (t' - z - l) tb.1 rfl ⟨fun h => by rw [if_pos h], fun h => by rw [if_neg (by omega)]⟩)
          have w1 : IntKind.i64.wrap (Q + v) = S := by rw [hS2]; exact IntWalk.i64_in _ (by omega)
          have w2 : IntKind.i64.wrap (y + t % 99999) = t' := by rw [ht']; exact IntWalk.i64_in _ (by omega)
          have w3 : IntKind.i64.wrap (t' - z) = t' - z := IntWalk.i64_in _ (by omega)
          have w4 : IntKind.i64.wrap (t' - z - l) = t' - z - l := IntWalk.i64_in _ (by omega)
          have w7 : IntKind.i64.wrap (S * 1048576) = S * 1048576 := IntWalk.i64_in _ (by omega)
          have HS2 := Lib.hid (And.intro hS hwj.out)
          clear hz hy hv hQ hS hS2 hmath
          by_cases hx : 0 < t' - z - l
          · have pb := mul_bd (x := r) (y := t' - z - l) (X := 2097152) (Y := 1099511727774) (by omega) (by omega)
            have w8 : IntKind.i64.wrap (r * (t' - z - l)) = r * (t' - z - l) := IntWalk.i64_in _ (by omega)
            have hn := HM.out
            rw [if_pos hx] at hn
            have w9 : IntKind.i64.wrap (S * 1048576 - r * (t' - z - l)) = S * 1048576 - r * (t' - z - l) := IntWalk.i64_in _ (by omega)
            clear HM ok1 ok2 ps1 ps2 pv1 pv2 tb ht' pb
            go_wp2_with fail
            go_quiet (fail)
            go_wp2_with fail
            go_roundw
            case rel => exact ⟨m + 1, by omega, by go_num, by rw [HS2.out.1], Lib.hid (HS2.out.2.trans ((Bl.refl _).drewN _))⟩
            case measure => simp [intOf]; omega
          · have hn := HM.out
            rw [if_neg hx] at hn
            have w8 : IntKind.i64.wrap (r * 0) = 0 := by rw [Int.mul_zero]; decide
            have w9 : IntKind.i64.wrap (S * 1048576 - 0) = S * 1048576 := by rw [Int.sub_zero]; exact w7
            have hn2 : S * 1048576 ≤ (du + q) * 1048576 := by omega
            clear HM ok1 ok2 ps1 ps2 pv1 pv2 tb ht'
            go_wp2_with fail
            go_quiet (fail)
            go_wp2_with fail
            go_roundw
            case rel => exact ⟨m + 1, by omega, by go_num, by rw [HS2.out.1], Lib.hid (HS2.out.2.trans ((Bl.refl _).drewN _))⟩
            case measure => simp [intOf]; omega
        · have hge : ¬ (((i + m : Nat) : Int) < (ys.length : Int)) := by omega
          go_wp2_with fail
          go_roundw
          case rel => exact ⟨i + 1, by omega, by go_num, hwj⟩
          case measure => simp [intOf]; omega
    · obtain rfl : i = ys.length := by omega
      go_wp2_with fail
      go_ret
      exact ⟨rfl, B6.out.trans hw.out⟩

end Go.Proofs.Ytgbbglnbolihfaa
