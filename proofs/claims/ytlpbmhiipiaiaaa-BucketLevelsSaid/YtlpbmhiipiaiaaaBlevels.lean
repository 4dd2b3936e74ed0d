/-
  BucketLevels: a trace conforms if and only if the token level never becomes negative.
-/
import Derived.Test.YtlpbmhiipiaiaaaBw
import Derived.Test.YtlpbmhiipiaiaaaBr
namespace Go.Proofs.Ytlpbmhiipiaiaaa
open Go.ChangeShapes Go.WideShapes Go.ChangeAt Go.WideMaps Go.WideElems Go.RowKit

theorem fiB_self {u R : Int} {xs : List (Int × Int)} (hb : bkB u R = true) (ht : rtB xs = true) : fiB u R xs (fi xs u R) = true := by
  unfold fiB; rw [fiV_ok hb ht]; simp
theorem two_elems {w : World} (A1 : Option Addr) (c1 : Nat) (A2 : Option Addr) (c2 : Nat) (xs ys : List (Int × Int)) (h1 : Tr w A1 xs) (h2 : Tr w A2 ys) (o1 : rtB xs = true) (o2 : rtB ys = true) (k : Nat) (hk : k < 2) :
    ∃ zs A c, Tr w A zs ∧ rtB zs = true ∧ ∀ w, (Instr.index 57 (.agg #[.slice A1 xs.length c1, .slice A2 ys.length c2]) (.int .i64 k)).run Try.prog w = .ok (.slice A (List.length zs) c) w := by
  match k, hk with
  | 0, _ => exact ⟨xs, A1, c1, h1, o1, fun _ => by kernel_rfl⟩
  | 1, _ => exact ⟨ys, A2, c2, h2, o2, fun _ => by kernel_rfl⟩
/-- The state of the level's loop. -/
def LvRel (xs : List (Int × Int)) (u r : Int) (wr : World) (lvv pv bv jv : Value) (w7 : World) : Prop := ∃ (j : Nat) (q p bd : Int), j ≤ xs.length ∧ jv = .int .i64 j ∧ lvv = .int .i64 q ∧ pv = .int .i64 p ∧ bv = .int .i64 bd ∧ -1 ≤ bd ∧ bd ≤ 200 ∧ Hid ((bd = -1 ∧ q = lvp xs r (u * 1048576) j ∧ p = prev xs j ∧ ∀ j', j' < j → 0 ≤ lv xs r (u * 1048576) j') ∨ (0 ≤ bd ∧ bd = fi xs u r)) ∧ Hid (∃ n, w7 = wr.drewN n)
theorem TrRes.drew {w w' : World} {ps : List (Int × Int)} {e : Ending} (h : TrRes w ps e w') : TrRes w ps e w' := h

set_option maxRecDepth 100000 in
set_option maxHeartbeats 8000000 in
theorem levels_law (B R : Int) (gA : Option Addr) (gc : Nat) (sA : Option Addr) (sc : Nat) (gs ss : List Int) (w : World) (hB : 0 ≤ B ∧ B ≤ 4294967295) (hR : 0 ≤ R ∧ R ≤ 4294967295) (hg : Us w gA gs) (hs : Us w sA ss) (ug : U16 gs) (us : U16 ss) (sl : (ss.length : Int) ≤ 9223372036854775807) :
    Calls Try.prog 6 #[drV B R gA gs.length gc sA ss.length sc] w fun e w' => e = .returned (.bool true) ∧ Bl w w' := by
  unfold drV
  have HG := Lib.hid hg
  have HS := Lib.hid hs
  have KW := Lib.hid (fun w => works_any w)
  go_enter Try.func6, Try.ntmps6
  go_wp2_with fail
  have hd : D4 w.heap.size B R (.slice gA gs.length gc) (.slice sA ss.length sc) (w.alloc (.cells #[.int .u32 B, .int .u32 R, .slice gA gs.length gc, .slice sA ss.length sc] 27)) (w.alloc (.cells #[.int .u32 B, .int .u32 R, .slice gA gs.length gc, .slice sA ss.length sc] 27)) :=
    ⟨by simp [go_sem], by simp [go_sem], by simp [go_sem], by simp [go_sem], Bl.refl _⟩
  have hb0 : Bl w (w.alloc (.cells #[.int .u32 B, .int .u32 R, .slice gA gs.length gc, .slice sA ss.length sc] 27)) := (Bl.refl w).alloc _
  have k4 : w.heap.size < (w.alloc (.cells #[.int .u32 B, .int .u32 R, .slice gA gs.length gc, .slice sA ss.length sc] 27)).heap.size := by simp
  have HD := Lib.hid hd
  have HB0 := Lib.hid hb0
  have K4 := Lib.hid k4
  clear hd hb0 k4
  generalize (w.alloc (.cells #[.int .u32 B, .int .u32 R, .slice gA gs.length gc, .slice sA ss.length sc] 27)) = W at *
  have H1 := Lib.hid (fun w' => (by have := dbucket_any B R gA gs.length gc sA ss.length sc w' hB hR; unfold drV at this; exact this : Calls Try.prog 10 #[.agg #[.int .u32 B, .int .u32 R, .slice gA gs.length gc, .slice sA ss.length sc]] w' fun e w'' => e = .returned (.agg #[.int .i64 (dBu B), .int .i64 (dRa R)]) ∧ Bl w' w''))
  have H2 := Lib.hid (fun (w' : World) (h : w'.cell? ⟨w.heap.size, 0, none⟩ = some (.int .u32 B) ∧ w'.cell? ⟨w.heap.size, 1, none⟩ = some (.int .u32 R) ∧ w'.cell? ⟨w.heap.size, 2, none⟩ = some (.slice gA gs.length gc) ∧ w'.cell? ⟨w.heap.size, 3, none⟩ = some (.slice sA ss.length sc) ∧ Hid (Bl W w')) => (by have := dtrace_any B R gA gc sA sc gs ss w' (HG.out.go (HB0.out.trans h.2.2.2.2.out)) (HS.out.go (HB0.out.trans h.2.2.2.2.out)) ug us sl; unfold drV at this; exact this : Calls Try.prog 17 #[.agg #[.int .u32 B, .int .u32 R, .slice gA gs.length gc, .slice sA ss.length sc]] w' (TrRes w' (dTr gs ss))))
  have H3 := Lib.hid (fun (w' : World) (h : w'.cell? ⟨w.heap.size, 0, none⟩ = some (.int .u32 B) ∧ w'.cell? ⟨w.heap.size, 1, none⟩ = some (.int .u32 R) ∧ w'.cell? ⟨w.heap.size, 2, none⟩ = some (.slice gA gs.length gc) ∧ w'.cell? ⟨w.heap.size, 3, none⟩ = some (.slice sA ss.length sc) ∧ Hid (Bl W w')) => (by have := dconf_any B R gA gc sA sc gs ss w' hB hR (HG.out.go (HB0.out.trans h.2.2.2.2.out)) (HS.out.go (HB0.out.trans h.2.2.2.2.out)) ug us sl; unfold drV at this; exact this : Calls Try.prog 22 #[.agg #[.int .u32 B, .int .u32 R, .slice gA gs.length gc, .slice sA ss.length sc]] w' (TrRes w' (cnf (dBu B) (dRa R) (dTr gs ss)))))
  have HOK := Lib.hid (show rtB (dTr gs ss) = true from dT_ok ug us (by omega))
  clear hg hs ug us hB hR sl
  have k0 := HD.out.1
  have k1 := HD.out.2.1
  have k2 := HD.out.2.2.1
  have k3 := HD.out.2.2.2.1
  generalize w.heap.size = a0 at *
  refine (KW.out _).mono ?_; rintro e w1 ⟨rfl, gr⟩
  have D1 := Lib.hid (D4.step K4 HD.out gr)
  clear gr k0 k1 k2 k3
  have k0 := D1.out.1
  have k1 := D1.out.2.1
  have k2 := D1.out.2.2.1
  have k3 := D1.out.2.2.2.1
  go_wp2_with fail
  refine (H1.out _).mono ?_; rintro e w2 ⟨rfl, gr⟩
  have D2 := Lib.hid (D4.step K4 D1.out gr)
  clear gr D1 k0 k1 k2 k3
  obtain ⟨u, hu⟩ : ∃ u, dBu B = u := ⟨_, rfl⟩
  obtain ⟨r, hr⟩ : ∃ r, dRa R = r := ⟨_, rfl⟩
  have hbk := dB_ok B R
  rw [hu, hr] at hbk H3 ⊢
  rw [hu, hr] at H1
  have HBK := Lib.hid hbk
  obtain ⟨⟨hu1, hu2⟩, hr1, hr2⟩ := bkB_iff.1 hbk
  clear hu hr hbk
  have SB0 := Lib.hid (Sl.new w2 u r 23)
  have D3 := Lib.hid (D4.alloc K4 (.cells #[.int .i64 u, .int .i64 r] 23) D2.out)
  clear D2
  go_wp2_with fail
  generalize (w2.alloc (.cells #[.int .i64 u, .int .i64 r] 23)) = w3 at *
  generalize w2.heap.size = b at *
  have k0 := D3.out.1
  have k1 := D3.out.2.1
  have k2 := D3.out.2.2.1
  have k3 := D3.out.2.2.2.1
  go_region_held3 (fun w' => w'.cell? ⟨a0, 0, none⟩ = some (.int .u32 B) ∧ w'.cell? ⟨a0, 1, none⟩ = some (.int .u32 R) ∧ w'.cell? ⟨a0, 2, none⟩ = some (.slice gA gs.length gc) ∧ w'.cell? ⟨a0, 3, none⟩ = some (.slice sA ss.length sc) ∧ Hid (Bl W w')) (first | with_reducible assumption | with_reducible exact sb.out | exact D4.drew D3.out | with_reducible exact sb.out | fail) (first | (go_at_call 17; rename _ ∧ _ ∧ _ ∧ _ ∧ Hid (Bl W _) => hq; ((with_reducible refine (H2.out _ hq).mono ?_); rintro e wa ⟨A1, ca, rfl, hca, hTa, hgra, hfa⟩; have sb := Lib.hid (D4.step K4 hq hgra))) | (go_at_call 22; rename _ ∧ _ ∧ _ ∧ _ ∧ Hid (Bl W _) => hq; ((with_reducible refine (H3.out _ hq).mono ?_); rintro e wb ⟨A2, cb, rfl, hcb, hTb, hgrb, hfb⟩; have sb := Lib.hid (D4.step K4 hq hgrb))) | fail)
  have hgw : Bl w3 wb := Bl.trans (Bl.trans (Bl.drew (Bl.refl w3)) hgra) hgrb
  have SB1 := Lib.hid (SB0.out.go hgw)
  have GWb := Lib.hid (HB0.out.trans sb.out.2.2.2.2.out)
  have TA := Lib.hid (hTa.go hgrb)
  have TB := Lib.hid hTb
  have OKa := HOK
  have OKb := Lib.hid (show rtB (cnf u r (dTr gs ss)) = true from (cnfS_ok (u := u) (R := r) HOK.out (dTr gs ss).length (Nat.le_refl _)).1)
  clear hgw hgra hgrb hTa hTb hca hcb hfa hfb sb SB0 D3 HD HG HS
  clear HOK
  generalize cnf u r (dTr gs ss) = ys at *
  generalize dTr gs ss = xs0 at *
  clear k0 k1 k2 k3
  have HEL := Lib.hid (two_elems (w := wb) A1 ca A2 cb xs0 ys TA.out TB.out OKa.out OKb.out)
  go_wp2_with fail
  go_loopw [19] (fun kv wr => ∃ k : Nat, k ≤ 2 ∧ kv = .int .i64 k ∧ Hid (Sl b u r wr) ∧ Hid (Bl wb wr)) (fun kv _ => 2 - (intOf kv).toNat)
  case atStart => exact ⟨0, by omega, rfl, SB1.out, Bl.refl _⟩
  case round =>
    obtain ⟨k, hk, rfl, hsb, hw⟩ := hrel
    by_cases hk2 : k < 2
    · obtain ⟨xs, A, c, hTX, hok, hrun⟩ := HEL.out k hk2
      have TX := Lib.hid (hTX.go hw.out)
      have ok := Lib.hid hok
      clear hTX hok
      have s0 := hsb.out.c0
      have s1 := hsb.out.c1
      have KI := Lib.hid (fun w h => lfirst_v (len := xs.length) rfl (fiB_self HBK.out ok.out) (by have := (rtB_iff.1 ok.out).1; omega) A c w h)
      obtain ⟨cf, hcf⟩ : ∃ c, coB u r xs = c := ⟨_, rfl⟩
      have hcf2 := hcf
      rw [coB_ok HBK.out ok.out] at hcf2
      have KF := Lib.hid (fun w h => lfits_v (len := xs.length) rfl hcf (by have := (rtB_iff.1 ok.out).1; omega) A c w h)
      have HCF := Lib.hid (show cf = decide (fi xs u r < 0) by rw [← hcf2]; rfl)
      clear hcf hcf2
      have hn200 : xs.length ≤ 200 := (rtB_iff.1 ok.out).1
      have OKA := Lib.hid (rtB_iff.1 ok.out).2
      go_wp2_with fail
      go_loopw [6, 7, 8, 9] (fun lvv pv bv jv w7 => LvRel xs u r wr lvv pv bv jv w7) (fun _ _ _ jv _ => xs.length - (intOf jv).toNat)
      case atStart => exact ⟨0, u * 1048576, 0, -1, Nat.zero_le _, rfl, rfl, rfl, rfl, by omega, by omega, .inl ⟨rfl, rfl, rfl, fun j' hj' => absurd hj' (by omega)⟩, 0, rfl⟩
      case round =>
        obtain ⟨j, q, p, bd, hj, rfl, rfl, rfl, rfl, hbd1, hbd2, hinv, hw7⟩ := hrel
        obtain ⟨n7, e7⟩ := hw7.out
        subst e7
        clear hw7
        have GW := Lib.hid (show Bl wr (wr.drewN n7) from (Bl.refl wr).drewN n7)
        have SB := Lib.hid (show Sl b u r (wr.drewN n7) from hsb.out.go GW.out)
        have s0 := hsb.out.c0
        have s1 := hsb.out.c1
        rcases hinv.out with ⟨e1, e2, e3, hall⟩ | ⟨hb0, hbf⟩
        · subst e1
          by_cases hlt : j < xs.length
          · obtain ⟨b7, off7, ea, hb7, c0, c1⟩ := TX.out j hlt
            have lb := lvp_bd (xs := xs) (R := r) (F := u * 1048576) (k := j) (by omega) (by omega) (fun j' hj' => OKA.out j' (by omega))
            have pb := prev_bd (xs := xs) (k := j) (fun j' hj' => OKA.out j' (by omega))
            have okj := OKA.out j hlt
            have st := lv_step (xs := xs) (R := r) (F := u * 1048576) (k := j) (by omega) okj
            unfold okAt at okj
            have nx1 : lvp xs r (u * 1048576) (j + 1) = lv xs r (u * 1048576) j := rfl
            have nx2 : prev xs (j + 1) = fs xs j := rfl
            rw [← e3] at st pb okj
            rw [← e2] at st lb
            obtain ⟨z, hz⟩ : ∃ z, fs xs j = z := ⟨_, rfl⟩
            obtain ⟨s, hs'⟩ : ∃ s, sn xs j = s := ⟨_, rfl⟩
            obtain ⟨V, hV⟩ : ∃ V, lv xs r (u * 1048576) j = V := ⟨_, rfl⟩
            rw [hz] at st c0 nx2 okj
            rw [hs'] at st c1 okj
            rw [hV] at st nx1
            have NX1 := Lib.hid nx1
            have NX2 := Lib.hid nx2
            have HV := Lib.hid hV
            have HALL := Lib.hid hall
            have hmul0 : 0 ≤ r * (z - p) := Int.mul_nonneg (by omega) (by omega)
            have hmul1 : r * (z - p) ≤ 2305843009213693952 := by
              have e1 : r * (z - p) ≤ 2097152 * (z - p) := Int.mul_le_mul_of_nonneg_right hr2 (by omega)
              omega
            obtain ⟨D, hD⟩ : ∃ D, r * (z - p) = D := ⟨_, rfl⟩
            rw [hD] at hmul0 hmul1 st
            obtain ⟨lb1, lb2⟩ := lb
            obtain ⟨pb1, pb2⟩ := pb
            obtain ⟨⟨ok1, ok2⟩, ok3, ok4⟩ := okj
            have hVb : -1152921504606846976 ≤ V ∧ V ≤ 1152921504606846976 := by
              by_cases hc : u * 1048576 ≤ q + D
              · rw [st.1 hc]; omega
              · rw [st.2 hc]; omega
            obtain ⟨vb1, vb2⟩ := hVb
            have hVe : (if u * 1048576 < q + D then u * 1048576 else q + D) - s * 1048576 = V ∧ (if q + D < u * 1048576 then q + D else u * 1048576) - s * 1048576 = V := by
              by_cases hc : u * 1048576 ≤ q + D
              · rw [st.1 hc]; constructor <;> split <;> omega
              · rw [st.2 hc]; constructor <;> split <;> omega
            have ST := Lib.hid st
            have HVE := Lib.hid hVe
            clear st hVe nx1 nx2 hz hs' hV hall e2 e3 hinv
            subst ea
            have w0 : IntKind.i64.wrap (u * 1048576) = u * 1048576 := IntWalk.i64_in _ (by omega)
            have w1 : IntKind.i64.wrap (z - p) = z - p := IntWalk.i64_in _ (by omega)
            have w2 : IntKind.i64.wrap D = D := IntWalk.i64_in _ (by omega)
            have w3 : IntKind.i64.wrap (q + D) = q + D := IntWalk.i64_in _ (by omega)
            have w4 : IntKind.i64.wrap (s * 1048576) = s * 1048576 := IntWalk.i64_in _ (by omega)
            have i0 : (0 : Int) ≤ (j : Int) := by omega
            have i1 : (j : Int) < (xs.length : Int) := by omega
            have SBc := SB.out
            have s0' := SBc.c0
            have s1' := SBc.c1
            clear SBc
            go_wp2_with fail
            go_quiet (fail)
            rw [HVE.out.2]
            clear w0 w1 w2 w3 w4 hmul0 hmul1
            by_cases hneg : V < 0
            · have hfi : fi xs u r = (j : Int) := fneg_yes (k := j) hlt (by rw [HV.out]; exact hneg) HALL.out
              have HFI := Lib.hid hfi
              clear hfi
              go_wp2_with fail
              all_goals
                refine ⟨⟨_, _, _, _, ?rel, rfl, rfl, rfl, rfl⟩, ?measure⟩
                case rel => exact ⟨j + 1, V, z, j, by omega, by go_num, rfl, rfl, rfl, by omega, by omega, .inr ⟨by omega, HFI.out.symm⟩, _, rfl⟩
                case measure => simp [intOf]; omega
            · go_wp2_with fail
              refine ⟨⟨_, _, _, _, ?rel, rfl, rfl, rfl, rfl⟩, ?measure⟩
              case rel =>
                refine ⟨j + 1, V, z, -1, by omega, by go_num, rfl, rfl, rfl, by omega, by omega, .inl ⟨rfl, by rw [NX1.out], by rw [NX2.out], fun j' hj' => ?_⟩, _, rfl⟩
                rcases Nat.lt_or_ge j' j with h' | h'
                · exact HALL.out j' h'
                · obtain rfl : j' = j := by omega
                  rw [HV.out]; omega
              case measure => simp [intOf]; omega
          · have hjl : j = xs.length := by omega
            have hfi : fi xs u r = -1 := fneg_no (fun j' hj' => hall j' (by omega))
            rw [hfi] at KI HCF
            obtain rfl : cf = true := HCF.out
            clear hfi hall e2 e3 hinv
            go_wp2_with fail
            refine (KI.out _ (TX.out.go GW.out)).mono ?_; rintro e w8 ⟨rfl, gr⟩
            have SB8 := Lib.hid (SB.out.go gr)
            have GW8 := Lib.hid (GW.out.trans gr)
            clear gr s0 s1
            have s0 := SB8.out.c0
            have s1 := SB8.out.c1
            go_wp2_with fail
            refine (KF.out _ (TX.out.go GW8.out)).mono ?_; rintro e w9 ⟨rfl, gr⟩
            have SB9 := Lib.hid (SB8.out.go gr)
            have GW9 := Lib.hid (GW8.out.trans gr)
            clear gr s0 s1
            go_wp2_with fail
            go_roundw
            case rel => exact ⟨k + 1, by omega, by go_num, SB9.out, (hw.out.trans GW9.out)⟩
            case measure => simp [intOf] <;> omega
        · rw [← hbf] at KI HCF
          have hcf : cf = false := by rw [HCF.out]; exact decide_eq_false (by omega)
          subst hcf
          have hnb : ¬ bd < 0 := by omega
          clear hbf hinv
          by_cases hlt : j < xs.length
          · skip
            go_wp2_with fail
            refine (KI.out _ (TX.out.go GW.out)).mono ?_; rintro e w8 ⟨rfl, gr⟩
            have SB8 := Lib.hid (SB.out.go gr)
            have GW8 := Lib.hid (GW.out.trans gr)
            clear gr s0 s1
            have s0 := SB8.out.c0
            have s1 := SB8.out.c1
            go_wp2_with fail
            refine (KF.out _ (TX.out.go GW8.out)).mono ?_; rintro e w9 ⟨rfl, gr⟩
            have SB9 := Lib.hid (SB8.out.go gr)
            have GW9 := Lib.hid (GW8.out.trans gr)
            clear gr s0 s1
            go_wp2_with fail
            go_roundw
            case rel => exact ⟨k + 1, by omega, by go_num, SB9.out, (hw.out.trans GW9.out)⟩
            case measure => simp [intOf] <;> omega
          · skip
            go_wp2_with fail
            refine (KI.out _ (TX.out.go GW.out)).mono ?_; rintro e w8 ⟨rfl, gr⟩
            have SB8 := Lib.hid (SB.out.go gr)
            have GW8 := Lib.hid (GW.out.trans gr)
            clear gr s0 s1
            have s0 := SB8.out.c0
            have s1 := SB8.out.c1
            go_wp2_with fail
            refine (KF.out _ (TX.out.go GW8.out)).mono ?_; rintro e w9 ⟨rfl, gr⟩
            have SB9 := Lib.hid (SB8.out.go gr)
            have GW9 := Lib.hid (GW8.out.trans gr)
            clear gr s0 s1
            go_wp2_with fail
            go_roundw
            case rel => exact ⟨k + 1, by omega, by go_num, SB9.out, (hw.out.trans GW9.out)⟩
            case measure => simp [intOf] <;> omega
    · go_wp2_with fail
      go_ret
      exact ⟨rfl, GWb.out.trans hw.out⟩

end Go.Proofs.Ytlpbmhiipiaiaaa
