/-
  MergeDamage: if some of 32 consecutive bits of the last piece are changed, no frame is returned.
-/
import Derived.Test.YtnapelocjcoofaaEr
import Derived.Deep.CutBlock
namespace Go.Proofs.Ytnapelocjcoofaa
open Go.RowKit Go.Proofs.Ytnapelocjcoofaa.Cr

set_option maxRecDepth 100000 in
set_option maxHeartbeats 4000000 in
theorem damage_law (d : ByteArray) (L N : Nat) (hL : L < 65536) (hN : N < 256) (A : Option Addr) (us : List Nat) (c : Nat) (hd : d.size ≤ maxLen) (hl : (us.length : Int) ≤ 9223372036854775807) (a p : Nat) (ha : a < 65536) (hp : p < 4294967296) (w : World) (hU : Uz w A us) :
    Calls Try.prog 8 #[drV d L N A us.length c, .int .u16 (a : Int), .int .u32 (p : Int)] w fun e w' => e = .returned (.bool true) ∧ Bl w w' := by
  have KW := Lib.hid (fun w => mworks_any w)
  have KP := Lib.hid (fun w hU => dpieces_any d L N hL hN A us c hd hl 30 (MO := 30) rfl (by decide) w hU)
  have hco := dcs_ok d L us 30
  have hcl := dcs_len d L us 30
  have h1 := frm_lo d L
  have h2 := frm_hi d L
  have h3 := frm_chk d L
  have hnum : 0 ≤ (N : Int) % 4 ∧ (N : Int) % 4 ≤ 3 := by omega
  unfold PcRes dps at KP
  unfold drV at *
  generalize frm d L = F at *
  generalize dcs d L us 30 = cs at *
  generalize (N : Int) % 4 = nu at *
  rw [upto_length] at KP
  have hps : ∀ k, k ≤ cs.length → (upto (pcI F nu cs) (cs.length + 1)).getD k ⟨false, 0, 0, ⟨#[]⟩⟩ = pcI F nu cs k := fun k hk => upto_get _ _ _ _ (by omega)
  have hpl : (upto (pcI F nu cs) (cs.length + 1)).length = cs.length + 1 := upto_length _ _
  generalize hPP : upto (pcI F nu cs) (cs.length + 1) = ps at *
  clear hPP
  have HU := Lib.hid hU
  have HPS := Lib.hid hps
  have HPL := Lib.hid hpl
  clear hU hps hpl
  have hz := pcD_size h1 hco (Nat.le_refl cs.length)
  rw [if_neg (Nat.lt_irrefl _)] at hz
  have hz2 := la_le hco h1 (Nat.le_refl cs.length)
  have hz3 := la_nonneg hco (Nat.le_refl cs.length)
  have hzz : (64 : Int) ≤ (pcD F cs cs.length).size ∧ ((pcD F cs cs.length).size : Int) ≤ 1522 := by omega
  clear hz hz2 hz3
  obtain ⟨D, hD⟩ : ∃ D, pcD F cs cs.length = D := ⟨_, rfl⟩
  have hDP : (pcI F nu cs cs.length).data = D := hD
  rw [hD] at hzz
  obtain ⟨hz1, hz2⟩ := hzz
  obtain ⟨q, hq⟩ : ∃ q, a % (8 * D.size) = q := ⟨_, rfl⟩
  have hq1 : q < 8 * D.size := by rw [← hq]; exact Nat.mod_lt _ (by omega)
  have KF := Lib.hid (fun w => flip_any D q p (by omega) hq1 hp w)
  rw [show bstr (Cr.flip D.data.toList q p 32) = fp D q p from rfl] at KF
  unfold u32 at KF
  have hqi : (q : Int) = (a : Int) % (8 * (D.size : Int)) := by rw [← hq, Int.natCast_emod, Int.natCast_mul]; rfl
  rw [hqi] at KF
  clear hqi hq
  have MB := Lib.hid (mk_bad h1 h2 h3 hco hnum (k := q) (p := p) (by rw [hD]; exact hq1) hp)
  have MJ := Lib.hid (fun k (hk : k ≤ cs.length) => mk_join (num := nu) h1 h2 h3 hco hnum hk)
  have MS := Lib.hid (fun k => mk_size (s := F) (num := nu) (cs := cs) h2 k)
  rw [hD] at MB
  have hfs : ((fp D q p).size : Int) ≤ 1522 := by rw [fp_size]; omega
  generalize hK : cs.length = K at *
  have HK := Lib.hid hK; clear hK
  go_enter Try.func8, Try.ntmps8
  go_wp2_with fail
  refine (KW.out _).mono ?_; rintro e w1 ⟨rfl, g1⟩
  have G0 := Lib.hid ((Bl.refl w).alloc (.cells #[.string d, .int .u16 (L : Int), .int .u8 (N : Int), .slice A us.length c] 25))
  have b1 := (Ms.boxed4 w d L N A us.length c).bl g1
  have x0 := b1.at 0 (by show 0 < 4; omega) (v := .string d) rfl
  have x1 := b1.at 1 (by show 1 < 4; omega) (v := .int .u16 (L : Int)) rfl
  have x2 := b1.at 2 (by show 2 < 4; omega) (v := .int .u8 (N : Int)) rfl
  have x3 := b1.at 3 (by show 3 < 4; omega) (v := .slice A us.length c) rfl
  have G1 := Lib.hid (G0.out.trans g1); clear g1 b1
  go_wp2_with fail
  refine (KP.out _ (HU.out.go G1.out)).mono ?_; rintro e w2 ⟨v, rfl, hown, g2⟩
  have G2 := Lib.hid (G1.out.trans g2)
  obtain ⟨-, g, c2, rfl, hbg, hc1, hc2, hpr⟩ := Pr.of_own (by omega) hown
  have hgw : w.heap.size ≤ g := Nat.le_trans G1.out.size hbg
  have hgl := hpr.1
  obtain ⟨-, -, -, p3⟩ := hpr.piece (k := K) (by rw [HPL.out]; omega) (HPS.out K (Nat.le_refl _))
  have f3 := (hpr.2 K (by rw [HPL.out]; omega) 3 (by omega)).2
  have HPR := Lib.hid hpr
  clear x0 x1 x2 x3 hown g2 hpr hbg G0 G1
  go_wp2_with fail
  refine (KF.out _).mono ?_; rintro e w3 ⟨rfl, g3⟩
  have hpr := HPR.out.go g3
  obtain ⟨-, -, -, p3'⟩ := hpr.piece (k := K) (by rw [HPL.out]; omega) (HPS.out K (Nat.le_refl _))
  have f3' := (hpr.2 K (by rw [HPL.out]; omega) 3 (by omega)).2
  have HQ := Lib.hid ((hpr.put (k := K) (by rw [HPL.out]; omega) (HPS.out K (Nat.le_refl _)) (fp D q p)).go ((Bl.refl _).alloc (.cells #[.bool false, .int .i64 0, .int .i64 0, .string ⟨#[]⟩] 43)))
  have G3 := Lib.hid ((((G2.out.trans g3).setCell (p := ⟨g, K * 4 + 3, none⟩) hgw (.string (fp D q p)))).alloc (.cells #[.bool false, .int .i64 0, .int .i64 0, .string ⟨#[]⟩] 43))
  have HM0 := Lib.hid (Ms.boxed (w3.setCell ⟨g, K * 4 + 3, none⟩ (.string (fp D q p))) zM 43)
  have hgl3 := hpr.1
  clear g3 hpr p3 f3 HPR hgl G2
  go_wp2_with fail
  rw [World.size_setCell] at HM0
  have hmw : w.heap.size ≤ w3.heap.size := by have := G3.out.size; simp at this; omega
  have hmg : g ≠ w3.heap.size := Nat.ne_of_lt hgl3
  generalize w3.heap.size = mb at *
  clear hgl3
  obtain ⟨⟨R, hR⟩⟩ : Nonempty { r : Ms × ByteArray // jnA (mk F nu cs K) (bad (pcI F nu cs K) q p) = (r, 0) ∧ (r.2 ≠ ⟨#[]⟩ → fp D q p = D) } := by
    obtain ⟨r, h⟩ := MB.out
    exact ⟨⟨r, h⟩⟩
  have HR := Lib.hid hR
  clear hR MB
  go_loopw [11] (fun iv wr => ∃ k : Nat, k ≤ K + 1 ∧ iv = .int .i64 k ∧ Hid (∃ m : Ms, (k ≤ K → m = mk F nu cs k) ∧ Bk wr mb m.l) ∧ Hid (Pr wr g (ps.set K { pcI F nu cs K with data := fp D q p })) ∧ Hid (Bl w wr)) (fun iv _ => K + 1 - (intOf iv).toNat)
  case atStart => exact ⟨0, by omega, rfl, Lib.hid ⟨zM, fun _ => rfl, HM0.out⟩, HQ, G3⟩
  case round =>
    obtain ⟨k, hk, rfl, hm, hpr, hw⟩ := hrel
    by_cases hlt : (k : Int) < (K : Int) + 1
    · obtain ⟨m, e1, hbm⟩ := hm.out
      obtain rfl := e1 (by omega)
      have hw' := hw.out
      have hmb := hbm.1
      have hpb := hpr.out.1
      have hpl2 : k < (ps.set K { pcI F nu cs K with data := fp D q p }).length := by rw [List.length_set, HPL.out]; omega
      have hlk : (ps.set K { pcI F nu cs K with data := fp D q p }).getD K ⟨false, 0, 0, ⟨#[]⟩⟩ = { pcI F nu cs K with data := fp D q p } := by simp [List.getD_eq_getElem?_getD, HPL.out]
      obtain ⟨P, R', hj, hP, hsz, hnext, htest⟩ : ∃ (P : Pc) (R' : Ms × ByteArray), jnA (mk F nu cs k) P = (R', 0) ∧ (ps.set K { pcI F nu cs K with data := fp D q p }).getD k ⟨false, 0, 0, ⟨#[]⟩⟩ = P ∧ (P.data.size : Int) ≤ 4000 ∧ (k + 1 ≤ K → R'.1 = mk F nu cs (k + 1)) ∧ (R'.2 = ⟨#[]⟩ ∨ (k = K ∧ fp D q p = D)) := by
        by_cases hkK : k = K
        · subst hkK
          refine ⟨_, R, ?_, hlk, by show ((fp D q p).size : Int) ≤ 4000; omega, fun h => absurd h (by omega), ?_⟩
          · have e := HR.out.1
            unfold bad at e
            rw [hDP] at e
            exact e
          · by_cases he : R.2 = ⟨#[]⟩
            · exact .inl he
            · exact .inr ⟨rfl, HR.out.2 he⟩
        · refine ⟨_, _, MJ.out k (by omega), ?_, ?_, fun _ => rfl, .inl (if_pos (by omega))⟩
          · rw [← HPS.out k (by omega)]
            simp [List.getD_eq_getElem?_getD, List.getElem?_set_ne (Ne.symm hkK)]
          · have h := (okP_iff.1 (pcI_ok (num := nu) h1 h2 hco hnum (i := k) (by rw [HK.out]; omega))).2.2.2.2
            omega
      have hms := MS.out k
      have KJ := Lib.hid (fun w => join_any (mk F nu cs k) P (by omega) hsz w)
      rw [jnV_of (nx := R'.1) (fr := R'.2) (c := 0) hj] at KJ
      obtain ⟨p0, p1, p2, p3⟩ := hpr.out.piece hpl2 hP
      have a0 := hbm.at 0 (by show 0 < 4; omega) (v := .bool (mk F nu cs k).on) rfl
      have a1 := hbm.at 1 (by show 1 < 4; omega) (v := .int .i64 (mk F nu cs k).num) rfl
      have a2 := hbm.at 2 (by show 2 < 4; omega) (v := .int .i64 (mk F nu cs k).next) rfl
      have a3 := hbm.at 3 (by show 3 < 4; omega) (v := .string (mk F nu cs k).data) rfl
      have HBM := Lib.hid (show Bk wr mb [.bool (mk F nu cs k).on, .int .i64 (mk F nu cs k).num, .int .i64 (mk F nu cs k).next, .string (mk F nu cs k).data] from hbm)
      unfold Ms.v Pc.v at KJ
      have HNX := Lib.hid hnext
      obtain ⟨⟨no, nn, nx, nd⟩, fr⟩ := R'
      dsimp only at KJ HNX htest
      clear hj hnext hsz hms hm hP hbm
      generalize (mk F nu cs k).on = mo at *
      generalize (mk F nu cs k).num = mn at *
      generalize (mk F nu cs k).next = mx at *
      generalize (mk F nu cs k).data = md at *
      generalize P.start = po at *
      generalize P.num = pn at *
      generalize P.cnt = pc at *
      generalize P.data = pd at *
      go_upto_region 11 with fail
      have HN := Lib.hid (fun (w' : World) (gg : Bl wr w') => (show w'.cell? ⟨mb, 0, none⟩ = some (.bool mo) ∧ w'.cell? ⟨mb, 1, none⟩ = some (.int .i64 mn) ∧ w'.cell? ⟨mb, 2, none⟩ = some (.int .i64 mx) ∧ w'.cell? ⟨mb, 3, none⟩ = some (.string md) ∧ w'.cell? ⟨g, k * 4, none⟩ = some (.bool po) ∧ w'.cell? ⟨g, k * 4 + 1, none⟩ = some (.int .i64 pn) ∧ w'.cell? ⟨g, k * 4 + 2, none⟩ = some (.int .i64 pc) ∧ w'.cell? ⟨g, k * 4 + 3, none⟩ = some (.string pd) ∧ Hid (Bl wr w') from ⟨(gg.cell (p := ⟨mb, 0, none⟩) hmb).trans a0, (gg.cell (p := ⟨mb, 1, none⟩) hmb).trans a1, (gg.cell (p := ⟨mb, 2, none⟩) hmb).trans a2, (gg.cell (p := ⟨mb, 3, none⟩) hmb).trans a3, (gg.cell (p := ⟨g, k * 4, none⟩) hpb).trans p0, (gg.cell (p := ⟨g, k * 4 + 1, none⟩) hpb).trans p1, (gg.cell (p := ⟨g, k * 4 + 2, none⟩) hpb).trans p2, (gg.cell (p := ⟨g, k * 4 + 3, none⟩) hpb).trans p3, Lib.hid gg⟩))
      go_cut [12, 13, 14] (fun s1 s2 s3 wx => Hid (∃ nb : Nat, s1 = .pointer (some ⟨nb, 0, none⟩) ∧ s2 = .string fr ∧ s3 = .int .i64 0 ∧ Bk wx nb [.bool no, .int .i64 nn, .int .i64 nx, .string nd] ∧ Bl wr wx ∧ wr.heap.size ≤ nb))
      case first =>
        go_region_held3 (fun w' => w'.cell? ⟨mb, 0, none⟩ = some (.bool mo) ∧ w'.cell? ⟨mb, 1, none⟩ = some (.int .i64 mn) ∧ w'.cell? ⟨mb, 2, none⟩ = some (.int .i64 mx) ∧ w'.cell? ⟨mb, 3, none⟩ = some (.string md) ∧ w'.cell? ⟨g, k * 4, none⟩ = some (.bool po) ∧ w'.cell? ⟨g, k * 4 + 1, none⟩ = some (.int .i64 pn) ∧ w'.cell? ⟨g, k * 4 + 2, none⟩ = some (.int .i64 pc) ∧ w'.cell? ⟨g, k * 4 + 3, none⟩ = some (.string pd) ∧ Hid (Bl wr w')) (first | with_reducible assumption | (refine HN.out _ ?_; (repeat (first | exact Bl.refl _ | with_reducible refine Bl.drew ?_ | with_reducible refine Bl.alloc ?_ _ | with_reducible refine Bl.setCell ?_ (Nat.le_refl _) _ | with_reducible refine Bl.trans ?_ hgr)); done) | fail) (first | (go_at_call 20; (with_reducible refine (KJ.out _).mono ?_); rintro e wn ⟨rfl, hgr⟩; first | ((with_reducible have hB := Bk.bl (Ms.zbox wr) hgr); have z0 := hB.at 0 (by show 0 < 4; omega) (v := .bool false) rfl; have zf0 := hB.fr 0 (by show 0 < 4; omega); have z1 := hB.at 1 (by show 1 < 4; omega) (v := .int .i64 0) rfl; have zf1 := hB.fr 1 (by show 1 < 4; omega); have z2 := hB.at 2 (by show 2 < 4; omega) (v := .int .i64 0) rfl; have zf2 := hB.fr 2 (by show 2 < 4; omega); have z3 := hB.at 3 (by show 3 < 4; omega) (v := .string ⟨#[]⟩) rfl; have zf3 := hB.fr 3 (by show 3 < 4; omega); skip) | skip) | fail)
        all_goals (rename _ ∧ _ ∧ _ ∧ _ ∧ _ ∧ _ ∧ _ ∧ _ ∧ Hid (Bl wr _) => hq; have hbl := hq.2.2.2.2.2.2.2.2.out; clear hq)
        all_goals (go_wp2_with fail; go_meet)
        all_goals first | exact Lib.hid ⟨_, rfl, rfl, rfl, Bk.new _ [.bool no, .int .i64 nn, .int .i64 nx, .string nd] _, hbl, hgr.size⟩ | exact Lib.hid ⟨_, rfl, rfl, rfl, hB.fourV (.bool no) (.int .i64 nn) (.int .i64 nx) (.string nd), hbl, Nat.le_refl _⟩
      obtain ⟨nb, rfl, rfl, rfl, hbn, hbl, hnb⟩ := hcut.out
      rename World => wx
      clear hcut a0 a1 a2 a3 p0 p1 p2 p3 KJ
      have hp9 := hpr.out.go hbl
      have hm9 := HBM.out.bl hbl
      obtain ⟨-, -, -, l3⟩ := hp9.piece (k := K) (by rw [List.length_set, HPL.out]; omega) hlk
      replace l3 : wx.cell? ⟨g, K * 4 + 3, none⟩ = some (.string (fp D q p)) := l3
      have n0 := hbn.at 0 (by show 0 < 4; omega) (v := .bool no) rfl
      have n1 := hbn.at 1 (by show 1 < 4; omega) (v := .int .i64 nn) rfl
      have n2 := hbn.at 2 (by show 2 < 4; omega) (v := .int .i64 nx) rfl
      have n3 := hbn.at 3 (by show 3 < 4; omega) (v := .string nd) rfl
      have b0 := hm9.at 0 (by show 0 < 4; omega) (v := .bool mo) rfl
      have b1 := hm9.at 1 (by show 1 < 4; omega) (v := .int .i64 mn) rfl
      have b2 := hm9.at 2 (by show 2 < 4; omega) (v := .int .i64 mx) rfl
      have b3 := hm9.at 3 (by show 3 < 4; omega) (v := .string md) rfl
      have bf0 := hm9.fr 0 (by show 0 < 4; omega)
      have bf1 := hm9.fr 1 (by show 1 < 4; omega)
      have bf2 := hm9.fr 2 (by show 2 < 4; omega)
      have bf3 := hm9.fr 3 (by show 3 < 4; omega)
      have HM9 := Lib.hid (show Bk _ mb (Ms.l ⟨no, nn, nx, nd⟩) from hm9.fourV (.bool no) (.int .i64 nn) (.int .i64 nx) (.string nd))
      have HP9 := Lib.hid ((((hp9.far (p := ⟨mb, 0, none⟩) (Ne.symm hmg) (.bool no)).far (p := ⟨mb, 1, none⟩) (Ne.symm hmg) (.int .i64 nn)).far (p := ⟨mb, 2, none⟩) (Ne.symm hmg) (.int .i64 nx)).far (p := ⟨mb, 3, none⟩) (Ne.symm hmg) (.string nd))
      have HW9 := Lib.hid ((hw'.trans hbl).four hmw (.bool no) (.int .i64 nn) (.int .i64 nx) (.string nd))
      have hkl : (k : Int) < (K : Int) + 1 := hlt
      clear hp9 hm9 hbn hbl hpr hw hw' HBM hlk hpb hpl2
      have fin : ∀ m : Ms, m = ⟨no, nn, nx, nd⟩ → (k + 1 ≤ K → m = mk F nu cs (k + 1)) := fun m e h => by rw [e]; exact HNX.out h
      have HFIN := Lib.hid fin
      clear fin
      rcases htest with hfr | ⟨hkK, hfp⟩
      · subst hfr
        go_wp2_with fail
        go_roundw
        case rel => exact ⟨k + 1, by omega, by go_num, Lib.hid ⟨_, HFIN.out _ rfl, HM9.out⟩, HP9, HW9⟩
        case measure => simp [intOf]; omega
      · rw [hfp] at l3
        clear hfp
        have hnl : ¬ (k : Int) < (K : Int) := by omega
        clear hkK
        go_wp2_with fail
        all_goals
          go_roundw
          case rel => exact ⟨k + 1, by omega, by go_num, Lib.hid ⟨_, HFIN.out _ rfl, HM9.out⟩, HP9, HW9⟩
          case measure => simp [intOf]; omega
    · obtain rfl : k = K + 1 := by omega
      go_wp2_with fail
      go_ret
      exact ⟨rfl, hw.out⟩

end Go.Proofs.Ytnapelocjcoofaa
