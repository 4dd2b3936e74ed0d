/-
  MergeMixed: pieces of four frames with different numbers, in any order, yield no frame but these.
-/
import Derived.Test.YtnapelocjcoofaaMw
import Derived.Deep.AppendLies
namespace Go.Proofs.Ytnapelocjcoofaa
open Go.RowKit Go.Proofs.Ytnapelocjcoofaa.Cr

set_option maxRecDepth 100000 in
set_option maxHeartbeats 8000000 in
theorem mixed_law (d : Nat → ByteArray) (L N : Nat → Nat) (A : Nat → Option Addr) (c : Nat → Nat) (us : Nat → List Nat) (hd : ∀ i, i < 4 → L i < 65536 ∧ N i < 256 ∧ (d i).size ≤ maxLen ∧ ((us i).length : Int) ≤ 9223372036854775807)
    (B : Option Addr) (os : List Nat) (e : Nat) (ho : (os.length : Int) ≤ 9223372036854775807) (w : World) (hU : ∀ i, i < 4 → Uz w (A i) (us i)) (hO : Uz w B os) :
    Calls Try.prog 6 #[.agg #[.string (d 0), .int .u16 ((L 0 : Nat) : Int), .int .u8 ((N 0 : Nat) : Int), .slice (A 0) (us 0).length (c 0), .string (d 1), .int .u16 ((L 1 : Nat) : Int), .int .u8 ((N 1 : Nat) : Int), .slice (A 1) (us 1).length (c 1), .string (d 2), .int .u16 ((L 2 : Nat) : Int), .int .u8 ((N 2 : Nat) : Int), .slice (A 2) (us 2).length (c 2), .string (d 3), .int .u16 ((L 3 : Nat) : Int), .int .u8 ((N 3 : Nat) : Int), .slice (A 3) (us 3).length (c 3)], .slice B os.length e] w fun e w' => e = .returned (.bool true) ∧ Bl w w' := by
  have KW := Lib.hid (fun w => mworks_any w)
  obtain ⟨Fq, hFq⟩ : ∃ Fq : Nat → ByteArray, Fq = fun q => frm (d q) (L q) := ⟨_, rfl⟩
  obtain ⟨cq, hcq⟩ : ∃ cq : Nat → List Int, cq = fun q => dcs (d q) (L q) (us q) 4 := ⟨_, rfl⟩
  have KF := Lib.hid (fun (n q : Nat) (hq : q < 4) w => show Calls Try.prog 11 #[.agg #[.string (d q), .int .u16 ((L q : Nat) : Int), .int .u8 (n : Int), .slice (A q) (us q).length (c q)]] w (fun e w' => e = .returned (.string (Fq q)) ∧ Bl w w') from by rw [hFq]; exact frame_any (d q) (L q) n (hd q hq).1 (A q) (us q).length (c q) (hd q hq).2.2.1 w)
  have KO := Lib.hid (fun (n q : Nat) (hq : q < 4) w (hU : Uz w (A q) (us q)) => show Calls Try.prog 10 #[.agg #[.string (d q), .int .u16 ((L q : Nat) : Int), .int .u8 (n : Int), .slice (A q) (us q).length (c q)], .int .i64 4] w (CutsRes w (cq q)) from by rw [hcq]; exact offsets_any (d q) (L q) n (hd q hq).1 (A q) (us q) (c q) (hd q hq).2.2.1 (hd q hq).2.2.2 4 rfl (by decide) w hU)
  have hlo : ∀ q, 64 ≤ (Fq q).size := fun q => by rw [hFq]; exact frm_lo _ _
  have hhi : ∀ q, (Fq q).size ≤ 1522 := fun q => by rw [hFq]; exact frm_hi _ _
  have hgd : ∀ q, chk (Fq q) 0 = true := fun q => by rw [hFq]; exact frm_chk _ _
  have hwh : ∀ q, whB (Fq q) = true := fun q => by rw [hFq]; exact frm_wh _ _
  have hok : ∀ q, okC (Fq q).size (cq q) = true := fun q => by rw [hFq, hcq]; exact dcs_ok _ _ _ _
  have hfw : ∀ q, (cq q).length ≤ 4 := fun q => by rw [hcq]; exact dcs_len _ _ _ _
  have KC := Lib.hid (fun (q : Nat) (hq : q < 4) w A2 c2 (hI : Iz w A2 (cq q)) => show Calls Try.prog 13 #[.string (Fq q), .int .i64 (q : Int), .slice A2 (cq q).length c2] w (CutRes w (pcsQ Fq cq q, 0)) from by
    have h := cut_any (Fq q) (by have := hhi q; omega) (q : Int) (cq q) A2 c2 w (by have := hfw q; omega) (okC_i64 (hok q) (hhi q)) hI
    rw [cut_yes (hwh q) (decide_eq_true (by omega)) (hok q)] at h
    exact h)
  have FR : Frs (fun q => Fq q.toNat) (fun q => cq q.toNat) := ⟨fun q _ => hlo _, fun q _ => hhi _, fun q _ => hgd _, fun q _ => hok _, fun q _ => hfw _⟩
  have HFR := Lib.hid FR
  have HFW := Lib.hid hfw
  have HHI := Lib.hid hhi
  have HLO := Lib.hid hlo
  have HAL := Lib.hid (fun k (hk : k ≤ 4) => allQ_len (Fq := Fq) (fun q _ => hfw q) k hk)
  have HU := Lib.hid hU
  have HO := Lib.hid hO
  clear hU hO FR hfw hhi hlo hok hgd hwh hFq hcq
  have HD := Lib.hid hd
  clear hd
  go_enter Try.func6, Try.ntmps6
  go_wp2_with fail
  refine (KW.out _).mono ?_; rintro ee w1 ⟨rfl, g1⟩
  have HDX := Lib.hid ((Dx.new w 59 d L N A us c).go g1)
  have G1 := Lib.hid (((Bl.refl w).alloc (.cells #[.string (d 0), .int .u16 ((L 0 : Nat) : Int), .int .u8 ((N 0 : Nat) : Int), .slice (A 0) (us 0).length (c 0), .string (d 1), .int .u16 ((L 1 : Nat) : Int), .int .u8 ((N 1 : Nat) : Int), .slice (A 1) (us 1).length (c 1), .string (d 2), .int .u16 ((L 2 : Nat) : Int), .int .u8 ((N 2 : Nat) : Int), .slice (A 2) (us 2).length (c 2), .string (d 3), .int .u16 ((L 3 : Nat) : Int), .int .u8 ((N 3 : Nat) : Int), .slice (A 3) (us 3).length (c 3)] 59)).trans g1)
  have hdb : w.heap.size < w1.heap.size := HDX.out.1
  clear g1
  go_wp2_with fail
  generalize hdbb : w.heap.size = db at *
  have HDB := Lib.hid hdbb
  clear hdbb
  go_loopw [5, 6] (fun v iv wr => ∃ k : Nat, k ≤ 4 ∧ iv = .int .i64 (k : Int) ∧ Hid (wr.ownsRow w1.heap.size 45 4 v (allQ Fq cq k).length (flP (allQ Fq cq k))) ∧ Hid (∃ N', Dx wr db d L N' A us c) ∧ Hid (Bl w wr) ∧ Hid (w1.heap.size ≤ wr.heap.size)) (fun _ iv _ => 4 - (intOf iv).toNat)
  case atStart => exact ⟨0, by omega, rfl, World.ownsRow_nil _ _ _ _, Lib.hid ⟨N, HDX.out⟩, G1, Lib.hid (Nat.le_refl _)⟩
  case round =>
    obtain ⟨k, hk, rfl, hown, hdx, hw, hsz⟩ := hrel
    by_cases hlt : (k : Int) < 4
    · have hk4 : k < 4 := by omega
      obtain ⟨N', hdx'⟩ := hdx.out
      have hput := hdx'.put hk4 k
      obtain ⟨⟨x0, x1, x2, x3⟩, x4⟩ := hdx'.2 k hk4
      have hdl := hdx'.1
      go_upto_region 8 with fail
      have hW8 := (hw.out).setCell (p := ⟨db, k * 4 + 2, none⟩) (by rw [HDB.out]; exact Nat.le_refl _) (.int .u8 (k : Int))
      have hO8 := own_far hown.out (p := ⟨db, k * 4 + 2, none⟩) hdb (.int .u8 (k : Int))
      have hz8 : w1.heap.size ≤ (wr.setCell ⟨db, k * 4 + 2, none⟩ (.int .u8 (k : Int))).heap.size := by rw [World.size_setCell]; exact hsz.out
      clear x0 x1 x2 x3 x4 hdx' hdl hown hdx hw hsz
      generalize wr.setCell ⟨db, k * 4 + 2, none⟩ (.int .u8 (k : Int)) = W at *
      obtain ⟨⟨x0, x1, x2, x3⟩, -⟩ := hput.2 k hk4
      rw [show (fun i => if i = k then k else N' i) k = k from if_pos rfl] at x2
      have hbl := hput.1
      have HPUT := Lib.hid hput
      have HW8 := Lib.hid hW8
      have HO8 := Lib.hid hO8
      have HZ8 := Lib.hid hz8
      have HUk := Lib.hid ((HU.out k hk4).go hW8)
      have HN := Lib.hid (fun (w' : World) (gg : Bl W w') => (show w'.cell? ⟨db, k * 4, none⟩ = some (.string (d k)) ∧ w'.cell? ⟨db, k * 4 + 1, none⟩ = some (.int .u16 ((L k : Nat) : Int)) ∧ w'.cell? ⟨db, k * 4 + 2, none⟩ = some (.int .u8 (k : Int)) ∧ w'.cell? ⟨db, k * 4 + 3, none⟩ = some (.slice (A k) (us k).length (c k)) ∧ Hid (Bl W w') from ⟨(gg.cell (p := ⟨db, k * 4, none⟩) hbl).trans x0, (gg.cell (p := ⟨db, k * 4 + 1, none⟩) hbl).trans x1, (gg.cell (p := ⟨db, k * 4 + 2, none⟩) hbl).trans x2, (gg.cell (p := ⟨db, k * 4 + 3, none⟩) hbl).trans x3, Lib.hid gg⟩))
      clear hput hW8 hO8 hz8 x0 x1 x2 x3 hbl
      have KF1 := Lib.hid (fun w => KF.out k k hk4 w)
      have KO1 := Lib.hid (fun w hU => KO.out k k hk4 w hU)
      have KC1 := Lib.hid (fun w A2 c2 hI => KC.out k hk4 w A2 c2 hI)
      unfold CutsRes at KO1
      unfold CutRes at KC1
      dsimp only at KC1
      have GZ := Lib.hid (Bl.refl W)
      have hk40 : 0 ≤ (k : Int) := by omega
      go_region_held3 (fun w' => w'.cell? ⟨db, k * 4, none⟩ = some (.string (d k)) ∧ w'.cell? ⟨db, k * 4 + 1, none⟩ = some (.int .u16 ((L k : Nat) : Int)) ∧ w'.cell? ⟨db, k * 4 + 2, none⟩ = some (.int .u8 (k : Int)) ∧ w'.cell? ⟨db, k * 4 + 3, none⟩ = some (.slice (A k) (us k).length (c k)) ∧ Hid (Bl W w')) (first | with_reducible assumption | exact HN.out _ GZ.out.drew | (refine HN.out _ ?_; with_reducible refine Bl.trans ?_ hgr; rename _ ∧ _ ∧ _ ∧ _ ∧ Hid (Bl W _) => hq; exact hq.2.2.2.2.out) | fail) (first | (go_at_call 11; (with_reducible refine (KF1.out _).mono ?_); rintro e wn ⟨rfl, hgr⟩) | (go_at_call 10; (with_reducible refine (KO1.out _ ?_).mono ?_); (rename _ ∧ _ ∧ _ ∧ _ ∧ Hid (Bl W _) => hq; exact HUk.out.go hq.2.2.2.2.out); rintro e wn ⟨v, rfl, hown, hgr⟩; obtain ⟨-, A2, c2, rfl, -, -, hiz⟩ := Iz.of_own hown; have HIz := Lib.hid hiz; clear hiz hown) | (go_at_call 13; (with_reducible refine (KC1.out _ _ _ HIz.out).mono ?_); rename _ ∧ _ ∧ _ ∧ _ ∧ Hid (Bl W _) => hq; have hbs := hq.2.2.2.2.out.size; rintro e wn ⟨v3, rfl, hown3, hgr⟩; have HO3 := Lib.hid (own_base hown3 hbs); clear hown3) | fail)
      rename _ ∧ _ ∧ _ ∧ _ ∧ Hid (Bl W _) => hz
      have HZ := Lib.hid hz.2.2.2.2.out
      clear hz
      obtain ⟨-, A3, c3, rfl, -, -, hrs⟩ := rows_of HO3.out
      have HOw := Lib.hid (own_bl HO8.out HZ.out)
      have HAL1 := HAL.out k (by omega)
      have hpl : (pcsQ Fq cq k).length = (cq k).length + 1 := upto_length _ _
      have hfwk := HFW.out k
      have hz9 : w1.heap.size ≤ wn.heap.size := Nat.le_trans HZ8.out HZ.out.size
      obtain ⟨i0, hi, hz0, hz1, hz2⟩ := info_parts info_pc
      have HRS := Lib.hid hrs
      have HWn := Lib.hid (HW8.out.trans HZ.out)
      have HDn := Lib.hid (HPUT.out.go HZ.out)
      clear HO3 HO8 HZ8 HW8 HPUT HN GZ KF1 KO1 KC1 HIz hrs HZ HUk
      generalize hPL : (pcsQ Fq cq k).length = pl at *
      have HPL := Lib.hid hPL
      clear hPL
      go_wp2_with (at_builtin; refine wpList_appR _ rfl 4 (by decide) _ _ _ rfl w1.heap.size 45 i0 _ 40 Try.underlying35 hi hz0 hz1 hz2 rfl _ (allQ Fq cq k).length (flP (allQ Fq cq k)) rfl HOw.out A3 pl c3 ((pcsQ Fq cq k).map Pc.l) l_four l_ones rfl (by rw [List.length_map]; exact HPL.out.symm) HRS.out (by unfold maxLen; omega) (by omega) hz9 ?_; intro v9 w9 hown9 hgrow9 hv9)
      have HO9 := Lib.hid (show w9.ownsRow w1.heap.size 45 4 v9 (allQ Fq cq (k + 1)).length (flP (allQ Fq cq (k + 1))) from by
        show w9.ownsRow w1.heap.size 45 4 v9 (allQ Fq cq k ++ pcsQ Fq cq k).length (flP (allQ Fq cq k ++ pcsQ Fq cq k))
        rw [List.length_append, HPL.out, flP_app]
        exact hown9)
      have HW9 := Lib.hid (Bl.grownBy HWn.out hgrow9 (fun j e => Nat.le_trans G1.out.size (own_block_ge HOw.out j e)))
      have HD9 := Lib.hid (HDn.out.grown hgrow9 (fun e => by have := own_block_ge HOw.out _ e; omega))
      have HZ9 := Lib.hid (Nat.le_trans hz9 hgrow9.size)
      clear hown9 hgrow9 hv9
      go_roundw
      case rel => exact ⟨k + 1, by omega, by go_num, HO9, Lib.hid ⟨_, HD9.out⟩, HW9, HZ9⟩
      case measure => first | (simp [intOf]; omega) | simp [intOf]
    · obtain rfl : k = 4 := by omega
      have hap : 0 < (allQ Fq cq 4).length := by
        show 0 < (allQ Fq cq 3 ++ pcsQ Fq cq 3).length
        unfold pcsQ
        rw [List.length_append, upto_length]
        omega
      have hal := HAL.out 4 (by omega)
      obtain ⟨-, g, c9, rfl, hbg, hc1, hc2, hpr⟩ := Pr.of_own hap hown.out
      have HMEM := Lib.hid (fun (p : Pc) (h : p ∈ allQ Fq cq 4) => allQ_mem h)
      have HPR := Lib.hid (hpr.go ((Bl.refl _).alloc (.cells #[.bool false, .int .i64 0, .int .i64 0, .string ⟨#[]⟩] 43)))
      have HM := Lib.hid (Bk.new wr [.bool false, .int .i64 0, .int .i64 0, .string ⟨#[]⟩] 43)
      obtain ⟨N', hdx'⟩ := hdx.out
      have HDX' := Lib.hid (hdx'.go ((Bl.refl _).alloc (.cells #[.bool false, .int .i64 0, .int .i64 0, .string ⟨#[]⟩] 43)))
      have HW := Lib.hid (hw.out.alloc (.cells #[.bool false, .int .i64 0, .int .i64 0, .string ⟨#[]⟩] 43))
      have hmg : g ≠ wr.heap.size := Nat.ne_of_lt hpr.1
      have hmd : db ≠ wr.heap.size := Nat.ne_of_lt hdx'.1
      have hmw : w.heap.size ≤ wr.heap.size := hw.out.size
      generalize hAQ : allQ Fq cq 4 = aq at *
      clear hAQ
      obtain ⟨T, hT⟩ : ∃ T, aq.length = T := ⟨_, rfl⟩
      rw [hT] at hap hal hc1
      rw [hT]
      have HT := Lib.hid hT
      clear hT hown hdx hdx' hw hsz hpr HDX
      go_wp2_with fail
      generalize wr.alloc (.cells #[.bool false, .int .i64 0, .int .i64 0, .string ⟨#[]⟩] 43) = W0 at *
      generalize wr.heap.size = mb at *
      go_loopw [10] (fun iv wr => ∃ k : Nat, k ≤ os.length ∧ k ≤ 60 ∧ iv = .int .i64 k ∧ Hid (∃ m, Inv (fun q => Fq q.toNat) (fun q => cq q.toNat) m ∧ Bk wr mb m.l) ∧ Hid (Pr wr g aq) ∧ Hid (Dx wr db d L N' A us c) ∧ Hid (Bl w wr)) (fun iv _ => os.length - (intOf iv).toNat)
      case atStart => exact ⟨0, Nat.zero_le _, Nat.zero_le _, rfl, Lib.hid ⟨zM, .inl rfl, HM.out⟩, HPR, HDX', HW⟩
      case round =>
        obtain ⟨k, hk, hk6, rfl, hbm, hpr, hdx, hw⟩ := hrel
        by_cases hlt : k < os.length
        · by_cases hlt2 : k < 60
          · obtain ⟨b, off, ea, hb, c0⟩ := (HO.out.go hw.out).1 k hlt
            have hu := HO.out.2 k
            generalize os.getD k 0 = o at *
            obtain ⟨j, hj⟩ : ∃ j, o % T = j := ⟨_, rfl⟩
            have hjT : j < T := by rw [← hj]; exact Nat.mod_lt _ hap
            have ej : (o : Int) % (T : Int) = (j : Int) := by rw [← hj, Int.natCast_emod]
            subst ea
            obtain ⟨pp, hpp⟩ : ∃ pp, aq.getD j ⟨false, 0, 0, ⟨#[]⟩⟩ = pp := ⟨_, rfl⟩
            have hmem : pp ∈ aq := by rw [← hpp, List.getD_eq_getElem?_getD, List.getElem?_eq_getElem (by rw [HT.out]; exact hjT)]; exact List.getElem_mem _
            obtain ⟨p0, p1, p2, p3⟩ := hpr.out.piece (k := j) (by rw [HT.out]; exact hjT) hpp
            obtain ⟨q, i, hq4, hiq, hpq⟩ := HMEM.out pp hmem
            clear hpp hmem hj
            obtain ⟨m, hinv, hbk⟩ := hbm.out
            have hmk := hinv.ok HFR.out
            have hms : (m.data.size : Int) ≤ 1518 := by
              cases hon : m.on with
              | true => have := (okM_on hon).1 hmk; omega
              | false => rw [(okM_off hon).1 hmk]; decide
            have hop : okP pp = true := by rw [hpq]; exact pcI_ok (HLO.out q) (HHI.out q) (HFR.out.cuts (q : Int) (by omega)) (by omega) hiq
            have hpz : (pp.data.size : Int) ≤ 1522 := by have := (okP_iff.1 hop).2.2.2; omega
            have hst := mixed_step HFR.out hinv (q := (q : Int)) (by omega) (j := i) hiq
            rw [show pcI ((fun q : Int => Fq q.toNat) (q : Int)) (q : Int) ((fun q : Int => cq q.toNat) (q : Int)) i = pp from hpq.symm] at hst
            have KJ := Lib.hid (fun w => join_any m pp (by omega) (by omega) w)
            unfold jnV at KJ
            rw [jn_yes hmk hop] at KJ
            have hpn : pp.num = (q : Int) := by rw [hpq]; rfl
            have hnk := jnR_ok hmk hop
            obtain ⟨n, fr, hjr⟩ : ∃ n fr, jnR m pp = (n, fr) := ⟨_, _, rfl⟩
            rw [hjr] at KJ hst hnk
            have hns : (n.data.size : Int) ≤ 1518 := by
              cases hon : n.on with
              | true => have := (okM_on hon).1 hnk; omega
              | false => rw [(okM_off hon).1 hnk]; decide
            have KN := Lib.hid (fun w => check_v (m := n) (c := 0) (by unfold cmE; rw [if_pos hnk]) (by omega) w)
            obtain ⟨hin, hfr, hno⟩ := hst
            have HIN := Lib.hid hin
            have HNO := Lib.hid hno
            have HFRM := Lib.hid (show fr = ⟨#[]⟩ ∨ fr = Fq q from hfr)
            clear hfr
            unfold Ms.v Pc.v at KJ
            unfold Ms.v at KN
            have hmb := hbk.1
            have HBM := Lib.hid (show Bk wr mb [.bool m.on, .int .i64 m.num, .int .i64 m.next, .string m.data] from hbk)
            clear hinv hmk hop hnk hjr hin hno hbk hbm hpq
            obtain ⟨mo, mn, mx, md⟩ := m
            obtain ⟨po, pn, pc, pd⟩ := pp
            obtain ⟨no, nn, nx, nd⟩ := n
            dsimp only at p0 p1 p2 p3 KJ KN HBM hpn hms hns hpz HNO
            subst hpn
            have hgl := hpr.out.1
            have etm : (o : Int).tmod (T : Int) = (j : Int) := by rw [Int.tmod_eq_emod_of_nonneg (by omega)]; exact ej
            have ewo : IntKind.i64.wrap (o : Int) = (o : Int) := IntWalk.i64_in _ (by omega)
            have ewj : IntKind.i64.wrap (j : Int) = (j : Int) := IntWalk.i64_in _ (by omega)
            have hT0 : ((T : Int) == 0) = false := beq_eq_false_iff_ne.2 (by omega)
            have hki : (k : Int) < (os.length : Int) := by omega
            have hk60 : (k : Int) < 60 := by omega
            have hjTi : (j : Int) < (T : Int) := by omega
            have hT0' : ¬ (T : Int) = 0 := by omega
            go_upto_region 17 with fail
            clear c0 p0 p1 p2 p3 hki hk60 etm ewo ewj hT0 hT0' hjTi
            have hbp : Bk (wr.alloc (.cells #[.bool po, .int .i64 (q : Int), .int .i64 pc, .string pd] 45)) wr.heap.size [.bool po, .int .i64 (q : Int), .int .i64 pc, .string pd] := Bk.new wr _ _
            have hbm1 := HBM.out.alloc (.cells #[.bool po, .int .i64 (q : Int), .int .i64 pc, .string pd] 45)
            have hg1 : Bl wr (wr.alloc (.cells #[.bool po, .int .i64 (q : Int), .int .i64 pc, .string pd] 45)) := (Bl.refl _).alloc _
            generalize wr.alloc (.cells #[.bool po, .int .i64 (q : Int), .int .i64 pc, .string pd] 45) = W1 at *
            generalize wr.heap.size = pb at *
            have hpl := hbp.1
            have hml := hbm1.1
            have p0 := hbp.at 0 (by show 0 < 4; omega) (v := .bool po) rfl
            have p1 := hbp.at 1 (by show 1 < 4; omega) (v := .int .i64 (q : Int)) rfl
            have p2 := hbp.at 2 (by show 2 < 4; omega) (v := .int .i64 pc) rfl
            have p3 := hbp.at 3 (by show 3 < 4; omega) (v := .string pd) rfl
            have a0 := hbm1.at 0 (by show 0 < 4; omega) (v := .bool mo) rfl
            have a1 := hbm1.at 1 (by show 1 < 4; omega) (v := .int .i64 mn) rfl
            have a2 := hbm1.at 2 (by show 2 < 4; omega) (v := .int .i64 mx) rfl
            have a3 := hbm1.at 3 (by show 3 < 4; omega) (v := .string md) rfl
            have HG1 := Lib.hid hg1
            have HBP := Lib.hid hbp
            clear hg1 hbp hbm1
            go_upto_region 18 with (go_at_call 20; (with_reducible refine (KJ.out _).mono ?_); rintro e wn ⟨rfl, hgr⟩)
            have hbn : Bk (wn.alloc (.cells #[.bool no, .int .i64 nn, .int .i64 nx, .string nd] 43)) wn.heap.size [.bool no, .int .i64 nn, .int .i64 nx, .string nd] := Bk.new wn _ _
            have hg2 : Bl W1 (wn.alloc (.cells #[.bool no, .int .i64 nn, .int .i64 nx, .string nd] 43)) := hgr.alloc _
            generalize wn.alloc (.cells #[.bool no, .int .i64 nn, .int .i64 nx, .string nd] 43) = W2 at *
            generalize wn.heap.size = nb at *
            clear a0 a1 a2 a3 p0 p2 p3 hgr
            have hnl := hbn.1
            have n0 := hbn.at 0 (by show 0 < 4; omega) (v := .bool no) rfl
            have n1 := hbn.at 1 (by show 1 < 4; omega) (v := .int .i64 nn) rfl
            have n2 := hbn.at 2 (by show 2 < 4; omega) (v := .int .i64 nx) rfl
            have n3 := hbn.at 3 (by show 3 < 4; omega) (v := .string nd) rfl
            replace p1 := (hg2.cell (p := ⟨pb, 1, none⟩) hpl).trans p1
            have hpl2 := Nat.lt_of_lt_of_le hpl hg2.size
            have hd2 := hdx.out.go (HG1.out.trans hg2)
            have hdl := hd2.1
            obtain ⟨⟨d0, d1, d2, d3⟩, -⟩ := hd2.2 q hq4
            have hq0 : 0 ≤ (q : Int) := by omega
            have hq4i : (q : Int) < 4 := by omega
            have hqt : (q : Int).toNat = q := Int.toNat_natCast q
            have HN := Lib.hid (fun (w' : World) (gg : Bl W2 w') => (show w'.cell? ⟨nb, 0, none⟩ = some (.bool no) ∧ w'.cell? ⟨nb, 1, none⟩ = some (.int .i64 nn) ∧ w'.cell? ⟨nb, 2, none⟩ = some (.int .i64 nx) ∧ w'.cell? ⟨nb, 3, none⟩ = some (.string nd) ∧ w'.cell? ⟨pb, 1, none⟩ = some (.int .i64 (q : Int)) ∧ w'.cell? ⟨db, q * 4, none⟩ = some (.string (d q)) ∧ w'.cell? ⟨db, q * 4 + 1, none⟩ = some (.int .u16 ((L q : Nat) : Int)) ∧ w'.cell? ⟨db, q * 4 + 2, none⟩ = some (.int .u8 ((N' q : Nat) : Int)) ∧ w'.cell? ⟨db, q * 4 + 3, none⟩ = some (.slice (A q) (us q).length (c q)) from ⟨(gg.cell (p := ⟨nb, 0, none⟩) hnl).trans n0, (gg.cell (p := ⟨nb, 1, none⟩) hnl).trans n1, (gg.cell (p := ⟨nb, 2, none⟩) hnl).trans n2, (gg.cell (p := ⟨nb, 3, none⟩) hnl).trans n3, (gg.cell (p := ⟨pb, 1, none⟩) hpl2).trans p1, (gg.cell (p := ⟨db, q * 4, none⟩) hdl).trans d0, (gg.cell (p := ⟨db, q * 4 + 1, none⟩) hdl).trans d1, (gg.cell (p := ⟨db, q * 4 + 2, none⟩) hdl).trans d2, (gg.cell (p := ⟨db, q * 4 + 3, none⟩) hdl).trans d3⟩))
            have HZ := Lib.hid (show ∀ w', Bl W2 w' → w.heap.size ≤ w'.heap.size ∧ Bk w' mb [.bool mo, .int .i64 mn, .int .i64 mx, .string md] ∧ Pr w' g aq ∧ Dx w' db d L N' A us c ∧ Bl w w' from fun w' gg =>
              have g3 := (HG1.out.trans hg2).trans gg
              ⟨(hw.out.trans g3).size, HBM.out.bl g3, hpr.out.go g3, hdx.out.go g3, hw.out.trans g3⟩)
            have KFq := Lib.hid (fun w => KF.out (N' q) q hq4 w)
            have hmw8 : w.heap.size ≤ mb := hmw
            clear hg2 hd2 hbn HG1 HBP HBM hpr hdx hw hpl
            have hF0 : ¬ (Fq q).toList = [] := fun hh => by
              rw [ByteArray.toList_eq] at hh
              have h1 : (Fq q).size = 0 := by rw [← ByteArray.size_data, ← Array.length_toList, hh]; rfl
              have := HLO.out q
              omega
            have hFe : (Fq q).toList.isEmpty = false := by cases h : (Fq q).toList with | nil => exact absurd h hF0 | cons x l => rfl
            rcases HFRM.out with rfl | rfl
            · cases no with
              | true =>
                obtain rfl := HNO.out rfl
                go_upto_region 20 with ((go_at_call 22; (with_reducible refine (KN.out _).mono ?_); rintro e w3 ⟨rfl, hgr⟩; obtain ⟨n0, n1, n2, n3, p1, d0, d1, d2, d3⟩ := HN.out _ hgr))
                obtain ⟨hmw, hm9, hp9, hx9, hw9⟩ := HZ.out _ hgr
                have b0 := hm9.at 0 (by show 0 < 4; omega) (v := .bool mo) rfl
                have bf0 := hm9.fr 0 (by show 0 < 4; omega)
                have b1 := hm9.at 1 (by show 1 < 4; omega) (v := .int .i64 mn) rfl
                have bf1 := hm9.fr 1 (by show 1 < 4; omega)
                have b2 := hm9.at 2 (by show 2 < 4; omega) (v := .int .i64 mx) rfl
                have bf2 := hm9.fr 2 (by show 2 < 4; omega)
                have b3 := hm9.at 3 (by show 3 < 4; omega) (v := .string md) rfl
                have bf3 := hm9.fr 3 (by show 3 < 4; omega)
                have HM8 := Lib.hid (hm9.fourV (.bool true) (.int .i64 (q : Int)) (.int .i64 nx) (.string nd))
                have HP8 := Lib.hid (((((hp9).far (p := ⟨mb, 0, none⟩) (Ne.symm hmg) (.bool true)).far (p := ⟨mb, 1, none⟩) (Ne.symm hmg) (.int .i64 (q : Int))).far (p := ⟨mb, 2, none⟩) (Ne.symm hmg) (.int .i64 nx)).far (p := ⟨mb, 3, none⟩) (Ne.symm hmg) (.string nd))
                have HX8 := Lib.hid (((((hx9).far (p := ⟨mb, 0, none⟩) (Ne.symm hmd) (.bool true)).far (p := ⟨mb, 1, none⟩) (Ne.symm hmd) (.int .i64 (q : Int))).far (p := ⟨mb, 2, none⟩) (Ne.symm hmd) (.int .i64 nx)).far (p := ⟨mb, 3, none⟩) (Ne.symm hmd) (.string nd))
                have HW8 := Lib.hid (hw9.four hmw8 (.bool true) (.int .i64 (q : Int)) (.int .i64 nx) (.string nd))
                clear hm9 hp9 hx9 hw9 p1 d0 d1 d2 d3
                go_wp2_with fail
                go_roundw
                case rel => exact ⟨k + 1, by omega, by omega, by go_num, Lib.hid ⟨⟨true, (q : Int), nx, nd⟩, HIN.out, HM8.out⟩, HP8, HX8, HW8⟩
                case measure => first | (simp [intOf]; omega) | simp [intOf]
              | false =>
                go_upto_region 20 with ((go_at_call 22; (with_reducible refine (KN.out _).mono ?_); rintro e w3 ⟨rfl, hgr⟩; obtain ⟨n0, n1, n2, n3, p1, d0, d1, d2, d3⟩ := HN.out _ hgr))
                obtain ⟨hmw, hm9, hp9, hx9, hw9⟩ := HZ.out _ hgr
                have b0 := hm9.at 0 (by show 0 < 4; omega) (v := .bool mo) rfl
                have bf0 := hm9.fr 0 (by show 0 < 4; omega)
                have b1 := hm9.at 1 (by show 1 < 4; omega) (v := .int .i64 mn) rfl
                have bf1 := hm9.fr 1 (by show 1 < 4; omega)
                have b2 := hm9.at 2 (by show 2 < 4; omega) (v := .int .i64 mx) rfl
                have bf2 := hm9.fr 2 (by show 2 < 4; omega)
                have b3 := hm9.at 3 (by show 3 < 4; omega) (v := .string md) rfl
                have bf3 := hm9.fr 3 (by show 3 < 4; omega)
                have HM8 := Lib.hid (hm9.fourV (.bool false) (.int .i64 nn) (.int .i64 nx) (.string nd))
                have HP8 := Lib.hid (((((hp9).far (p := ⟨mb, 0, none⟩) (Ne.symm hmg) (.bool false)).far (p := ⟨mb, 1, none⟩) (Ne.symm hmg) (.int .i64 nn)).far (p := ⟨mb, 2, none⟩) (Ne.symm hmg) (.int .i64 nx)).far (p := ⟨mb, 3, none⟩) (Ne.symm hmg) (.string nd))
                have HX8 := Lib.hid (((((hx9).far (p := ⟨mb, 0, none⟩) (Ne.symm hmd) (.bool false)).far (p := ⟨mb, 1, none⟩) (Ne.symm hmd) (.int .i64 nn)).far (p := ⟨mb, 2, none⟩) (Ne.symm hmd) (.int .i64 nx)).far (p := ⟨mb, 3, none⟩) (Ne.symm hmd) (.string nd))
                have HW8 := Lib.hid (hw9.four hmw8 (.bool false) (.int .i64 nn) (.int .i64 nx) (.string nd))
                clear hm9 hp9 hx9 hw9 p1 d0 d1 d2 d3
                go_wp2_with fail
                go_roundw
                case rel => exact ⟨k + 1, by omega, by omega, by go_num, Lib.hid ⟨⟨false, nn, nx, nd⟩, HIN.out, HM8.out⟩, HP8, HX8, HW8⟩
                case measure => first | (simp [intOf]; omega) | simp [intOf]
            · cases no with
              | true =>
                obtain rfl := HNO.out rfl
                go_upto_region 20 with (first | (go_at_call 22; (with_reducible refine (KN.out _).mono ?_); rintro e w3 ⟨rfl, hgr⟩; obtain ⟨n0, n1, n2, n3, p1, d0, d1, d2, d3⟩ := HN.out _ hgr) | (go_at_call 11; (with_reducible refine (KFq.out _).mono ?_); rintro e w4 ⟨rfl, hgs⟩; have hgt := hgr.trans hgs; clear hgr hgs; rename Bl W2 w4 => hgr; obtain ⟨n0, n1, n2, n3, p1, d0, d1, d2, d3⟩ := HN.out _ hgr))
                obtain ⟨hmw, hm9, hp9, hx9, hw9⟩ := HZ.out _ hgr
                have b0 := hm9.at 0 (by show 0 < 4; omega) (v := .bool mo) rfl
                have bf0 := hm9.fr 0 (by show 0 < 4; omega)
                have b1 := hm9.at 1 (by show 1 < 4; omega) (v := .int .i64 mn) rfl
                have bf1 := hm9.fr 1 (by show 1 < 4; omega)
                have b2 := hm9.at 2 (by show 2 < 4; omega) (v := .int .i64 mx) rfl
                have bf2 := hm9.fr 2 (by show 2 < 4; omega)
                have b3 := hm9.at 3 (by show 3 < 4; omega) (v := .string md) rfl
                have bf3 := hm9.fr 3 (by show 3 < 4; omega)
                have HM8 := Lib.hid (hm9.fourV (.bool true) (.int .i64 (q : Int)) (.int .i64 nx) (.string nd))
                have HP8 := Lib.hid (((((hp9).far (p := ⟨mb, 0, none⟩) (Ne.symm hmg) (.bool true)).far (p := ⟨mb, 1, none⟩) (Ne.symm hmg) (.int .i64 (q : Int))).far (p := ⟨mb, 2, none⟩) (Ne.symm hmg) (.int .i64 nx)).far (p := ⟨mb, 3, none⟩) (Ne.symm hmg) (.string nd))
                have HX8 := Lib.hid (((((hx9).far (p := ⟨mb, 0, none⟩) (Ne.symm hmd) (.bool true)).far (p := ⟨mb, 1, none⟩) (Ne.symm hmd) (.int .i64 (q : Int))).far (p := ⟨mb, 2, none⟩) (Ne.symm hmd) (.int .i64 nx)).far (p := ⟨mb, 3, none⟩) (Ne.symm hmd) (.string nd))
                have HW8 := Lib.hid (hw9.four hmw8 (.bool true) (.int .i64 (q : Int)) (.int .i64 nx) (.string nd))
                clear hm9 hp9 hx9 hw9 p1 d0 d1 d2 d3
                go_wp2_with fail
                go_roundw
                case rel => exact ⟨k + 1, by omega, by omega, by go_num, Lib.hid ⟨⟨true, (q : Int), nx, nd⟩, HIN.out, HM8.out⟩, HP8, HX8, HW8⟩
                case measure => first | (simp [intOf]; omega) | simp [intOf]
              | false =>
                go_upto_region 20 with (first | (go_at_call 22; (with_reducible refine (KN.out _).mono ?_); rintro e w3 ⟨rfl, hgr⟩; obtain ⟨n0, n1, n2, n3, p1, d0, d1, d2, d3⟩ := HN.out _ hgr) | (go_at_call 11; (with_reducible refine (KFq.out _).mono ?_); rintro e w4 ⟨rfl, hgs⟩; have hgt := hgr.trans hgs; clear hgr hgs; rename Bl W2 w4 => hgr; obtain ⟨n0, n1, n2, n3, p1, d0, d1, d2, d3⟩ := HN.out _ hgr))
                obtain ⟨hmw, hm9, hp9, hx9, hw9⟩ := HZ.out _ hgr
                have b0 := hm9.at 0 (by show 0 < 4; omega) (v := .bool mo) rfl
                have bf0 := hm9.fr 0 (by show 0 < 4; omega)
                have b1 := hm9.at 1 (by show 1 < 4; omega) (v := .int .i64 mn) rfl
                have bf1 := hm9.fr 1 (by show 1 < 4; omega)
                have b2 := hm9.at 2 (by show 2 < 4; omega) (v := .int .i64 mx) rfl
                have bf2 := hm9.fr 2 (by show 2 < 4; omega)
                have b3 := hm9.at 3 (by show 3 < 4; omega) (v := .string md) rfl
                have bf3 := hm9.fr 3 (by show 3 < 4; omega)
                have HM8 := Lib.hid (hm9.fourV (.bool false) (.int .i64 nn) (.int .i64 nx) (.string nd))
                have HP8 := Lib.hid (((((hp9).far (p := ⟨mb, 0, none⟩) (Ne.symm hmg) (.bool false)).far (p := ⟨mb, 1, none⟩) (Ne.symm hmg) (.int .i64 nn)).far (p := ⟨mb, 2, none⟩) (Ne.symm hmg) (.int .i64 nx)).far (p := ⟨mb, 3, none⟩) (Ne.symm hmg) (.string nd))
                have HX8 := Lib.hid (((((hx9).far (p := ⟨mb, 0, none⟩) (Ne.symm hmd) (.bool false)).far (p := ⟨mb, 1, none⟩) (Ne.symm hmd) (.int .i64 nn)).far (p := ⟨mb, 2, none⟩) (Ne.symm hmd) (.int .i64 nx)).far (p := ⟨mb, 3, none⟩) (Ne.symm hmd) (.string nd))
                have HW8 := Lib.hid (hw9.four hmw8 (.bool false) (.int .i64 nn) (.int .i64 nx) (.string nd))
                clear hm9 hp9 hx9 hw9 p1 d0 d1 d2 d3
                go_wp2_with fail
                go_roundw
                case rel => exact ⟨k + 1, by omega, by omega, by go_num, Lib.hid ⟨⟨false, nn, nx, nd⟩, HIN.out, HM8.out⟩, HP8, HX8, HW8⟩
                case measure => first | (simp [intOf]; omega) | simp [intOf]
          · obtain rfl : k = 60 := by omega
            go_wp2_with fail
            go_ret
            exact ⟨rfl, hw.out⟩
        · have hnl : ¬ (k : Int) < (os.length : Int) := by omega
          go_wp2_with fail
          go_ret
          exact ⟨rfl, hw.out⟩

end Go.Proofs.Ytnapelocjcoofaa
