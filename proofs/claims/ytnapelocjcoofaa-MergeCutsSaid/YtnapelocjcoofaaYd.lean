/-
  MergeCuts: Cut returns what the chapter specifies.
-/
import Derived.Test.YtnapelocjcoofaaYc
import Derived.Test.YtnapelocjcoofaaEq
import Derived.Deep.AppendLies
import Derived.Deep.CutBlock
import Derived.Laws.Closers25b
namespace Go.Proofs.Ytnapelocjcoofaa
open Go.RowKit Go.Proofs.Ytnapelocjcoofaa.Cr

set_option maxRecDepth 100000 in
set_option maxHeartbeats 8000000 in
theorem cuts_law (s : ByteArray) (hs : s.size ≤ maxLen) (d : ByteArray) (L N : Nat) (hL : L < 65536) (hN : N < 256) (A : Option Addr) (us : List Nat) (c : Nat) (hd : d.size ≤ maxLen) (hl : (us.length : Int) ≤ 9223372036854775807)
    (num : Int) (hnum : -9223372036854775808 ≤ num ∧ num ≤ 9223372036854775807) (B : Option Addr) (cs : List Int) (cb : Nat) (hcb : cs.length ≤ cb) (hcm : cb ≤ maxLen) (h64 : I64 cs) (y : Int) (hy : -128 ≤ y ∧ y ≤ 127) (w : World) (hU : Uz w A us) (hI : Iz w B cs) :
    Calls Try.prog 3 #[.string s, .agg #[.string d, .int .u16 (L : Int), .int .u8 (N : Int), .slice A us.length c], .int .i64 num, .slice B cs.length cb, .int .i8 y] w fun e w' => e = .returned (.bool true) ∧ Bl w w' := by
  have KW := Lib.hid (fun w => mworks_any w)
  have KF := Lib.hid (fun w => frame_any d L N hL A us.length c hd w)
  have KO := Lib.hid (fun w hU => offsets_any d L N hL A us c hd hl 30 (MO := 30) rfl (by decide) w hU)
  have hof : (ofs (frm d L).size us (min us.length 30)).length ≤ 30 ∧ okC (frm d L).size (ofs (frm d L).size us (min us.length 30)) = true := ⟨dcs_len d L us 30, dcs_ok d L us 30⟩
  have hflo := frm_lo d L
  have hfhi := frm_hi d L
  unfold CutsRes at KO
  unfold drV at KF KO
  generalize frm d L = F at *
  generalize ofs F.size us (min us.length 30) = ow at *
  have HOK := Lib.hid (show ∀ k, k < ow.length → 0 ≤ cu ow k ∧ cu ow k ≤ 2000 from fun k hk => by have := okC_iff.1 hof.2 k hk; omega)
  have HOL := Lib.hid hof.1
  clear hof
  unfold maxLen at hs hcm
  obtain ⟨p, hp1, hp2, hp3⟩ : ∃ p : Nat, (if (200 : Int) < s.size then 200 else (s.size : Int)) = (p : Int) ∧ (p : Int) ≤ s.size ∧ p ≤ 200 := ⟨min s.size 200, by split <;> omega, by omega, by omega⟩
  obtain ⟨m, hm1, hm2, hm3⟩ : ∃ m : Nat, (if (8 : Int) < cs.length then 8 else (cs.length : Int)) = (m : Int) ∧ (m : Int) ≤ cs.length ∧ m ≤ 8 := ⟨min cs.length 8, by split <;> omega, by omega, by omega⟩
  have hp0 : min (s.size : Int) 200 = (p : Int) := by have := hp1; split at this <;> omega
  have hm0 : min (cs.length : Int) 8 = (m : Int) := by have := hm1; split at this <;> omega
  have hmc : (m : Int) ≤ (cb : Int) := by omega
  have hsz : (s.extract 0 p).size = p := by rw [ByteArray.size_extract]; omega
  have hmt : (cs.take m).length = m := by rw [List.length_take]; omega
  have HI := Lib.hid (hI.take m)
  have H6 := Lib.hid (h64.take m)
  have HU := Lib.hid hU
  have hBn : B = none → cs.length = 0 := fun e => Nat.eq_zero_of_not_pos fun h => by
    obtain ⟨b, off, h1, _⟩ := hI 0 h
    rw [e] at h1; cases h1
  clear hI h64 hU hL hd hl
  go_enter Try.func3, Try.ntmps3
  go_upto_region 1 with fail
  have HD := Lib.hid (Bk.new w [.string d, .int .u16 (L : Int), .int .u8 (N : Int), .slice A us.length c] 25)
  have G0 := Lib.hid ((Bl.refl w).alloc (.cells #[.string d, .int .u16 (L : Int), .int .u8 (N : Int), .slice A us.length c] 25))
  have hlt : w.heap.size < (w.alloc (.cells #[.string d, .int .u16 (L : Int), .int .u8 (N : Int), .slice A us.length c] 25)).heap.size := HD.out.1
  generalize w.alloc (.cells #[.string d, .int .u16 (L : Int), .int .u8 (N : Int), .slice A us.length c] 25) = W at *
  generalize hdb : w.heap.size = db at *
  have HDB := Lib.hid hdb
  clear hdb
  go_cut [0, 3] (fun s0 s3 w1 => Hid (s0 = .string (s.extract 0 p) ∧ s3 = .slice B m cb ∧ Bl W w1))
  case first =>
    rcases B with _ | ⟨bb, bo, sp⟩
    · have h0 := hBn rfl
      obtain rfl : m = 0 := by omega
      go_region
      all_goals (go_wp2_with fail; go_meet)
      all_goals exact Lib.hid ⟨by first | rfl | (rw [hp0]; rfl), by first | rfl | (rw [hm0]; rfl), (Bl.refl _).drew⟩
    · go_region
      all_goals (go_wp2_with fail; go_meet)
      all_goals exact Lib.hid ⟨by first | rfl | (rw [hp0]; rfl), by first | rfl | (rw [hm0]; rfl), (Bl.refl _).drew⟩
  obtain ⟨rfl, rfl, hg1⟩ := hcut.out
  rename World => w1
  have HD1 := Lib.hid (HD.out.bl hg1)
  have G1 := Lib.hid (G0.out.trans hg1)
  have HI1 := Lib.hid ((HI.out.go G0.out).go hg1)
  have HU1 := Lib.hid ((HU.out.go G0.out).go hg1)
  clear hcut hg1 HD G0 HI HU hp0 hm0 hp1 hp2 hm1 hm2 hBn hlt hmc hcb hcm
  generalize s.extract 0 p = sx at *
  rw [← hmt]
  have hm8 : (cs.take m).length ≤ 30 := by omega
  generalize cs.take m = ct at *
  clear hmt hm3
  obtain ⟨d0, d1, d2, d3⟩ := (show w1.cell? ⟨db, 0, none⟩ = some (.string d) ∧ w1.cell? ⟨db, 1, none⟩ = some (.int .u16 (L : Int)) ∧ w1.cell? ⟨db, 2, none⟩ = some (.int .u8 (N : Int)) ∧ w1.cell? ⟨db, 3, none⟩ = some (.slice A us.length c) from ⟨HD1.out.at 0 (by show 0 < 4; omega) rfl, HD1.out.at 1 (by show 1 < 4; omega) rfl, HD1.out.at 2 (by show 2 < 4; omega) rfl, HD1.out.at 3 (by show 3 < 4; omega) rfl⟩)
  go_upto_region 3 with (go_at_call 10; (with_reducible refine (KO.out _ HU1.out).mono ?_); rintro e w2 ⟨v, rfl, hown, hg2⟩)
  clear d0 d1 d2 d3
  have HW2 := Lib.hid hown
  obtain ⟨-, A2, c2, rfl, -, -, hi2⟩ := Iz.of_own hown
  have HI2 := Lib.hid hi2
  have hrs := rs_iz hi2
  have G2 := Lib.hid hg2
  clear hown hi2 hg2
  obtain ⟨i0, hi, hz0, hz1, hz2⟩ := info_parts info_int
  have hol := HOL.out
  go_upto_region 4 with (at_builtin; refine wpList_appR _ rfl 1 (by decide) _ _ _ rfl w2.heap.size 3 i0 _ 8 Try.underlying26 hi hz0 hz1 hz2 rfl _ 0 [] rfl (own_zero w2 _ _ (Nat.le_refl _)) A2 ow.length c2 (ow.map fun c => [.int .i64 c]) (fun r hr => by obtain ⟨c, _, rfl⟩ := List.mem_map.1 hr; rfl) (fun r hr u hu => by obtain ⟨c, _, rfl⟩ := List.mem_map.1 hr; obtain rfl := List.mem_singleton.1 hu; rfl) rfl (by rw [List.length_map]) (hrs.bl ((Bl.refl _).alloc _)) (by unfold maxLen; omega) (by omega) ((Bl.refl w2).alloc _).size ?_; intro v9 w3 hown hgrow hv9)
  rw [one_flat] at hown
  have hgr : Bl w2 w3 := Bl.grownBy ((Bl.refl _).alloc _) hgrow (fun j e => own_block_ge (own_zero w2 3 1 (Nat.le_refl _)) j e)
  have HW3 := Lib.hid (show w3.ownsRow w2.heap.size 3 1 v9 ow.length (ivs ow) from by simpa using hown)
  have HI3 := Lib.hid (HI2.out.go hgr)
  have G3 := Lib.hid hgr
  clear hown hgrow hv9 hgr hrs hi hz0 hz1 hz2 HW2
  have hb4 : ∃ c9, ∃ A9 : Option Addr, v9 = .slice A9 ow.length c9 := by
    obtain ⟨-, A9, c9, h, -⟩ := Iz.of_own HW3.out
    exact ⟨c9, A9, h⟩
  obtain ⟨c9, A9, rfl⟩ := hb4
  go_upto_if 41 with fail
  go_cut [12] (fun s12 w4 => Hid (s12 = .slice A9 ow.length c9 ∧ ∃ bs, bs.length = ow.length ∧ Iz w4 A9 bs ∧ I64 bs ∧ Bl w2 w4))
  case first =>
    by_cases h0 : 0 < ow.length
    · obtain ⟨-, g, c10, he, hgb, -, -, hbk⟩ := bk_own h0 HW3.out
      injection he with e1 e2 e3
      subst e1; subst e3
      obtain ⟨u, hu1, hu2⟩ : ∃ u : Nat, IntKind.u64.wrap num = (u : Int) ∧ (u : Int) ≤ 18446744073709551615 := by
        have h1 : IntKind.u64.wrap num = num % 18446744073709551616 := by simp [IntKind.wrap, IntKind.bits, IntKind.signed]
        exact ⟨(IntKind.u64.wrap num).toNat, by omega, by omega⟩
      obtain ⟨j, hj⟩ : ∃ j, u % ow.length = j := ⟨_, rfl⟩
      have hjl : j < ow.length := by rw [← hj]; exact Nat.mod_lt _ h0
      have hjm : (u : Int).tmod (ow.length : Int) = (j : Int) := by rw [Int.tmod_eq_emod_of_nonneg (by omega), ← hj, Int.natCast_emod]
      have hcj := HOK.out j hjl
      have x0 := hbk.at j (by rw [ivs_len]; exact hjl) (ivs_at hjl)
      have x1 := hbk.fr j (by rw [ivs_len]; exact hjl)
      have hset := hbk.set (i := j) (by rw [ivs_len]; exact hjl) (.int .i64 (cu ow j + y)) (ivs_set ow j (cu ow j + y))
      have hgs := (G3.out).setCell (p := ⟨g, j, none⟩) hgb (.int .i64 (cu ow j + y))
      have hi6 := i64_set (I64.small HOK.out) hjl (x := cu ow j + y) (by omega)
      have HBK := Lib.hid hset
      have HGS := Lib.hid hgs
      have HI6 := Lib.hid hi6
      clear hset hgs hi6
      have hgl := hbk.1
      clear hbk hj HOK
      have ew1 : IntKind.u64.wrap (ow.length : Int) = (ow.length : Int) := IntWalk.u64_in _ (by omega)
      have ew2 : IntKind.u64.wrap (j : Int) = (j : Int) := IntWalk.u64_in _ (by omega)
      have ew3 : IntKind.i64.wrap (j : Int) = (j : Int) := IntWalk.i64_in _ (by omega)
      have ew4 : IntKind.i64.wrap y = y := IntWalk.i64_in _ (by omega)
      have ew5 : IntKind.i64.wrap (cu ow j + y) = cu ow j + y := IntWalk.i64_in _ (by omega)
      have hne : ((ow.length : Int) == 0) = false := beq_eq_false_iff_ne.2 (by omega)
      have h0i : (0 : Int) < (ow.length : Int) := by omega
      have hll : (j : Int) < (ow.length : Int) := by omega
      go_wp2_with fail
      go_meet
      exact Lib.hid ⟨rfl, ow.set j (cu ow j + y), by rw [List.length_set], iz_bk HBK.out, HI6.out, HGS.out⟩
    · have hnl : ¬ (0 : Int) < (ow.length : Int) := by omega
      go_wp2_with fail
      go_meet
      exact Lib.hid ⟨rfl, ow, rfl, (Iz.of_own HW3.out).2.elim fun A h => h.elim fun c h => by obtain ⟨he, -, -, hi⟩ := h; injection he with e1; subst e1; exact hi, I64.small HOK.out, G3.out⟩
  obtain ⟨rfl, bs, hbl, hib, h6b, hg4⟩ := hcut.out
  rename World => w4
  have G4 := Lib.hid ((G1.out.trans G2.out).trans hg4)
  have HL1 := Lib.hid (show Ls w4 B ct from ⟨(HI1.out.go G2.out).go hg4, H6.out, hm8⟩)
  have HL2 := Lib.hid (show Ls w4 A2 ow from ⟨HI2.out.go hg4, I64.small HOK.out, hol⟩)
  have HL3 := Lib.hid (show Ls w4 A9 bs from ⟨hib, h6b, by omega⟩)
  have HD4 := Lib.hid ((HD1.out.bl G2.out).bl hg4)
  have HBL := Lib.hid hbl
  clear hcut hbl hib h6b hg4 G1 G2 G3 HI1 HI2 HI3 HW3 H6 hm8 HOK hol HOL HU1 HD1 KO
  obtain ⟨d0, d1, d2, d3⟩ := (show w4.cell? ⟨db, 0, none⟩ = some (.string d) ∧ w4.cell? ⟨db, 1, none⟩ = some (.int .u16 (L : Int)) ∧ w4.cell? ⟨db, 2, none⟩ = some (.int .u8 (N : Int)) ∧ w4.cell? ⟨db, 3, none⟩ = some (.slice A us.length c) from ⟨HD4.out.at 0 (by show 0 < 4; omega) rfl, HD4.out.at 1 (by show 1 < 4; omega) rfl, HD4.out.at 2 (by show 2 < 4; omega) rfl, HD4.out.at 3 (by show 3 < 4; omega) rfl⟩)
  go_upto_region 7 with (go_at_call 11; (with_reducible refine (KF.out _).mono ?_); rintro e w5 ⟨rfl, hg5⟩)
  clear d0 d1 d2 d3 KF
  have KS := Lib.hid (fun w => rseal_any sx (by omega) w)
  go_upto_region 8 with (go_at_call 12; (with_reducible refine (KS.out _).mono ?_); rintro e w6 ⟨rfl, hg6⟩)
  have hz6 : (sealB sx 0).size ≤ 1522 := by rw [sealB_size]; omega
  generalize sealB sx 0 = se at *
  have SV := Lib.hid (three_strings (show sx.size ≤ 1522 by omega) hz6 hfhi)
  have g6 := hg5.trans hg6
  have L1 := Lib.hid (HL1.out.go g6)
  have L2 := Lib.hid (HL2.out.go g6)
  have L3 := Lib.hid (HL3.out.go g6)
  have D6 := Lib.hid (HD4.out.bl g6)
  have G6 := Lib.hid (G4.out.trans g6)
  clear g6 hg5 hg6 HL1 HL2 HL3 HD4 G4 KS hz6 hsz hp3 hs
  obtain ⟨r, hr, hr2⟩ : ∃ r : Int, y.tmod 2 = r ∧ (-1 ≤ r ∧ r ≤ 1) := ⟨_, rfl, by have h1 := Int.tmod_lt_of_pos y (show (0 : Int) < 2 by omega); have h2 := Int.lt_tmod_of_pos y (show (0 : Int) < 2 by omega); omega⟩
  have er1 : IntKind.i8.wrap r = r := IntWalk.i8_in _ (by omega)
  have er2 : IntKind.i64.wrap r = r := IntWalk.i64_in _ (by omega)
  have er3 : IntKind.i64.wrap ((F.size : Int) - 64) = (F.size : Int) - 64 := IntWalk.i64_in _ (by omega)
  have er4 : IntKind.i64.wrap ((F.size : Int) - 64 + r) = (F.size : Int) - 64 + r := IntWalk.i64_in _ (by omega)
  obtain ⟨q, hq, hq4⟩ : ∃ q : Nat, N % 4 = q ∧ q < 4 := ⟨_, rfl, Nat.mod_lt _ (by omega)⟩
  have eq1 : (N : Int).tmod 4 = (q : Int) := by rw [Int.tmod_eq_emod_of_nonneg (by omega)]; omega
  have eq2 : IntKind.u8.wrap (q : Int) = (q : Int) := IntWalk.u8_in _ (by omega)
  have eq3 : IntKind.i64.wrap (q : Int) = (q : Int) := IntWalk.i64_in _ (by omega)
  have TV := Lib.hid (two_ints hnum (show -9223372036854775808 ≤ (q : Int) ∧ (q : Int) ≤ 9223372036854775807 by omega))
  clear hq hN hnum hy
  go_wp2_with fail
  go_loopw [63] (fun iv wr => ∃ k : Nat, k ≤ 3 ∧ iv = .int .i64 k ∧ Hid (Bl w6 wr)) (fun iv _ => 3 - (intOf iv).toNat)
  case atStart => exact ⟨0, by omega, rfl, Lib.hid (Bl.refl _)⟩
  case round =>
    obtain ⟨k, hk, rfl, hw⟩ := hrel
    rename World => wr
    by_cases hlt : k < 3
    · obtain ⟨x, hx, hrun⟩ := SV.out k hlt
      have hki : (k : Int) < 3 := by omega
      go_upto_region 11 with fail
      clear hrun
      have hgw := Lib.hid (hw.out.alloc (.cells #[.int .i64 ((F.size : Int) - 64 + r)] 3))
      have M5 := Lib.hid (show Ls (wr.alloc (.cells #[.int .i64 ((F.size : Int) - 64 + r)] 3)) (some ⟨wr.heap.size, 0, none⟩) [(F.size : Int) - 64 + r] from ⟨iz_one _ _ _, fun k hk => by
        obtain rfl : k = 0 := by simpa using hk
        show -9223372036854775808 ≤ (F.size : Int) - 64 + r ∧ (F.size : Int) - 64 + r ≤ 9223372036854775807
        omega, by show 1 ≤ 30; omega⟩)
      have FV := Lib.hid (five_lists ((L1.out.go hw.out).go ((Bl.refl wr).alloc _)) ((L2.out.go hw.out).go ((Bl.refl wr).alloc _)) ((L3.out.go hw.out).go ((Bl.refl wr).alloc _)) (show Ls (wr.alloc (.cells #[.int .i64 ((F.size : Int) - 64 + r)] 3)) none [] from ⟨Iz.nil, fun k hk => absurd hk (by simp), by simp⟩) M5.out (c1 := cb) (c2 := c2) (c3 := c9) (c4 := 0) (c5 := 1) (n4 := 0) (n5 := 1) rfl rfl HBL.out rfl rfl)
      have D7 := Lib.hid ((D6.out.bl hw.out).alloc (.cells #[.int .i64 ((F.size : Int) - 64 + r)] 3))
      generalize wr.alloc (.cells #[.int .i64 ((F.size : Int) - 64 + r)] 3) = W5 at *
      generalize wr.heap.size = lb at *
      clear M5 hw
      go_wp2_with fail
      go_loopw [78] (fun iv wr => ∃ k : Nat, k ≤ 5 ∧ iv = .int .i64 k ∧ Hid (Bl W5 wr)) (fun iv _ => 5 - (intOf iv).toNat)
      case atStart => exact ⟨0, by omega, rfl, Lib.hid (Bl.refl _)⟩
      case round =>
        obtain ⟨k2, hk2, rfl, hw2⟩ := hrel
        rename World => wr2
        by_cases hlt2 : k2 < 5
        · obtain ⟨Al, ll, cl, hls, hrun⟩ := FV.out k2 hlt2
          have hki2 : (k2 : Int) < 5 := by omega
          have d2 := (D7.out.bl hw2.out).at 2 (by show 2 < 4; omega) (v := .int .u8 (N : Int)) rfl
          go_upto_region 14 with fail
          clear hrun d2
          have LL := Lib.hid (hls.go hw2.out)
          have G7 := Lib.hid hw2.out
          clear hls hw2
          go_wp2_with fail
          go_loopw [87] (fun iv wr => ∃ k : Nat, k ≤ 2 ∧ iv = .int .i64 k ∧ Hid (Bl wr2 wr)) (fun iv _ => 2 - (intOf iv).toNat)
          case atStart => exact ⟨0, by omega, rfl, Lib.hid (Bl.refl _)⟩
          case round =>
            obtain ⟨k3, hk3, rfl, hw3⟩ := hrel
            rename World => wr3
            by_cases hlt3 : k3 < 2
            · obtain ⟨n, hn, hrun⟩ := TV.out k3 hlt3
              have hki3 : (k3 : Int) < 2 := by omega
              go_upto_region 16 with fail
              clear hrun
              obtain ⟨hi3, h63, hl3⟩ := LL.out.go hw3.out
              have HIa := Lib.hid hi3
              have KC := Lib.hid (fun w hI => cut_any x (by omega) n ll Al cl w (by omega) h63 hI)
              have KR := Lib.hid (fun w hI => rcut_any x (by omega) n hn ll Al cl w (by omega) h63 hI)
              unfold CutRes at KC KR
              generalize cutA x n ll = rr at *
              obtain ⟨ps, cc⟩ := rr
              dsimp only at KC KR
              clear hi3 h63
              go_upto_region 17 with (go_at_call 13; (with_reducible refine (KC.out _ HIa.out).mono ?_); rintro e wa ⟨v, rfl, hown, hga⟩)
              obtain ⟨-, Aa, ca, rfl, hca1, hca2, hpa, -⟩ := Pz.of_own hown
              have HPA := Lib.hid hpa
              have HGA := Lib.hid hga
              have HIb := Lib.hid (HIa.out.go hga)
              clear hpa hga hown KC
              go_upto_region 18 with (go_at_call 14; (with_reducible refine (KR.out _ HIb.out).mono ?_); rintro e wb ⟨v, rfl, hown, hgb⟩)
              obtain ⟨-, Ab, cb2, rfl, -, -, hpb, -⟩ := Pz.of_own hown
              have HPA2 := Lib.hid (HPA.out.go hgb)
              have HPB := Lib.hid hpb
              have HGB := Lib.hid ((hw3.out.trans HGA.out).trans hgb)
              have KM := Lib.hid (fun w hA hB => same_any ps (by unfold maxLen at hca2; omega) Aa Ab ca cb2 w hA hB)
              clear hpb hgb hown HIa HIb HGA HPA KR hw3
              go_wp2_with (go_at_call 15; (with_reducible refine (KM.out _ HPA2.out HPB.out).mono ?_); rintro e wc ⟨rfl, hgc⟩)
              go_roundw
              case rel => exact ⟨k3 + 1, by omega, by go_num, Lib.hid (HGB.out.trans hgc)⟩
              case measure => first | (simp [intOf]; omega) | simp [intOf]
            · obtain rfl : k3 = 2 := by omega
              go_wp2_with fail
              go_roundw
              case rel => exact ⟨k2 + 1, by omega, by go_num, Lib.hid (G7.out.trans hw3.out)⟩
              case measure => first | (simp [intOf]; omega) | simp [intOf]
        · obtain rfl : k2 = 5 := by omega
          go_wp2_with fail
          go_roundw
          case rel => exact ⟨k + 1, by omega, by go_num, Lib.hid (hgw.out.trans hw2.out)⟩
          case measure => first | (simp [intOf]; omega) | simp [intOf]
    · have hnl : ¬ (k : Int) < 3 := by omega
      go_wp2_with fail
      refine (KW.out _).mono ?_; rintro e wn ⟨rfl, hgn⟩
      go_wp2_with fail
      go_ret
      exact ⟨rfl, (G6.out.trans hw.out).trans hgn⟩

end Go.Proofs.Ytnapelocjcoofaa
