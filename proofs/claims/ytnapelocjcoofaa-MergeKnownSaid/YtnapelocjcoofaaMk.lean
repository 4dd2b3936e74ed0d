/-
  MergeKnown: the examples, the limits, invalid pieces and states, and the order of the errors.
-/
import Derived.Test.YtnapelocjcoofaaMka
import Derived.Deep.CutBlock
import Derived.Deep.AppendLies
import Derived.Laws.Closers25b
namespace Go.Proofs.Ytnapelocjcoofaa
open Go.RowKit Go.Proofs.Ytnapelocjcoofaa.Cr

set_option maxRecDepth 100000 in
set_option maxHeartbeats 8000000 in
theorem known_law (w : World) : Calls Try.prog 9 #[] w fun e w' => e = .returned (.bool true) ∧ Bl w w' := by
  have KW := Lib.hid (fun w => mworks_any w)
  have KC := Lib.hid (fun w => chapter_any w)
  have hcs : (chp.size : Int) = 134 := by rw [chp_size]; rfl
  have hc64 : ¬ (chp.size : Int) < 64 := by omega
  have hc64' : (64 : Int) ≤ (chp.size : Int) := by omega
  have hc63 : (63 : Int) ≤ (chp.size : Int) := by omega
  have hc59 : (59 : Int) ≤ (chp.size : Int) := by omega
  go_enter Try.func9, Try.ntmps9
  go_upto_region 6 with (go_at_call 31; (with_reducible refine (KC.out _).mono ?_); rintro e wn ⟨rfl, hgr⟩)
  have hpb := Bk.new wn [.bool true, .int .i64 0, .int .i64 0, .string kD] 45
  rw [show chp.extract 0 64 = kD from rfl]
  have HPB := Lib.hid hpb
  have G1 := Lib.hid (hgr.alloc (.cells #[.bool true, .int .i64 0, .int .i64 0, .string kD] 45))
  clear hpb hgr KC hc64
  generalize wn.alloc (.cells #[.bool true, .int .i64 0, .int .i64 0, .string kD] 45) = W1 at *
  generalize wn.heap.size = pb at *
  have KR := Lib.hid (fun w => repeat_any 120 1523 (by decide) w)
  have KR := Lib.hid (fun w => show Calls Try.prog 32 #[.string ⟨#[120]⟩, .int .i64 1523] w (fun e w' => e = .returned (.string (cop 120 1523)) ∧ Bl w w') from KR.out w)
  go_cut [49, 50] (fun s49 s50 wx => Hid (s49 = .agg #[.bool false, .int .i64 0, .int .i64 0, .string ⟨#[]⟩, .bool true, .int .i64 0, .int .i64 0, .string (chp.extract 0 63), .bool true, .int .i64 0, .int .i64 0, .string (cop 120 1523), .bool false, .int .i64 4, .int .i64 0, .string kD, .bool false, .int .i64 (-1), .int .i64 0, .string kD, .bool false, .int .i64 0, .int .i64 4, .string kD, .bool false, .int .i64 0, .int .i64 (-1), .string kD, .bool true, .int .i64 0, .int .i64 1, .string kD] ∧ s50 = .int .i64 0 ∧ Bl W1 wx))
  case first =>
    go_region_with (go_at_call 32; (with_reducible refine (KR.out _).mono ?_); rintro e wn ⟨rfl, hgr⟩)
    all_goals (go_wp2_with fail; go_meet)
    all_goals exact Lib.hid ⟨rfl, rfl, (Bl.refl _).drew.trans hgr⟩
  obtain ⟨rfl, rfl, hgx⟩ := hcut.out
  rename World => W2
  have G2 := Lib.hid (G1.out.trans hgx)
  have HPB2 := Lib.hid (HPB.out.bl hgx)
  clear hcut hgx KR HPB G1
  go_wp2_with fail
  go_loopw [50] (fun iv wr => ∃ k : Nat, k ≤ 8 ∧ iv = .int .i64 k ∧ Hid (Bl W2 wr)) (fun iv _ => 8 - (intOf iv).toNat)
  case atStart => exact ⟨0, by omega, rfl, Lib.hid (Bl.refl _)⟩
  case round =>
    obtain ⟨k, hk, rfl, hw⟩ := hrel
    rename World => wr
    by_cases hlt : k < 8
    · obtain ⟨⟨po, pn, pc, pd⟩, hno, hsz, hrun⟩ := eight_pieces k hlt
      have hki : (k : Int) < 8 := by omega
      dsimp only at hsz hrun
      have KJ := Lib.hid (fun w => join_any zM ⟨po, pn, pc, pd⟩ (by decide) hsz w)
      rw [jnV_of (jn_noP okM_zero hno)] at KJ
      have KI := Lib.hid (fun w => join_any ⟨false, 0, 1, ⟨#[]⟩⟩ ⟨po, pn, pc, pd⟩ (by decide) hsz w)
      rw [jnV_of (jn_noM (by decide))] at KI
      have KP := Lib.hid (fun w => checkPiece_any ⟨po, pn, pc, pd⟩ (Int.le_trans hsz (by decide)) w)
      rw [show cpE ⟨po, pn, pc, pd⟩ = 181 by unfold cpE; rw [if_neg (by rw [hno]; decide)]] at KP
      unfold Ms.v Pc.v zM at KJ KI
      unfold Pc.v at KP
      dsimp only at KJ KI KP
      go_upto_region 9 with fail
      clear hrun hno hsz
      have hxb := Bk.new wr [.bool po, .int .i64 pn, .int .i64 pc, .string pd] 45
      have GA := Lib.hid (hw.out.alloc (.cells #[.bool po, .int .i64 pn, .int .i64 pc, .string pd] 45))
      generalize wr.alloc (.cells #[.bool po, .int .i64 pn, .int .i64 pc, .string pd] 45) = WA at *
      generalize wr.heap.size = xb at *
      have p0 := hxb.at 0 (by show 0 < 4; omega) (v := .bool po) rfl
      have p1 := hxb.at 1 (by show 1 < 4; omega) (v := .int .i64 pn) rfl
      have p2 := hxb.at 2 (by show 2 < 4; omega) (v := .int .i64 pc) rfl
      have p3 := hxb.at 3 (by show 3 < 4; omega) (v := .string pd) rfl
      have HXB := Lib.hid hxb
      clear hxb hw
      go_upto_region 10 with (go_at_call 20; (with_reducible refine (KJ.out _).mono ?_); rintro e wn ⟨rfl, hgr⟩)
      clear p0 p1 p2 p3
      have hxb := (HXB.out.bl hgr).alloc (.cells #[.bool false, .int .i64 0, .int .i64 0, .string ⟨#[]⟩] 43)
      have GB := Lib.hid ((GA.out.trans hgr).alloc (.cells #[.bool false, .int .i64 0, .int .i64 0, .string ⟨#[]⟩] 43))
      clear HXB GA hgr KJ
      generalize wn.alloc (.cells #[.bool false, .int .i64 0, .int .i64 0, .string ⟨#[]⟩] 43) = WB at *
      generalize wn.heap.size = nb at *
      have p0 := hxb.at 0 (by show 0 < 4; omega) (v := .bool po) rfl
      have p1 := hxb.at 1 (by show 1 < 4; omega) (v := .int .i64 pn) rfl
      have p2 := hxb.at 2 (by show 2 < 4; omega) (v := .int .i64 pc) rfl
      have p3 := hxb.at 3 (by show 3 < 4; omega) (v := .string pd) rfl
      have HXB := Lib.hid hxb
      clear hxb
      go_upto_region 11 with (go_at_call 20; (with_reducible refine (KI.out _).mono ?_); rintro e wn ⟨rfl, hgr⟩)
      clear p0 p1 p2 p3
      have hxb := (HXB.out.bl hgr).alloc (.cells #[.bool false, .int .i64 0, .int .i64 0, .string ⟨#[]⟩] 43)
      have GC := Lib.hid ((GB.out.trans hgr).alloc (.cells #[.bool false, .int .i64 0, .int .i64 0, .string ⟨#[]⟩] 43))
      clear HXB GB hgr KI
      generalize wn.alloc (.cells #[.bool false, .int .i64 0, .int .i64 0, .string ⟨#[]⟩] 43) = WC at *
      generalize wn.heap.size = nc at *
      have p0 := hxb.at 0 (by show 0 < 4; omega) (v := .bool po) rfl
      have p1 := hxb.at 1 (by show 1 < 4; omega) (v := .int .i64 pn) rfl
      have p2 := hxb.at 2 (by show 2 < 4; omega) (v := .int .i64 pc) rfl
      have p3 := hxb.at 3 (by show 3 < 4; omega) (v := .string pd) rfl
      clear hxb
      go_wp2_with (go_at_call 24; (with_reducible refine (KP.out _).mono ?_); rintro e wn ⟨rfl, hgr⟩)
      go_roundw
      case rel => exact ⟨k + 1, by omega, by go_num, Lib.hid (GC.out.trans hgr)⟩
      case measure => first | (simp [intOf]; omega) | simp [intOf]
    · obtain rfl : k = 8 := by omega
      have G3 := Lib.hid (G2.out.trans hw.out)
      have HPB3 := Lib.hid (HPB2.out.bl hw.out)
      clear G2 HPB2 hw
      have KR := Lib.hid (fun w => show Calls Try.prog 32 #[.string ⟨#[120]⟩, .int .i64 1519] w (fun e w' => e = .returned (.string (cop 120 1519)) ∧ Bl w w') from repeat_any 120 1519 (by decide) w)
      go_upto_region 14 with fail
      go_cut [92, 93] (fun s92 s93 wx => Hid (s92 = .agg #[.bool false, .int .i64 1, .int .i64 0, .string ⟨#[]⟩, .bool false, .int .i64 0, .int .i64 1, .string ⟨#[]⟩, .bool false, .int .i64 0, .int .i64 0, .string ⟨#[120]⟩, .bool true, .int .i64 0, .int .i64 0, .string ⟨#[]⟩, .bool true, .int .i64 0, .int .i64 0, .string (chp.extract 0 59), .bool true, .int .i64 0, .int .i64 0, .string (cop 120 1519), .bool true, .int .i64 4, .int .i64 0, .string kD, .bool true, .int .i64 0, .int .i64 (-1), .string kD] ∧ s93 = .int .i64 0 ∧ Bl wr wx))
      case first =>
        go_region_with (go_at_call 32; (with_reducible refine (KR.out _).mono ?_); rintro e wn ⟨rfl, hgr⟩)
        all_goals (go_wp2_with fail; go_meet)
        all_goals exact Lib.hid ⟨rfl, rfl, (Bl.refl _).drew.trans hgr⟩
      obtain ⟨rfl, rfl, hgx⟩ := hcut.out
      rename World => W4
      have G4 := Lib.hid (G3.out.trans hgx)
      have HPB4 := Lib.hid (HPB3.out.bl hgx)
      clear hcut hgx KR G3 HPB3
      go_wp2_with fail
      go_loopw [93] (fun iv wr => ∃ k : Nat, k ≤ 8 ∧ iv = .int .i64 k ∧ Hid (Bl W4 wr)) (fun iv _ => 8 - (intOf iv).toNat)
      case atStart => exact ⟨0, by omega, rfl, Lib.hid (Bl.refl _)⟩
      case round =>
        obtain ⟨k, hk, rfl, hw⟩ := hrel
        rename World => wr
        by_cases hlt : k < 8
        · obtain ⟨⟨mo, mn, mx, md⟩, hno, hsz, hrun⟩ := eight_states k hlt
          have hki : (k : Int) < 8 := by omega
          dsimp only at hsz hrun
          have KJ := Lib.hid (fun w => join_any ⟨mo, mn, mx, md⟩ kPiece hsz (by show (kD.size : Int) ≤ 4000; rw [kD_size]; decide) w)
          rw [jnV_of (jn_noM hno)] at KJ
          have KP := Lib.hid (fun w => check_any ⟨mo, mn, mx, md⟩ (Int.le_trans hsz (by decide)) w)
          rw [show cmE ⟨mo, mn, mx, md⟩ = 182 by unfold cmE; rw [if_neg (by rw [hno]; decide)]] at KP
          unfold Ms.v Pc.v zM kPiece at KJ
          unfold Ms.v at KP
          dsimp only at KJ KP
          go_upto_region 17 with fail
          clear hrun hno hsz
          have hxb := Bk.new wr [.bool mo, .int .i64 mn, .int .i64 mx, .string md] 43
          have hpq := (HPB4.out.bl hw.out).alloc (.cells #[.bool mo, .int .i64 mn, .int .i64 mx, .string md] 43)
          have GA := Lib.hid (hw.out.alloc (.cells #[.bool mo, .int .i64 mn, .int .i64 mx, .string md] 43))
          generalize wr.alloc (.cells #[.bool mo, .int .i64 mn, .int .i64 mx, .string md] 43) = WA at *
          generalize wr.heap.size = xb at *
          have m0 := hxb.at 0 (by show 0 < 4; omega) (v := .bool mo) rfl
          have m1 := hxb.at 1 (by show 1 < 4; omega) (v := .int .i64 mn) rfl
          have m2 := hxb.at 2 (by show 2 < 4; omega) (v := .int .i64 mx) rfl
          have m3 := hxb.at 3 (by show 3 < 4; omega) (v := .string md) rfl
          have p0 := hpq.at 0 (by show 0 < 4; omega) (v := .bool true) rfl
          have p1 := hpq.at 1 (by show 1 < 4; omega) (v := .int .i64 0) rfl
          have p2 := hpq.at 2 (by show 2 < 4; omega) (v := .int .i64 0) rfl
          have p3 := hpq.at 3 (by show 3 < 4; omega) (v := .string kD) rfl
          have HXB := Lib.hid hxb
          clear hxb hpq hw
          go_upto_region 18 with (go_at_call 20; (with_reducible refine (KJ.out _).mono ?_); rintro e wn ⟨rfl, hgr⟩)
          clear p0 p1 p2 p3 m0 m1 m2 m3
          have hxb := (HXB.out.bl hgr).alloc (.cells #[.bool false, .int .i64 0, .int .i64 0, .string ⟨#[]⟩] 43)
          have hnb := Bk.new wn [.bool false, .int .i64 0, .int .i64 0, .string ⟨#[]⟩] 43
          have GB := Lib.hid ((GA.out.trans hgr).alloc (.cells #[.bool false, .int .i64 0, .int .i64 0, .string ⟨#[]⟩] 43))
          clear HXB GA hgr KJ
          generalize wn.alloc (.cells #[.bool false, .int .i64 0, .int .i64 0, .string ⟨#[]⟩] 43) = WB at *
          generalize wn.heap.size = nb at *
          have m0 := hxb.at 0 (by show 0 < 4; omega) (v := .bool mo) rfl
          have m1 := hxb.at 1 (by show 1 < 4; omega) (v := .int .i64 mn) rfl
          have m2 := hxb.at 2 (by show 2 < 4; omega) (v := .int .i64 mx) rfl
          have m3 := hxb.at 3 (by show 3 < 4; omega) (v := .string md) rfl
          have HNB := Lib.hid hnb
          clear hxb hnb
          go_wp2_with (go_at_call 22; (with_reducible refine (KP.out _).mono ?_); rintro e wn ⟨rfl, hgr⟩; have z0 := (HNB.out.bl hgr).at 0 (by show 0 < 4; omega) (v := .bool false) rfl; have z1 := (HNB.out.bl hgr).at 1 (by show 1 < 4; omega) (v := .int .i64 0) rfl; have z2 := (HNB.out.bl hgr).at 2 (by show 2 < 4; omega) (v := .int .i64 0) rfl; have z3 := (HNB.out.bl hgr).at 3 (by show 3 < 4; omega) (v := .string ⟨#[]⟩) rfl)
          go_roundw
          case rel => first | exact ⟨k + 1, by omega, by go_num, Lib.hid (GB.out.trans hgr)⟩ | ((repeat apply Exists.intro); exact ⟨⟨k + 1, by omega, by go_num, Lib.hid (GB.out.trans hgr)⟩, rfl⟩)
          case measure => first | (simp [intOf]; omega) | simp [intOf]
        · obtain rfl : k = 8 := by omega
          have G5 := Lib.hid (G4.out.trans hw.out)
          have HPB5 := Lib.hid (HPB4.out.bl hw.out)
          clear G4 HPB4 hw
          have KR := Lib.hid (fun w => show Calls Try.prog 32 #[.string ⟨#[122]⟩, .int .i64 1518] w (fun e w' => e = .returned (.string (cop 122 1518)) ∧ Bl w w') from repeat_any 122 1518 (by decide) w)
          have KS := Lib.hid (fun w => show Calls Try.prog 26 #[.string (cop 122 1518)] w (fun e w' => e = .returned (.string kLong) ∧ Bl w w') from seal_any (cop 122 1518) (by rw [cop_size]; decide) w)
          have hls : (kLong.size : Int) = 1522 := by rw [kLong_size]; rfl
          go_upto_region 22 with (first | (go_at_call 32; (with_reducible refine (KR.out _).mono ?_); rintro e wa ⟨rfl, hga⟩) | (go_at_call 26; (with_reducible refine (KS.out _).mono ?_); rintro e wb ⟨rfl, hgb⟩))
          have G6 := Lib.hid ((G5.out.trans hga).trans hgb)
          have HPB6 := Lib.hid ((HPB5.out.bl hga).bl hgb)
          clear G5 HPB5 hga hgb KR KS
          obtain ⟨i0, hi, hz0, hz1, hz2⟩ := info_parts info_int
          have HI := Lib.hid hi
          have HZ0 := Lib.hid hz0
          have HZ1 := Lib.hid hz1
          have HZ2 := Lib.hid hz2
          clear hi hz0 hz1 hz2
          go_wp2_with fail
          go_loopw [18, 19] (fun v iv wr => ∃ k : Nat, k ≤ 24 ∧ iv = .int .i64 (60 * ((k : Int) + 1)) ∧ Hid (wr.ownsRow wb.heap.size 3 1 v k (ivs (cK k))) ∧ Hid (Bl wb wr)) (fun _ iv _ => 2000 - (intOf iv).toNat)
          case atStart => exact ⟨0, by omega, rfl, World.ownsRow_nil _ _ _ _, Lib.hid (Bl.refl _)⟩
          case round =>
            obtain ⟨k, hk, rfl, hown, hw⟩ := hrel
            rename World => wr
            by_cases hlt : k < 24
            · have hle : 60 * ((k : Int) + 1) ≤ 1458 := by omega
              have ew1 : IntKind.i64.wrap (60 * ((k : Int) + 1) + 60) = 60 * (((k + 1 : Nat) : Int) + 1) := by rw [IntWalk.i64_in _ (by omega)]; omega
              go_wp2_with (at_builtin; refine wpList_append_lies _ rfl _ _ _ rfl wb.heap.size 3 i0 _ 1 8 Try.underlying26 HI.out HZ0.out HZ1.out HZ2.out rfl (by omega) _ k (ivs (cK k)) rfl (hown.out.alloc _) ⟨wr.heap.size, 0, none⟩ 1 1 [.int .i64 (60 * ((k : Int) + 1))] rfl rfl (World.news_of_block (cs := #[.int .i64 (60 * ((k : Int) + 1))]) (t := 3) (fr := (0, 0)) (heap_alloc_new wr _)) (by simp [Value.oneCell']) (by omega) (by unfold maxLen; omega) (by omega) (Nat.le_trans hw.out.size (by simp only [World.size_alloc]; omega)) (wr.heap.size + 1) (by simp) ?_; intro gg cap' w9 hown1 hgrow hat hlt3)
              have hw9 : Bl wb w9 := Bl.grownBy (hw.out.alloc _) hgrow (fun j e => own_block_ge hown.out j e)
              have HW9 := Lib.hid hw9
              have HO9 := Lib.hid hown1
              clear hgrow hat hlt3 hw9 hown1
              go_roundw
              case rel => first | exact ⟨k + 1, by omega, by first | rfl | (congr 1; omega), by rw [cK_succ, ivs_snoc]; exact HO9, HW9⟩ | ((repeat apply Exists.intro); exact ⟨⟨k + 1, by omega, by first | rfl | (congr 1; omega), by rw [cK_succ, ivs_snoc]; exact HO9, HW9⟩, rfl⟩)
              case measure => first | (simp [intOf]; omega) | simp [intOf]
            · obtain rfl : k = 24 := by omega
              obtain ⟨-, A, c, rfl, -, -, hI⟩ := Iz.of_own hown.out
              have HIz := Lib.hid hI
              have G7 := Lib.hid (G6.out.trans hw.out)
              have HPB7 := Lib.hid (HPB6.out.bl hw.out)
              clear hown hI HI HZ0 HZ1 HZ2 G6 HPB6 hw
              obtain ⟨P25, hP⟩ : ∃ P25, P25 = upto (pcI kLong 3 (cK 24)) 25 := ⟨_, rfl⟩
              have KX := Lib.hid (fun w hI => show Calls Try.prog 13 #[.string kLong, .int .i64 3, .slice A 24 c] w (fun e w' => ∃ v, e = .returned (.tuple #[v, .int .i64 0]) ∧ w'.ownsRow w.heap.size 45 4 v 25 (flP P25) ∧ Bl w w') from by
                have h := cut_any kLong (by omega) 3 (cK 24) A c w (by rw [cK_len]; decide) cK_64 hI
                rw [cut_long, ← hP] at h
                unfold CutRes at h
                dsimp only at h
                rw [show P25.length = 25 from by rw [hP, upto_length], cK_len] at h
                exact h)
              have h82 : ((P25.getD 24 ⟨false, 0, 0, ⟨#[]⟩⟩).data.size : Int) = 82 := by rw [hP, show (upto (pcI kLong 3 (cK 24)) 25).getD 24 ⟨false, 0, 0, ⟨#[]⟩⟩ = pcI kLong 3 (cK 24) 24 from rfl, last_size]; rfl
              have HQ := Lib.hid (show P25.length = 25 ∧ (P25.getD 1 ⟨false, 0, 0, ⟨#[]⟩⟩).cnt = 0 ∧ (P25.getD 4 ⟨false, 0, 0, ⟨#[]⟩⟩).cnt = 3 ∧ (P25.getD 5 ⟨false, 0, 0, ⟨#[]⟩⟩).cnt = 0 ∧ (P25.getD 24 ⟨false, 0, 0, ⟨#[]⟩⟩).cnt = 3 from by rw [hP]; exact ⟨upto_length _ _, rfl, rfl, rfl, rfl⟩)
              clear hP
              go_upto_region 28 with (go_at_call 13; (with_reducible refine (KX.out _ HIz.out).mono ?_); rintro e wc ⟨v, rfl, hown, hgc⟩)
              obtain ⟨-, g, cz, rfl, -, -, -, hp⟩ := Pr.of_own (by decide) hown
              obtain ⟨q0, q1, q2, q3, q4⟩ := HQ.out
              have x1 : wc.cell? ⟨g, 6, none⟩ = some (.int .i64 0) := by have h := (hp.piece (k := 1) (by rw [q0]; omega) rfl).2.2.1; rw [q1] at h; exact h
              have x4 : wc.cell? ⟨g, 18, none⟩ = some (.int .i64 3) := by have h := (hp.piece (k := 4) (by rw [q0]; omega) rfl).2.2.1; rw [q2] at h; exact h
              have x5 : wc.cell? ⟨g, 22, none⟩ = some (.int .i64 0) := by have h := (hp.piece (k := 5) (by rw [q0]; omega) rfl).2.2.1; rw [q3] at h; exact h
              have x8 : wc.cell? ⟨g, 98, none⟩ = some (.int .i64 3) := by have h := (hp.piece (k := 24) (by rw [q0]; omega) rfl).2.2.1; rw [q4] at h; exact h
              have x9 : wc.cell? ⟨g, 99, none⟩ = some (.string (P25.getD 24 ⟨false, 0, 0, ⟨#[]⟩⟩).data) := (hp.piece (k := 24) (by rw [q0]; omega) rfl).2.2.2
              have hgw := hp.1
              have G8 := Lib.hid (G7.out.trans hgc)
              have HPB8 := Lib.hid (HPB7.out.bl hgc)
              generalize (P25.getD 24 ⟨false, 0, 0, ⟨#[]⟩⟩).data = l24 at *
              clear hown hp q0 q1 q2 q3 q4 HQ HIz KX G7 HPB7 hgc
              have KR := Lib.hid (fun w => show Calls Try.prog 32 #[.string ⟨#[120]⟩, .int .i64 1518] w (fun e w' => e = .returned (.string (cop 120 1518)) ∧ Bl w w') from repeat_any 120 1518 (by decide) w)
              go_upto_region 30 with fail
              clear x1 x4 x5 x8 x9 hgw h82
              go_upto_region 31 with (go_at_call 32; (with_reducible refine (KR.out _).mono ?_); rintro e wd ⟨rfl, hgd⟩)
              have HFB := Lib.hid (Bk.new wd [.bool true, .int .i64 0, .int .i64 2, .string (cop 120 1518)] 43)
              have G9 := Lib.hid ((G8.out.trans hgd).alloc (.cells #[.bool true, .int .i64 0, .int .i64 2, .string (cop 120 1518)] 43))
              have HPB9 := Lib.hid ((HPB8.out.bl hgd).alloc (.cells #[.bool true, .int .i64 0, .int .i64 2, .string (cop 120 1518)] 43))
              clear hgd G8 HPB8 KR
              generalize wd.alloc (.cells #[.bool true, .int .i64 0, .int .i64 2, .string (cop 120 1518)] 43) = WD at *
              generalize wd.heap.size = fb at *
              have KR := Lib.hid (fun w => show Calls Try.prog 32 #[.string ⟨#[113]⟩, .int .i64 60] w (fun e w' => e = .returned (.string (cop 113 60)) ∧ Bl w w') from repeat_any 113 60 (by decide) w)
              have KS := Lib.hid (fun w => show Calls Try.prog 26 #[.string (cop 113 60)] w (fun e w' => e = .returned (.string kSmall) ∧ Bl w w') from seal_any (cop 113 60) (by rw [cop_size]; decide) w)
              go_upto_region 32 with (first | (go_at_call 32; (with_reducible refine (KR.out _).mono ?_); rintro e wa ⟨rfl, hga⟩) | (go_at_call 26; (with_reducible refine (KS.out _).mono ?_); rintro e wf ⟨rfl, hgb⟩))
              have G10 := Lib.hid ((G9.out.trans hga).trans hgb)
              have HFB2 := Lib.hid ((HFB.out.bl hga).bl hgb)
              have HPB10 := Lib.hid ((HPB9.out.bl hga).bl hgb)
              clear hga hgb KR KS G9 HFB HPB9
              have S59 := Lib.hid (fun w => seal_any (chp.extract 0 59) (by rw [ByteArray.size_extract]; omega) w)
              have KR := Lib.hid (fun w => show Calls Try.prog 32 #[.string ⟨#[122]⟩, .int .i64 1519] w (fun e w' => e = .returned (.string (cop 122 1519)) ∧ Bl w w') from repeat_any 122 1519 (by decide) w)
              have KS := Lib.hid (fun w => seal_any (cop 122 1519) (by rw [cop_size]; decide) w)
              have hks : (kSmall.size : Int) ≤ 8000 := by rw [kSmall_size]; decide
              have hk8 : (chp.size : Int) ≤ 8000 := by omega
              have RA := Lib.hid (fun w => refused_yes _ (by rw [sealB_size, ByteArray.size_extract]; omega) 0 [] none 0 5 rk_a w (by decide) (fun k hk => absurd hk (by simp)) Iz.nil)
              have RB := Lib.hid (fun w => refused_yes _ (by rw [sealB_size, cop_size]; decide) 9 [] none 0 5 rk_b w (by decide) (fun k hk => absurd hk (by simp)) Iz.nil)
              have i64one : ∀ x : Int, -9223372036854775808 ≤ x ∧ x ≤ 9223372036854775807 → I64 [x] := fun x hx k hk => by (obtain rfl : k = 0 := by simpa using hk); exact hx
              have RC := Lib.hid (fun w A c (hI : Iz w A [60]) => refused_yes kSmall hks 0 [60] A c 180 rk_c w (by decide) (i64one 60 (by decide)) hI)
              have RD := Lib.hid (fun w A c (hI : Iz w A [-1]) => refused_yes kSmall hks (-1) [-1] A c 2 rk_d w (by decide) (i64one (-1) (by decide)) hI)
              have RE := Lib.hid (fun w A c (hI : Iz w A [-60]) => refused_yes chp hk8 0 [-60] A c 180 rk_e w (by decide) (i64one (-60) (by decide)) hI)
              have RF := Lib.hid (fun w A c (hI : Iz w A [60, 60]) => refused_yes chp hk8 0 [60, 60] A c 180 rk_f w (by decide) (I64.small (by decide)) hI)
              have RG := Lib.hid (fun w A c (hI : Iz w A [4611686018427387904]) => refused_yes chp hk8 0 [4611686018427387904] A c 180 rk_g w (by decide) (i64one 4611686018427387904 (by decide)) hI)
              generalize sealB (chp.extract 0 59) 0 = s59 at *
              generalize sealB (cop 122 1519) 0 = s19 at *
              generalize cop 122 1519 = c19 at *
              clear i64one
              go_wp2_with fail
              refine (S59.out _).mono ?_; rintro e y1 ⟨rfl, gy1⟩
              have Y1 := Lib.hid gy1; clear gy1
              go_wp2_with fail
              refine (RA.out _).mono ?_; rintro e y2 ⟨rfl, gy2⟩
              have Y2 := Lib.hid (Y1.out.trans gy2); clear gy2 Y1
              go_wp2_with fail
              refine (KR.out _).mono ?_; rintro e y3 ⟨rfl, gy3⟩
              have Y3 := Lib.hid (Y2.out.trans gy3); clear gy3 Y2
              go_wp2_with fail
              refine (KS.out _).mono ?_; rintro e y4 ⟨rfl, gy4⟩
              have Y4 := Lib.hid (Y3.out.trans gy4); clear gy4 Y3
              go_wp2_with fail
              refine (RB.out _).mono ?_; rintro e y5 ⟨rfl, gy5⟩
              have Y5 := Lib.hid (Y4.out.trans gy5); clear gy5 Y4
              go_wp2_with fail
              refine (RC.out _ _ _ (Iz.one y5 60 _)).mono ?_; rintro e y6 ⟨rfl, gy6⟩
              have Y6 := Lib.hid (Y5.out.trans (((Bl.refl y5).alloc _).trans gy6)); clear gy6 Y5
              go_wp2_with fail
              refine (RD.out _ _ _ (Iz.one y6 (-1) _)).mono ?_; rintro e y7 ⟨rfl, gy7⟩
              have Y7 := Lib.hid (Y6.out.trans (((Bl.refl y6).alloc _).trans gy7)); clear gy7 Y6
              go_wp2_with fail
              refine (RE.out _ _ _ (Iz.one y7 (-60) _)).mono ?_; rintro e y8 ⟨rfl, gy8⟩
              have Y8 := Lib.hid (Y7.out.trans (((Bl.refl y7).alloc _).trans gy8)); clear gy8 Y7
              go_wp2_with fail
              refine (RF.out _ _ _ (Iz.two y8 60 60 _)).mono ?_; rintro e y9 ⟨rfl, gy9⟩
              have Y9 := Lib.hid (Y8.out.trans (((Bl.refl y8).alloc _).trans gy9)); clear gy9 Y8
              go_wp2_with fail
              refine (RG.out _ _ _ (Iz.one y9 4611686018427387904 _)).mono ?_; rintro e y10 ⟨rfl, gy10⟩
              have G11 := Lib.hid ((G10.out.trans Y9.out).trans (((Bl.refl y9).alloc _).trans gy10))
              have HF := Lib.hid (HFB2.out.bl (Y9.out.trans (((Bl.refl y9).alloc _).trans gy10)))
              have HP := Lib.hid (HPB10.out.bl (Y9.out.trans (((Bl.refl y9).alloc _).trans gy10)))
              clear gy10 Y9 G10 HFB2 HPB10 S59 RA KR KS RB RC RD RE RF RG
              have hD4 : (kD.size : Int) ≤ 4000 := by rw [kD_size]; decide
              have hF4 : (kFull.data.size : Int) ≤ 4000 := by show ((cop 120 1518).size : Int) ≤ 4000; rw [cop_size]; decide
              have hS4 : (kSmall.size : Int) ≤ 4000 := by rw [kSmall_size]; decide
              have JA := Lib.hid (fun w => joins_yes kFull ⟨false, 0, 2, kD⟩ zM ⟨#[]⟩ jn_long hF4 hD4 w)
              have JB := Lib.hid (fun w => joins_yes zM ⟨true, 1, 0, kSmall⟩ zM kSmall jn_small (by decide) hS4 w)
              have JC := Lib.hid (fun w => joins_yes kFull kPiece zM ⟨#[]⟩ jn_piece hF4 hD4 w)
              have JD := Lib.hid (fun w => check_any kFull (Int.le_trans hF4 (by decide)) w)
              have JE := Lib.hid (fun w => checkPiece_any kPiece (Int.le_trans hD4 (by decide)) w)
              rw [show cmE kFull = 0 from by unfold cmE; rw [if_pos kFull_ok]] at JD
              rw [show cpE kPiece = 0 from by unfold cpE; rw [if_pos kPiece_ok]] at JE
              unfold Ms.v Pc.v kFull zM at JA
              unfold Ms.v Pc.v zM at JB
              unfold Ms.v Pc.v kFull kPiece zM at JC
              unfold Ms.v kFull at JD
              unfold Pc.v kPiece at JE
              dsimp only at JA JB JC JD JE
              generalize cop 120 1518 = cF at *
              go_wp2_with fail
              refine (KW.out _).mono ?_; rintro e y11 ⟨rfl, gy11⟩
              have HF12 := Lib.hid (HF.out.bl gy11)
              have HP12 := Lib.hid (HP.out.bl gy11)
              have G12 := Lib.hid (G11.out.trans gy11)
              clear gy11 HF HP G11
              have f0 := HF12.out.at 0 (by show 0 < 4; omega) (v := .bool true) rfl
              have f1 := HF12.out.at 1 (by show 1 < 4; omega) (v := .int .i64 0) rfl
              have f2 := HF12.out.at 2 (by show 2 < 4; omega) (v := .int .i64 2) rfl
              have f3 := HF12.out.at 3 (by show 3 < 4; omega) (v := .string cF) rfl
              go_wp2_with fail
              refine (JA.out _).mono ?_; rintro e y12 ⟨rfl, gy12⟩
              have HF13 := Lib.hid (HF12.out.bl gy12)
              have HP13 := Lib.hid (HP12.out.bl gy12)
              have G13 := Lib.hid (G12.out.trans gy12)
              clear gy12 HF12 HP12 G12
              clear f0 f1 f2 f3
              have f0 := HF13.out.at 0 (by show 0 < 4; omega) (v := .bool true) rfl
              have f1 := HF13.out.at 1 (by show 1 < 4; omega) (v := .int .i64 0) rfl
              have f2 := HF13.out.at 2 (by show 2 < 4; omega) (v := .int .i64 2) rfl
              have f3 := HF13.out.at 3 (by show 3 < 4; omega) (v := .string cF) rfl
              go_wp2_with fail
              refine (JB.out _).mono ?_; rintro e y13 ⟨rfl, gy13⟩
              have HF14 := Lib.hid (HF13.out.bl gy13)
              have HP14 := Lib.hid (HP13.out.bl gy13)
              have G14 := Lib.hid (G13.out.trans gy13)
              clear gy13 HF13 HP13 G13
              clear f0 f1 f2 f3
              have f0 := HF14.out.at 0 (by show 0 < 4; omega) (v := .bool true) rfl
              have f1 := HF14.out.at 1 (by show 1 < 4; omega) (v := .int .i64 0) rfl
              have f2 := HF14.out.at 2 (by show 2 < 4; omega) (v := .int .i64 2) rfl
              have f3 := HF14.out.at 3 (by show 3 < 4; omega) (v := .string cF) rfl
              have p0 := HP14.out.at 0 (by show 0 < 4; omega) (v := .bool true) rfl
              have p1 := HP14.out.at 1 (by show 1 < 4; omega) (v := .int .i64 0) rfl
              have p2 := HP14.out.at 2 (by show 2 < 4; omega) (v := .int .i64 0) rfl
              have p3 := HP14.out.at 3 (by show 3 < 4; omega) (v := .string kD) rfl
              go_wp2_with fail
              refine (JC.out _).mono ?_; rintro e y14 ⟨rfl, gy14⟩
              have HF15 := Lib.hid (HF14.out.bl gy14)
              have HP15 := Lib.hid (HP14.out.bl gy14)
              have G15 := Lib.hid (G14.out.trans gy14)
              clear gy14 HF14 HP14 G14
              clear f0 f1 f2 f3
              clear p0 p1 p2 p3
              have f0 := HF15.out.at 0 (by show 0 < 4; omega) (v := .bool true) rfl
              have f1 := HF15.out.at 1 (by show 1 < 4; omega) (v := .int .i64 0) rfl
              have f2 := HF15.out.at 2 (by show 2 < 4; omega) (v := .int .i64 2) rfl
              have f3 := HF15.out.at 3 (by show 3 < 4; omega) (v := .string cF) rfl
              have p0 := HP15.out.at 0 (by show 0 < 4; omega) (v := .bool true) rfl
              have p1 := HP15.out.at 1 (by show 1 < 4; omega) (v := .int .i64 0) rfl
              have p2 := HP15.out.at 2 (by show 2 < 4; omega) (v := .int .i64 0) rfl
              have p3 := HP15.out.at 3 (by show 3 < 4; omega) (v := .string kD) rfl
              go_wp2_with fail
              refine (JD.out _).mono ?_; rintro e y15 ⟨rfl, gy15⟩
              have HF16 := Lib.hid (HF15.out.bl gy15)
              have HP16 := Lib.hid (HP15.out.bl gy15)
              have G16 := Lib.hid (G15.out.trans gy15)
              clear gy15 HF15 HP15 G15
              clear f0 f1 f2 f3
              clear p0 p1 p2 p3
              have f0 := HF16.out.at 0 (by show 0 < 4; omega) (v := .bool true) rfl
              have f1 := HF16.out.at 1 (by show 1 < 4; omega) (v := .int .i64 0) rfl
              have f2 := HF16.out.at 2 (by show 2 < 4; omega) (v := .int .i64 2) rfl
              have f3 := HF16.out.at 3 (by show 3 < 4; omega) (v := .string cF) rfl
              have p0 := HP16.out.at 0 (by show 0 < 4; omega) (v := .bool true) rfl
              have p1 := HP16.out.at 1 (by show 1 < 4; omega) (v := .int .i64 0) rfl
              have p2 := HP16.out.at 2 (by show 2 < 4; omega) (v := .int .i64 0) rfl
              have p3 := HP16.out.at 3 (by show 3 < 4; omega) (v := .string kD) rfl
              go_wp2_with fail
              refine (JE.out _).mono ?_; rintro e y16 ⟨rfl, gy16⟩
              go_wp2_with fail
              go_ret
              exact ⟨rfl, G16.out.trans gy16⟩

end Go.Proofs.Ytnapelocjcoofaa
