/-
  MergeSound: from arbitrary pieces, every frame that is returned is sealed, has 64 to 1522 octets and ends with the Data of the last piece.
-/
import Derived.Test.YtnapelocjcoofaaMw
import Derived.Test.YtnapelocjcoofaaEp
import Derived.Test.YtnapelocjcoofaaHx
import Derived.Deep.AppendLies
namespace Go.Proofs.Ytnapelocjcoofaa
open Go.RowKit Go.Proofs.Ytnapelocjcoofaa.Cr

theorem rs_three (w : World) (po : Bool) (pn pc : Int) (a b c : ByteArray) (t : TypeId) : Rs (w.alloc (.cells #[.bool po, .int .i64 pn, .int .i64 pc, .string a, .bool po, .int .i64 pn, .int .i64 pc, .string b, .bool po, .int .i64 pn, .int .i64 pc, .string c] t)) (some ⟨w.heap.size, 0, none⟩) 4 (([⟨po, pn, pc, a⟩, ⟨po, pn, pc, b⟩, ⟨po, pn, pc, c⟩] : List Pc).map Pc.l) := fun j hj => by
  have h := Bk.new w [.bool po, .int .i64 pn, .int .i64 pc, .string a, .bool po, .int .i64 pn, .int .i64 pc, .string b, .bool po, .int .i64 pn, .int .i64 pc, .string c] t
  refine ⟨w.heap.size, 0, rfl, h.1, fun i hi => ?_⟩
  have hj3 : j < 3 := hj
  have e := (h.2 (j * 4 + i) (by show j * 4 + i < 12; omega)).1
  rw [Nat.zero_add]
  rw [e]
  match j, hj3, i, hi with
  | 0, _, 0, _ => rfl | 0, _, 1, _ => rfl | 0, _, 2, _ => rfl | 0, _, 3, _ => rfl
  | 1, _, 0, _ => rfl | 1, _, 1, _ => rfl | 1, _, 2, _ => rfl | 1, _, 3, _ => rfl
  | 2, _, 0, _ => rfl | 2, _, 1, _ => rfl | 2, _, 2, _ => rfl | 2, _, 3, _ => rfl

set_option maxRecDepth 100000 in
set_option maxHeartbeats 8000000 in
theorem sound_law (po : Bool) (pn pc : Int) (pd : ByteArray) (_hpd : pd.size ≤ maxLen) (d : ByteArray) (L N : Nat) (hL : L < 65536) (hN : N < 256) (A : Option Addr) (us : List Nat) (c : Nat) (hd : d.size ≤ maxLen) (hl : (us.length : Int) ≤ 9223372036854775807)
    (B : Option Addr) (os : List Nat) (e : Nat) (ho : (os.length : Int) ≤ 9223372036854775807) (w : World) (hU : Uz w A us) (hO : Uz w B os) :
    Calls Try.prog 7 #[.agg #[.bool po, .int .i64 pn, .int .i64 pc, .string pd], .agg #[.string d, .int .u16 (L : Int), .int .u8 (N : Int), .slice A us.length c], .slice B os.length e] w fun e w' => e = .returned (.bool true) ∧ Bl w w' := by
  have KW := Lib.hid (fun w => mworks_any w)
  have KP := Lib.hid (fun w hU => dpieces_any d L N hL hN A us c hd hl 30 (MO := 30) rfl (by decide) w hU)
  have hAL : (dps d L N us 30).length ≤ 31 := by unfold dps; rw [upto_length]; have := dcs_len d L us 30; omega
  have hOK : ∀ p ∈ dps d L N us 30, (p.data.size : Int) ≤ 4000 := fun p hp => by
    obtain ⟨i, hi, rfl⟩ := upto_mem hp
    have := (okP_iff.1 (pcI_ok (num := (N : Int) % 4) (frm_lo d L) (frm_hi d L) (dcs_ok d L us 30) (by omega) (i := i) (by omega))).2.2.2.2
    omega
  unfold PcRes at KP
  unfold drV at KP
  generalize dps d L N us 30 = ps at *
  have HOK := Lib.hid hOK
  have HAL := Lib.hid hAL
  have HU := Lib.hid hU
  have HO := Lib.hid hO
  clear hOK hAL hU hO hd hl hL hN
  go_enter Try.func7, Try.ntmps7
  go_wp2_with fail
  refine (KW.out _).mono ?_; rintro ee w1 ⟨rfl, g1⟩
  have hbp := ((Bk.new w [.bool po, .int .i64 pn, .int .i64 pc, .string pd] 45).alloc (.cells #[.string d, .int .u16 (L : Int), .int .u8 (N : Int), .slice A us.length c] 25)).bl g1
  have hbd := (Bk.new (w.alloc (.cells #[.bool po, .int .i64 pn, .int .i64 pc, .string pd] 45)) [.string d, .int .u16 (L : Int), .int .u8 (N : Int), .slice A us.length c] 25).bl g1
  rw [World.size_alloc] at hbd
  have G1 := Lib.hid ((((Bl.refl w).alloc (.cells #[.bool po, .int .i64 pn, .int .i64 pc, .string pd] 45)).alloc (.cells #[.string d, .int .u16 (L : Int), .int .u8 (N : Int), .slice A us.length c] 25)).trans g1)
  clear g1
  generalize hpb : w.heap.size = pb at *
  have HPB := Lib.hid hpb
  clear hpb
  have p3 := hbp.at 3 (by show 3 < 4; omega) (v := .string pd) rfl
  have f3 := hbp.fr 3 (by show 3 < 4; omega)
  obtain ⟨z, hz⟩ : ∃ z, min (pd.size : Int) 200 = z := ⟨_, rfl⟩
  have hz0 : 0 ≤ z := by omega
  have hz1 : z ≤ (pd.size : Int) := by omega
  have hz2 : z ≤ 200 := by omega
  go_upto_region 4 with fail
  obtain ⟨q0, hq0⟩ : ∃ q0, pd.extract 0 z.toNat = q0 := ⟨_, rfl⟩
  have hqs : (q0.size : Int) ≤ 200 := by rw [← hq0, ByteArray.size_extract]; omega
  rw [hq0]
  have hb3 := hbp.set (i := 3) (by show 3 < 4; omega) (.string q0) (us := [.bool po, .int .i64 pn, .int .i64 pc, .string q0]) rfl
  have hd3 := hbd.far (p := ⟨pb, 3, none⟩) (show pb ≠ pb + 1 by omega) (.string q0)
  have hg3 := G1.out.setCell (p := ⟨pb, 3, none⟩) (by rw [HPB.out]; exact Nat.le_refl _) (.string q0)
  clear hq0 hz hz0 hz1 hz2 p3 f3 hbp hbd G1 _hpd
  generalize w1.setCell ⟨pb, 3, none⟩ (.string q0) = W3 at *
  have HG3 := Lib.hid hg3
  have hpl := hb3.1
  have hdl := hd3.1
  have x0 := hb3.at 0 (by show 0 < 4; omega) (v := .bool po) rfl
  have x1 := hb3.at 1 (by show 1 < 4; omega) (v := .int .i64 pn) rfl
  have x2 := hb3.at 2 (by show 2 < 4; omega) (v := .int .i64 pc) rfl
  have x3 := hb3.at 3 (by show 3 < 4; omega) (v := .string q0) rfl
  have HB3 := Lib.hid hb3
  have HD3 := Lib.hid hd3
  have HN := Lib.hid (fun (w' : World) (gg : Bl W3 w') => (show w'.cell? ⟨pb, 0, none⟩ = some (.bool po) ∧ w'.cell? ⟨pb, 1, none⟩ = some (.int .i64 pn) ∧ w'.cell? ⟨pb, 2, none⟩ = some (.int .i64 pc) ∧ w'.cell? ⟨pb, 3, none⟩ = some (.string q0) ∧ Hid (Bl W3 w') from ⟨(gg.cell (p := ⟨pb, 0, none⟩) hpl).trans x0, (gg.cell (p := ⟨pb, 1, none⟩) hpl).trans x1, (gg.cell (p := ⟨pb, 2, none⟩) hpl).trans x2, (gg.cell (p := ⟨pb, 3, none⟩) hpl).trans x3, Lib.hid gg⟩))
  have GZ := Lib.hid (Bl.refl W3)
  clear hb3 hd3 hg3
  have HA := Lib.hid (show Bk ((W3.alloc (.cells #[.bool po, .int .i64 pn, .int .i64 pc, .string q0] 45)).alloc (.cells #[.bool po, .int .i64 pn, .int .i64 pc, .string q0] 45)).drew W3.heap.size [.bool po, .int .i64 pn, .int .i64 pc, .string q0] ∧ Bk ((W3.alloc (.cells #[.bool po, .int .i64 pn, .int .i64 pc, .string q0] 45)).alloc (.cells #[.bool po, .int .i64 pn, .int .i64 pc, .string q0] 45)).drew (W3.heap.size + 1) [.bool po, .int .i64 pn, .int .i64 pc, .string q0] ∧ Bl W3 ((W3.alloc (.cells #[.bool po, .int .i64 pn, .int .i64 pc, .string q0] 45)).alloc (.cells #[.bool po, .int .i64 pn, .int .i64 pc, .string q0] 45)).drew from
    ⟨((Bk.new W3 [.bool po, .int .i64 pn, .int .i64 pc, .string q0] _).alloc _).drew, by
      have h := Bk.new (W3.alloc (.cells #[.bool po, .int .i64 pn, .int .i64 pc, .string q0] 45)) [.bool po, .int .i64 pn, .int .i64 pc, .string q0] 45
      rw [World.size_alloc] at h
      exact h.drew, (((Bl.refl W3).alloc _).alloc _).drew⟩)
  go_cut [7, 8] (fun s1 s2 wx => Hid (∃ sb kb : Nat, s1 = .pointer (some ⟨sb, 0, none⟩) ∧ s2 = .pointer (some ⟨kb, 0, none⟩) ∧ Bk wx sb [.bool po, .int .i64 pn, .int .i64 pc, .string q0] ∧ Bk wx kb [.bool po, .int .i64 pn, .int .i64 pc, .string q0] ∧ sb ≠ kb ∧ Bl W3 wx ∧ W3.heap.size ≤ sb ∧ W3.heap.size ≤ kb))
  case first =>
    go_region_held3 (fun w' => w'.cell? ⟨pb, 0, none⟩ = some (.bool po) ∧ w'.cell? ⟨pb, 1, none⟩ = some (.int .i64 pn) ∧ w'.cell? ⟨pb, 2, none⟩ = some (.int .i64 pc) ∧ w'.cell? ⟨pb, 3, none⟩ = some (.string q0) ∧ Hid (Bl W3 w')) (first | with_reducible assumption | (refine HN.out _ ?_; (repeat (first | exact Bl.refl _ | with_reducible refine Bl.drew ?_ | with_reducible refine Bl.alloc ?_ _ | with_reducible refine Bl.setCell ?_ (Nat.le_refl _) _ | with_reducible refine Bl.trans ?_ hgr)); done) | fail) (first | fail)
    all_goals (go_wp2_with fail; go_meet)
    all_goals first | exact Lib.hid ⟨_, _, rfl, rfl, HA.out.1, HA.out.2.1, by omega, HA.out.2.2, Nat.le_refl _, Nat.le_succ _⟩ | exact Lib.hid ⟨_, _, rfl, rfl, HA.out.2.1, HA.out.1, by omega, HA.out.2.2, Nat.le_succ _, Nat.le_refl _⟩
  obtain ⟨sb, kb, rfl, rfl, hsb, hkb, hne, hbl, hs1, hk1⟩ := hcut.out
  rename World => wx
  clear hcut HA
  have KS := Lib.hid (fun w => seal_any q0 (by omega) w)
  have KM := Lib.hid (fun w => mark_any q0 (by omega) w)
  have hss : ((sealB q0 0).size : Int) ≤ 204 := by rw [sealB_size]; omega
  have hms : ((sealB q0 4294901760).size : Int) ≤ 204 := by rw [sealB_size]; omega
  generalize sealB q0 0 = q1 at *
  generalize sealB q0 4294901760 = q2 at *
  obtain ⟨x0, x1, x2, x3, -⟩ := HN.out _ hbl
  have hpl1 : pb < wx.heap.size := Nat.lt_of_lt_of_le hpl hbl.size
  have HX := Lib.hid (fun (w' : World) (gg : Bl wx w') => (show w'.cell? ⟨sb, 3, none⟩ = some (.string q0) ∧ w'.frozen? ⟨sb, 3, none⟩ = false ∧ w'.cell? ⟨kb, 3, none⟩ = some (.string q0) ∧ w'.frozen? ⟨kb, 3, none⟩ = false ∧ Hid (Bl wx w') from
    ⟨(hsb.bl gg).at 3 (by show 3 < 4; omega) rfl, (hsb.bl gg).fr 3 (by show 3 < 4; omega), (hkb.bl gg).at 3 (by show 3 < 4; omega) rfl, (hkb.bl gg).fr 3 (by show 3 < 4; omega), Lib.hid gg⟩))
  have HSB := Lib.hid hsb
  have HKB := Lib.hid hkb
  have HNE := Lib.hid hne
  have HBL := Lib.hid hbl
  have HS1 := Lib.hid hs1
  have HK1 := Lib.hid hk1
  clear hsb hkb hbl hs1 hk1
  have HE := Lib.hid (fun (w5 : World) (gg : Bl wx w5) => (show Bk ((w5.setCell ⟨sb, 3, none⟩ (.string q1)).setCell ⟨kb, 3, none⟩ (.string q2)) pb [.bool po, .int .i64 pn, .int .i64 pc, .string q0] ∧ Bk ((w5.setCell ⟨sb, 3, none⟩ (.string q1)).setCell ⟨kb, 3, none⟩ (.string q2)) (pb + 1) [.string d, .int .u16 (L : Int), .int .u8 (N : Int), .slice A us.length c] ∧ Bk ((w5.setCell ⟨sb, 3, none⟩ (.string q1)).setCell ⟨kb, 3, none⟩ (.string q2)) sb [.bool po, .int .i64 pn, .int .i64 pc, .string q1] ∧ Bk ((w5.setCell ⟨sb, 3, none⟩ (.string q1)).setCell ⟨kb, 3, none⟩ (.string q2)) kb [.bool po, .int .i64 pn, .int .i64 pc, .string q2] ∧ Bl W3 ((w5.setCell ⟨sb, 3, none⟩ (.string q1)).setCell ⟨kb, 3, none⟩ (.string q2)) from
    have hs1 := HS1.out
    have hk1 := HK1.out
    have hne := HNE.out
    have g3 := HBL.out.trans gg
    ⟨((HB3.out.bl g3).far (p := ⟨sb, 3, none⟩) (show sb ≠ pb by omega) _).far (p := ⟨kb, 3, none⟩) (show kb ≠ pb by omega) _,
     ((HD3.out.bl g3).far (p := ⟨sb, 3, none⟩) (show sb ≠ pb + 1 by omega) _).far (p := ⟨kb, 3, none⟩) (show kb ≠ pb + 1 by omega) _,
     ((HSB.out.bl gg).set (i := 3) (by show 3 < 4; omega) _ rfl).far (p := ⟨kb, 3, none⟩) (show kb ≠ sb by omega) _,
     ((HKB.out.bl gg).far (p := ⟨sb, 3, none⟩) (show sb ≠ kb by omega) _).set (i := 3) (by show 3 < 4; omega) _ rfl,
     (g3.setCell (p := ⟨sb, 3, none⟩) hs1 _).setCell (p := ⟨kb, 3, none⟩) hk1 _⟩))
  go_upto_region 5 with fail
  go_cut [7, 8] (fun s1 s2 wy => Hid (s1 = .pointer (some ⟨sb, 0, none⟩) ∧ s2 = .pointer (some ⟨kb, 0, none⟩) ∧ Bk wy pb [.bool po, .int .i64 pn, .int .i64 pc, .string q0] ∧ Bk wy (pb + 1) [.string d, .int .u16 (L : Int), .int .u8 (N : Int), .slice A us.length c] ∧ Bk wy sb [.bool po, .int .i64 pn, .int .i64 pc, .string q1] ∧ Bk wy kb [.bool po, .int .i64 pn, .int .i64 pc, .string q2] ∧ Bl W3 wy))
  case first =>
    go_region_held3 (fun w' => w'.cell? ⟨pb, 0, none⟩ = some (.bool po) ∧ w'.cell? ⟨pb, 1, none⟩ = some (.int .i64 pn) ∧ w'.cell? ⟨pb, 2, none⟩ = some (.int .i64 pc) ∧ w'.cell? ⟨pb, 3, none⟩ = some (.string q0) ∧ Hid (Bl W3 w')) (first | with_reducible assumption | (refine HN.out _ ?_; (repeat (first | exact HBL.out | with_reducible refine Bl.drew ?_ | with_reducible refine Bl.setCell ?_ HS1.out _ | with_reducible refine Bl.setCell ?_ HK1.out _ | with_reducible refine Bl.trans ?_ hgr | with_reducible refine Bl.trans ?_ hgs)); done) | fail) (first | (go_at_call 26; (with_reducible refine (KS.out _).mono ?_); rintro e wn ⟨rfl, hgr⟩; obtain ⟨c1, f1, c2, f2, hbw⟩ := HX.out wn (by (repeat (first | exact Bl.refl _ | with_reducible refine Bl.drew ?_ | with_reducible refine Bl.trans ?_ hgr | with_reducible refine Bl.trans ?_ hgs)))) | (go_at_call 27; (with_reducible refine (KM.out _).mono ?_); rintro e wn ⟨rfl, hgs⟩; obtain ⟨c1, f1, c2, f2, hbw⟩ := HX.out wn (by (repeat (first | exact Bl.refl _ | with_reducible refine Bl.drew ?_ | with_reducible refine Bl.trans ?_ hgr | with_reducible refine Bl.trans ?_ hgs)))) | fail)
    all_goals (go_wp2_with fail; go_meet)
    all_goals exact Lib.hid ⟨rfl, rfl, HE.out _ hbw.out⟩
  obtain ⟨rfl, rfl, hbp, hbd, hsb, hkb, hb3⟩ := hcut.out
  rename World => wy
  have hpw := hbp.1
  have hdw := hbd.1
  have hsw := hsb.1
  have hkw := hkb.1
  have hwy := HG3.out.trans hb3
  clear hcut HE HBL HSB HKB HX x0 x1 x2 x3 HN HB3 HD3 HS1 HK1 KS KM hpl1 hb3 HG3 hpl hdl
  have HWY := Lib.hid hwy
  have hyy : w.heap.size ≤ wy.heap.size := hwy.size
  have HYY := Lib.hid hyy
  have HBP := Lib.hid hbp
  have HBD := Lib.hid hbd
  have HSB := Lib.hid hsb
  have HKB := Lib.hid hkb
  have HN := Lib.hid (fun (w' : World) (gg : Bl wy w') => (show w'.cell? ⟨pb, 0, none⟩ = some (.bool po) ∧ w'.cell? ⟨pb, 1, none⟩ = some (.int .i64 pn) ∧ w'.cell? ⟨pb, 2, none⟩ = some (.int .i64 pc) ∧ w'.cell? ⟨pb, 3, none⟩ = some (.string q0) ∧ w'.cell? ⟨pb + 1, 0, none⟩ = some (.string d) ∧ w'.cell? ⟨pb + 1, 1, none⟩ = some (.int .u16 (L : Int)) ∧ w'.cell? ⟨pb + 1, 2, none⟩ = some (.int .u8 (N : Int)) ∧ w'.cell? ⟨pb + 1, 3, none⟩ = some (.slice A us.length c) ∧ w'.cell? ⟨sb, 0, none⟩ = some (.bool po) ∧ w'.cell? ⟨sb, 1, none⟩ = some (.int .i64 pn) ∧ w'.cell? ⟨sb, 2, none⟩ = some (.int .i64 pc) ∧ w'.cell? ⟨sb, 3, none⟩ = some (.string q1) ∧ w'.cell? ⟨kb, 0, none⟩ = some (.bool po) ∧ w'.cell? ⟨kb, 1, none⟩ = some (.int .i64 pn) ∧ w'.cell? ⟨kb, 2, none⟩ = some (.int .i64 pc) ∧ w'.cell? ⟨kb, 3, none⟩ = some (.string q2) ∧ Hid (Bl wy w') from
    ⟨(HBP.out.bl gg).at 0 (by show 0 < 4; omega) rfl, (HBP.out.bl gg).at 1 (by show 1 < 4; omega) rfl, (HBP.out.bl gg).at 2 (by show 2 < 4; omega) rfl, (HBP.out.bl gg).at 3 (by show 3 < 4; omega) rfl, (HBD.out.bl gg).at 0 (by show 0 < 4; omega) rfl, (HBD.out.bl gg).at 1 (by show 1 < 4; omega) rfl, (HBD.out.bl gg).at 2 (by show 2 < 4; omega) rfl, (HBD.out.bl gg).at 3 (by show 3 < 4; omega) rfl, (HSB.out.bl gg).at 0 (by show 0 < 4; omega) rfl, (HSB.out.bl gg).at 1 (by show 1 < 4; omega) rfl, (HSB.out.bl gg).at 2 (by show 2 < 4; omega) rfl, (HSB.out.bl gg).at 3 (by show 3 < 4; omega) rfl, (HKB.out.bl gg).at 0 (by show 0 < 4; omega) rfl, (HKB.out.bl gg).at 1 (by show 1 < 4; omega) rfl, (HKB.out.bl gg).at 2 (by show 2 < 4; omega) rfl, (HKB.out.bl gg).at 3 (by show 3 < 4; omega) rfl, Lib.hid gg⟩))
  obtain ⟨i0, hi, hz0, hz1, hz2⟩ := info_parts info_pc
  clear hwy hyy hbp hbd hsb hkb
  have HPP := Lib.hid (fun (w' : World) (hw : Bl wy w') => KP.out w' (HU.out.go (HWY.out.trans hw)))
  go_upto_region 6 with fail
  go_cut [9] (fun s1 wz => Hid (∃ (g T cap : Nat), s1 = .slice (some ⟨g, 0, none⟩) T cap ∧ T = ps.length + 3 ∧ w.heap.size ≤ g ∧ Pr wz g (ps ++ [⟨po, pn, pc, q0⟩, ⟨po, pn, pc, q1⟩, ⟨po, pn, pc, q2⟩]) ∧ Bl w wz))
  case first =>
    go_region_held3 (fun w' => w'.cell? ⟨pb, 0, none⟩ = some (.bool po) ∧ w'.cell? ⟨pb, 1, none⟩ = some (.int .i64 pn) ∧ w'.cell? ⟨pb, 2, none⟩ = some (.int .i64 pc) ∧ w'.cell? ⟨pb, 3, none⟩ = some (.string q0) ∧ w'.cell? ⟨pb + 1, 0, none⟩ = some (.string d) ∧ w'.cell? ⟨pb + 1, 1, none⟩ = some (.int .u16 (L : Int)) ∧ w'.cell? ⟨pb + 1, 2, none⟩ = some (.int .u8 (N : Int)) ∧ w'.cell? ⟨pb + 1, 3, none⟩ = some (.slice A us.length c) ∧ w'.cell? ⟨sb, 0, none⟩ = some (.bool po) ∧ w'.cell? ⟨sb, 1, none⟩ = some (.int .i64 pn) ∧ w'.cell? ⟨sb, 2, none⟩ = some (.int .i64 pc) ∧ w'.cell? ⟨sb, 3, none⟩ = some (.string q1) ∧ w'.cell? ⟨kb, 0, none⟩ = some (.bool po) ∧ w'.cell? ⟨kb, 1, none⟩ = some (.int .i64 pn) ∧ w'.cell? ⟨kb, 2, none⟩ = some (.int .i64 pc) ∧ w'.cell? ⟨kb, 3, none⟩ = some (.string q2) ∧ Hid (Bl wy w')) (first | with_reducible assumption | (exact HN.out _ HBy.out) | (refine HN.out _ ?_; (repeat (first | exact Bl.refl _ | with_reducible refine Bl.drew ?_ | with_reducible refine Bl.alloc ?_ _ | with_reducible refine Bl.trans ?_ hgr)); done) | fail) (first | (go_at_call 18; (with_reducible refine (HPP.out _ ?_).mono ?_); ((repeat (first | exact Bl.refl _ | with_reducible refine Bl.drew ?_ | with_reducible refine Bl.alloc ?_ _ | with_reducible refine Bl.trans ?_ hgr))); rintro e wn ⟨v, rfl, hown, hgr⟩; have HOW := Lib.hid (own_base hown (Bl.size (a := wy) (by (repeat (first | exact Bl.refl _ | with_reducible refine Bl.drew ?_ | with_reducible refine Bl.alloc ?_ _ | with_reducible refine Bl.trans ?_ hgr))))); clear hown) | ((refine step_appR _ rfl 4 (by decide) _ _ _ rfl wy.heap.size 45 i0 _ 40 Try.underlying35 hi hz0 hz1 hz2 rfl v ps.length (flP ps) rfl (by first | exact HOW.out | exact own_bl HOW.out ((Bl.refl _).alloc _)) _ 3 3 (([⟨po, pn, pc, q0⟩, ⟨po, pn, pc, q1⟩, ⟨po, pn, pc, q2⟩] : List Pc).map Pc.l) l_four l_ones rfl rfl (by first | exact rs_three _ _ _ _ _ _ _ _ | exact (rs_three _ _ _ _ _ _ _ _).drew | exact (rs_three _ _ _ _ _ _ _ _).bl hgr | exact (rs_three _ _ _ _ _ _ _ _).drew.bl hgr) (by have := HAL.out; unfold maxLen; omega) (by have := HAL.out; omega) (Bl.size (by (repeat (first | exact Bl.refl _ | with_reducible refine Bl.drew ?_ | with_reducible refine Bl.alloc ?_ _ | with_reducible refine Bl.trans ?_ hgr)))) ?_); (intro v9 w9 hown9 hgrow9 hv9; have HBy := Lib.hid (show Bl wy w9 from Bl.grownBy (by (repeat (first | exact Bl.refl _ | with_reducible refine Bl.drew ?_ | with_reducible refine Bl.alloc ?_ _ | with_reducible refine Bl.trans ?_ hgr))) hgrow9 (fun j e => own_block_ge HOW.out j e)); have HO9 := Lib.hid hown9; clear hown9 hgrow9 hv9)) | fail)
    all_goals (have hap : 0 < ps.length + 3 := by omega)
    all_goals (obtain ⟨-, g, c9, rfl, hbg, hc1, hc2, hpr⟩ := Pr.of_own (ps := ps ++ ([⟨po, pn, pc, q0⟩, ⟨po, pn, pc, q1⟩, ⟨po, pn, pc, q2⟩] : List Pc)) hap (by rw [flP_app]; exact HO9.out))
    all_goals (go_wp2_with fail; go_meet)
    all_goals exact Lib.hid ⟨g, _, c9, rfl, rfl, Nat.le_trans HYY.out hbg, hpr, HWY.out.trans HBy.out⟩
  obtain ⟨g, T, cap, rfl, hT, hgw, hpr, hbz⟩ := hcut.out
  rename World => wz
  clear hcut HPP HN HBP HBD HSB HKB HYY HWY KP KW HU hpw hdw hsw hkw hi hz0 hz1 hz2 i0 HNE hne
  have hAQs : ∀ x ∈ ps ++ ([⟨po, pn, pc, q0⟩, ⟨po, pn, pc, q1⟩, ⟨po, pn, pc, q2⟩] : List Pc), (x.data.size : Int) ≤ 4000 := fun x hx => by
    rcases List.mem_append.1 hx with h | h
    · exact HOK.out x h
    · simp only [List.mem_cons, List.not_mem_nil, or_false] at h
      rcases h with rfl | rfl | rfl
      · show (q0.size : Int) ≤ 4000; omega
      · show (q1.size : Int) ≤ 4000; omega
      · show (q2.size : Int) ≤ 4000; omega
  have hAQl : (ps ++ ([⟨po, pn, pc, q0⟩, ⟨po, pn, pc, q1⟩, ⟨po, pn, pc, q2⟩] : List Pc)).length = T := by rw [List.length_append, hT]; rfl
  have hT0 : 0 < T := by omega
  have hTm : T ≤ 34 := by have := HAL.out; omega
  generalize ps ++ ([⟨po, pn, pc, q0⟩, ⟨po, pn, pc, q1⟩, ⟨po, pn, pc, q2⟩] : List Pc) = aq at *
  have HAS := Lib.hid hAQs
  have HT := Lib.hid hAQl
  clear hAQs hAQl HOK HAL hqs hss hms hT
  have HPR := Lib.hid (hpr.go ((Bl.refl _).alloc (.cells #[.bool false, .int .i64 0, .int .i64 0, .string ⟨#[]⟩] 43)))
  have HM := Lib.hid (Bk.new wz [.bool false, .int .i64 0, .int .i64 0, .string ⟨#[]⟩] 43)
  have HW := Lib.hid (hbz.alloc (.cells #[.bool false, .int .i64 0, .int .i64 0, .string ⟨#[]⟩] 43))
  have hmg : g ≠ wz.heap.size := Nat.ne_of_lt hpr.1
  have hmw : w.heap.size ≤ wz.heap.size := hbz.size
  clear hpr hbz hgw
  go_wp2_with fail
  generalize wz.alloc (.cells #[.bool false, .int .i64 0, .int .i64 0, .string ⟨#[]⟩] 43) = W0 at *
  generalize wz.heap.size = mb at *
  go_loopw [11] (fun iv wr => ∃ k : Nat, k ≤ os.length ∧ k ≤ 40 ∧ iv = .int .i64 k ∧ Hid (∃ m, okM m = true ∧ Bk wr mb m.l) ∧ Hid (Pr wr g aq) ∧ Hid (Bl w wr)) (fun iv _ => os.length - (intOf iv).toNat)
  case atStart => exact ⟨0, Nat.zero_le _, Nat.zero_le _, rfl, Lib.hid ⟨zM, okM_zero, HM.out⟩, HPR, HW⟩
  case round =>
    obtain ⟨k, hk, hk6, rfl, hbm, hpr, hw⟩ := hrel
    by_cases hlt : k < os.length
    · by_cases hlt2 : k < 40
      · obtain ⟨b, off, ea, hb, c0⟩ := (HO.out.go hw.out).1 k hlt
        have hu := HO.out.2 k
        generalize os.getD k 0 = o at *
        obtain ⟨j, hj⟩ : ∃ j, o % T = j := ⟨_, rfl⟩
        have hjT : j < T := by rw [← hj]; exact Nat.mod_lt _ hT0
        have ej : (o : Int) % (T : Int) = (j : Int) := by rw [← hj, Int.natCast_emod]
        subst ea
        obtain ⟨pp, hpp⟩ : ∃ pp, aq.getD j ⟨false, 0, 0, ⟨#[]⟩⟩ = pp := ⟨_, rfl⟩
        have hmem : pp ∈ aq := by rw [← hpp, List.getD_eq_getElem?_getD, List.getElem?_eq_getElem (by rw [HT.out]; exact hjT)]; exact List.getElem_mem _
        obtain ⟨p0, p1, p2, p3⟩ := hpr.out.piece (k := j) (by rw [HT.out]; exact hjT) hpp
        have hpz := HAS.out pp hmem
        clear hpp hmem hj
        obtain ⟨m, hmk, hbk⟩ := hbm.out
        have hms : (m.data.size : Int) ≤ 1518 := by
          cases hon : m.on with
          | true => have := (okM_on hon).1 hmk; omega
          | false => rw [(okM_off hon).1 hmk]; decide
        have KJ := Lib.hid (fun w => join_any m pp (by omega) (by omega) w)
        unfold jnV at KJ
        have hcase : (∃ n fr, jnA m pp = ((n, fr), 0) ∧ okM n = true ∧ (fr = ⟨#[]⟩ ∨ (chk fr 0 = true ∧ 64 ≤ fr.size ∧ fr.size ≤ 1522 ∧ Lib.hasSuffix fr.data.toList pp.data.data.toList = true)) ∧ (pp.start = true → jnA zM pp = ((n, fr), 0))) ∨ jnA m pp = ((zM, ⟨#[]⟩), 181) := by
          cases hop : okP pp with
          | false => exact .inr (jn_noP hmk hop)
          | true =>
            refine .inl ⟨(jnR m pp).1, (jnR m pp).2, jn_yes hmk hop, jnR_ok hmk hop, ?_, fun hs => ?_⟩
            · by_cases he : (jnR m pp).2 = ⟨#[]⟩
              · exact .inl he
              · obtain ⟨h1, h2, h3, a, h4⟩ := jnR_frame hop he
                refine .inr ⟨h1, h2, h3, ?_⟩
                rw [h4, ByteArray.data_append, Array.toList_append]
                exact List.isSuffixOf_iff_suffix.2 (List.suffix_append _ _)
            · rw [jn_yes okM_zero hop, ← jnR_start hs]
        have hmb := hbk.1
        have HBM := Lib.hid (show Bk wr mb [.bool m.on, .int .i64 m.num, .int .i64 m.next, .string m.data] from hbk)
        have HMK := Lib.hid hmk
        have hgl := hpr.out.1
        have etm : (o : Int).tmod (T : Int) = (j : Int) := by rw [Int.tmod_eq_emod_of_nonneg (by omega)]; exact ej
        have ewo : IntKind.i64.wrap (o : Int) = (o : Int) := IntWalk.i64_in _ (by omega)
        have ewj : IntKind.i64.wrap (j : Int) = (j : Int) := IntWalk.i64_in _ (by omega)
        have hT0 : ((T : Int) == 0) = false := beq_eq_false_iff_ne.2 (by omega)
        have hki : (k : Int) < (os.length : Int) := by omega
        have hk60 : (k : Int) < 40 := by omega
        have hjTi : (j : Int) < (T : Int) := by omega
        have hT0' : ¬ (T : Int) = 0 := by omega
        unfold Ms.v Pc.v at KJ
        clear hbk hmk hbm
        obtain ⟨n, fr, cd, hj⟩ : ∃ n fr cd, jnA m pp = ((n, fr), cd) := ⟨_, _, _, rfl⟩
        rw [hj] at KJ hcase
        have HC := Lib.hid hcase
        clear hcase hj
        obtain ⟨mo, mn, mx, md⟩ := m
        obtain ⟨xo, xn, xc, xd⟩ := pp
        obtain ⟨no, nn, nx, nd⟩ := n
        dsimp only at p0 p1 p2 p3 KJ HBM hms hpz HC
        go_upto_region 12 with fail
        clear c0 p0 p1 p2 p3 hki hk60 etm ewo ewj hT0 hT0' hjTi
        have hbp : Bk (wr.alloc (.cells #[.bool xo, .int .i64 xn, .int .i64 xc, .string xd] 45)) wr.heap.size [.bool xo, .int .i64 xn, .int .i64 xc, .string xd] := Bk.new wr _ _
        have hbm1 := HBM.out.alloc (.cells #[.bool xo, .int .i64 xn, .int .i64 xc, .string xd] 45)
        have hg1 : Bl wr (wr.alloc (.cells #[.bool xo, .int .i64 xn, .int .i64 xc, .string xd] 45)) := (Bl.refl _).alloc _
        generalize wr.alloc (.cells #[.bool xo, .int .i64 xn, .int .i64 xc, .string xd] 45) = W1 at *
        generalize wr.heap.size = xb at *
        have hpl := hbp.1
        have hml := hbm1.1
        have p0 := hbp.at 0 (by show 0 < 4; omega) (v := .bool xo) rfl
        have p1 := hbp.at 1 (by show 1 < 4; omega) (v := .int .i64 xn) rfl
        have p2 := hbp.at 2 (by show 2 < 4; omega) (v := .int .i64 xc) rfl
        have p3 := hbp.at 3 (by show 3 < 4; omega) (v := .string xd) rfl
        have a0 := hbm1.at 0 (by show 0 < 4; omega) (v := .bool mo) rfl
        have a1 := hbm1.at 1 (by show 1 < 4; omega) (v := .int .i64 mn) rfl
        have a2 := hbm1.at 2 (by show 2 < 4; omega) (v := .int .i64 mx) rfl
        have a3 := hbm1.at 3 (by show 3 < 4; omega) (v := .string md) rfl
        have HG1 := Lib.hid hg1
        clear hg1 hbp hbm1
        go_upto_region 13 with (go_at_call 20; (with_reducible refine (KJ.out _).mono ?_); rintro e wn ⟨rfl, hgr⟩)
        have hbn : Bk (wn.alloc (.cells #[.bool no, .int .i64 nn, .int .i64 nx, .string nd] 43)) wn.heap.size [.bool no, .int .i64 nn, .int .i64 nx, .string nd] := Bk.new wn _ _
        have hg2 : Bl W1 (wn.alloc (.cells #[.bool no, .int .i64 nn, .int .i64 nx, .string nd] 43)) := hgr.alloc _
        generalize wn.alloc (.cells #[.bool no, .int .i64 nn, .int .i64 nx, .string nd] 43) = W2 at *
        generalize wn.heap.size = nb at *
        clear a0 a1 a2 a3 hgr
        have hnl := hbn.1
        have n0 := hbn.at 0 (by show 0 < 4; omega) (v := .bool no) rfl
        have n1 := hbn.at 1 (by show 1 < 4; omega) (v := .int .i64 nn) rfl
        have n2 := hbn.at 2 (by show 2 < 4; omega) (v := .int .i64 nx) rfl
        have n3 := hbn.at 3 (by show 3 < 4; omega) (v := .string nd) rfl
        replace p0 := (hg2.cell (p := ⟨xb, 0, none⟩) hpl).trans p0
        replace p1 := (hg2.cell (p := ⟨xb, 1, none⟩) hpl).trans p1
        replace p2 := (hg2.cell (p := ⟨xb, 2, none⟩) hpl).trans p2
        replace p3 := (hg2.cell (p := ⟨xb, 3, none⟩) hpl).trans p3
        have hpl2 := Nat.lt_of_lt_of_le hpl hg2.size
        have HN := Lib.hid (fun (w' : World) (gg : Bl W2 w') => (show w'.cell? ⟨nb, 0, none⟩ = some (.bool no) ∧ w'.cell? ⟨nb, 1, none⟩ = some (.int .i64 nn) ∧ w'.cell? ⟨nb, 2, none⟩ = some (.int .i64 nx) ∧ w'.cell? ⟨nb, 3, none⟩ = some (.string nd) ∧ w'.cell? ⟨xb, 0, none⟩ = some (.bool xo) ∧ w'.cell? ⟨xb, 1, none⟩ = some (.int .i64 xn) ∧ w'.cell? ⟨xb, 2, none⟩ = some (.int .i64 xc) ∧ w'.cell? ⟨xb, 3, none⟩ = some (.string xd) from ⟨(gg.cell (p := ⟨nb, 0, none⟩) hnl).trans n0, (gg.cell (p := ⟨nb, 1, none⟩) hnl).trans n1, (gg.cell (p := ⟨nb, 2, none⟩) hnl).trans n2, (gg.cell (p := ⟨nb, 3, none⟩) hnl).trans n3, (gg.cell (p := ⟨xb, 0, none⟩) hpl2).trans p0, (gg.cell (p := ⟨xb, 1, none⟩) hpl2).trans p1, (gg.cell (p := ⟨xb, 2, none⟩) hpl2).trans p2, (gg.cell (p := ⟨xb, 3, none⟩) hpl2).trans p3⟩))
        have HZ := Lib.hid (show ∀ w', Bl W2 w' → w.heap.size ≤ w'.heap.size ∧ Bk w' mb [.bool mo, .int .i64 mn, .int .i64 mx, .string md] ∧ Pr w' g aq ∧ Bl w w' from fun w' gg =>
          have g3 := (HG1.out.trans hg2).trans gg
          ⟨(hw.out.trans g3).size, HBM.out.bl g3, hpr.out.go g3, hw.out.trans g3⟩)
        have hmw8 : w.heap.size ≤ mb := hmw
        clear hg2 hbn HG1 HBM hpr hw hpl
        rcases HC.out with ⟨n', fr', he, hnk, hfr, hst⟩ | he
        · obtain ⟨⟨rfl, rfl⟩, rfl⟩ : ((⟨no, nn, nx, nd⟩ : Ms) = n' ∧ fr = fr') ∧ cd = 0 := by simpa only [Prod.mk.injEq] using he
          have HNK := Lib.hid hnk
          have HST := Lib.hid hst
          clear he hnk hst HC
          have KJN0 := Lib.hid (fun (hs : xo = true) => fun w => joins_yes zM ⟨xo, xn, xc, xd⟩ ⟨no, nn, nx, nd⟩ fr (HST.out hs) (by decide) (by show (xd.size : Int) ≤ 4000; omega) w)
          unfold Ms.v Pc.v zM at KJN0
          dsimp only at KJN0
          rcases hfr with rfl | ⟨h1, h2, h3, h4⟩
          · cases xo with
            | true =>
              have KJN := Lib.hid (KJN0.out rfl)
              have hgr := Bl.refl W2
              go_upto_region 20 with (first | (go_at_call 30; (with_reducible refine (KJN.out _).mono ?_); rintro e w4 ⟨rfl, hgs⟩; have hgt := hgr.trans hgs; clear hgr hgs; rename Bl W2 w4 => hgr; obtain ⟨n0, n1, n2, n3, p0, p1, p2, p3⟩ := HN.out _ hgr) | fail)
              obtain ⟨-, hm9, hp9, hw9⟩ := HZ.out _ hgr
              have b0 := hm9.at 0 (by show 0 < 4; omega) (v := .bool mo) rfl
              have bf0 := hm9.fr 0 (by show 0 < 4; omega)
              have b1 := hm9.at 1 (by show 1 < 4; omega) (v := .int .i64 mn) rfl
              have bf1 := hm9.fr 1 (by show 1 < 4; omega)
              have b2 := hm9.at 2 (by show 2 < 4; omega) (v := .int .i64 mx) rfl
              have bf2 := hm9.fr 2 (by show 2 < 4; omega)
              have b3 := hm9.at 3 (by show 3 < 4; omega) (v := .string md) rfl
              have bf3 := hm9.fr 3 (by show 3 < 4; omega)
              have HM8 := Lib.hid (hm9.fourV (.bool no) (.int .i64 nn) (.int .i64 nx) (.string nd))
              have HP8 := Lib.hid (((((hp9).far (p := ⟨mb, 0, none⟩) (Ne.symm hmg) (.bool no)).far (p := ⟨mb, 1, none⟩) (Ne.symm hmg) (.int .i64 nn)).far (p := ⟨mb, 2, none⟩) (Ne.symm hmg) (.int .i64 nx)).far (p := ⟨mb, 3, none⟩) (Ne.symm hmg) (.string nd))
              have HW8 := Lib.hid (hw9.four hmw8 (.bool no) (.int .i64 nn) (.int .i64 nx) (.string nd))
              clear hm9 hp9 hw9 p0 p1 p2 p3 hgr
              go_wp2_with fail
              go_roundw
              case rel => exact ⟨k + 1, by omega, by omega, by go_num, Lib.hid ⟨⟨no, nn, nx, nd⟩, HNK.out, HM8.out⟩, HP8, HW8⟩
              case measure => first | (simp [intOf]; omega) | simp [intOf]
            | false =>
              have hgr := Bl.refl W2
              go_upto_region 20 with fail
              obtain ⟨-, hm9, hp9, hw9⟩ := HZ.out _ hgr
              have b0 := hm9.at 0 (by show 0 < 4; omega) (v := .bool mo) rfl
              have bf0 := hm9.fr 0 (by show 0 < 4; omega)
              have b1 := hm9.at 1 (by show 1 < 4; omega) (v := .int .i64 mn) rfl
              have bf1 := hm9.fr 1 (by show 1 < 4; omega)
              have b2 := hm9.at 2 (by show 2 < 4; omega) (v := .int .i64 mx) rfl
              have bf2 := hm9.fr 2 (by show 2 < 4; omega)
              have b3 := hm9.at 3 (by show 3 < 4; omega) (v := .string md) rfl
              have bf3 := hm9.fr 3 (by show 3 < 4; omega)
              have HM8 := Lib.hid (hm9.fourV (.bool no) (.int .i64 nn) (.int .i64 nx) (.string nd))
              have HP8 := Lib.hid (((((hp9).far (p := ⟨mb, 0, none⟩) (Ne.symm hmg) (.bool no)).far (p := ⟨mb, 1, none⟩) (Ne.symm hmg) (.int .i64 nn)).far (p := ⟨mb, 2, none⟩) (Ne.symm hmg) (.int .i64 nx)).far (p := ⟨mb, 3, none⟩) (Ne.symm hmg) (.string nd))
              have HW8 := Lib.hid (hw9.four hmw8 (.bool no) (.int .i64 nn) (.int .i64 nx) (.string nd))
              clear hm9 hp9 hw9 p0 p1 p2 p3 hgr
              go_wp2_with fail
              go_roundw
              case rel => exact ⟨k + 1, by omega, by omega, by go_num, Lib.hid ⟨⟨no, nn, nx, nd⟩, HNK.out, HM8.out⟩, HP8, HW8⟩
              case measure => first | (simp [intOf]; omega) | simp [intOf]
          · have KG := Lib.hid (fun w => good_any fr (by omega) w)
            rw [h1] at KG
            have KSF := Lib.hid (fun w => shelf_HasSuffix fr xd w (by omega))
            rw [h4] at KSF
            have hl1 : decide ((fr.size : Int) < 64) = false := decide_eq_false (by omega)
            have hl2 : decide ((1522 : Int) < (fr.size : Int)) = false := decide_eq_false (by omega)
            have hl3 : ¬ (fr.size : Int) < 64 := by omega
            have hl4 : ¬ (1522 : Int) < (fr.size : Int) := by omega
            have hF0 : ¬ fr.toList = [] := fun hh => by
              rw [ByteArray.toList_eq] at hh
              have h9 : fr.size = 0 := by rw [← ByteArray.size_data, ← Array.length_toList, hh]; rfl
              omega
            have hFe : fr.toList.isEmpty = false := by cases h : fr.toList with | nil => exact absurd h hF0 | cons x l => rfl
            cases xo with
            | true =>
              have KJN := Lib.hid (KJN0.out rfl)
              have hgr := Bl.refl W2
              go_upto_region 20 with (first | (go_at_call 28; (with_reducible refine (KG.out _).mono ?_); rintro e w3 ⟨rfl, hgs⟩; have hgt := hgr.trans hgs; clear hgr hgs; rename Bl W2 w3 => hgr; obtain ⟨n0, n1, n2, n3, p0, p1, p2, p3⟩ := HN.out _ hgr) | (go_at_call 29; (with_reducible refine (KSF.out _).mono ?_); rintro e w3 ⟨rfl, rfl⟩) | (go_at_call 30; (with_reducible refine (KJN.out _).mono ?_); rintro e w4 ⟨rfl, hgs⟩; have hgt := hgr.trans hgs; clear hgr hgs; rename Bl W2 w4 => hgr; obtain ⟨n0, n1, n2, n3, p0, p1, p2, p3⟩ := HN.out _ hgr) | fail)
              obtain ⟨-, hm9, hp9, hw9⟩ := HZ.out _ hgr
              have b0 := hm9.at 0 (by show 0 < 4; omega) (v := .bool mo) rfl
              have bf0 := hm9.fr 0 (by show 0 < 4; omega)
              have b1 := hm9.at 1 (by show 1 < 4; omega) (v := .int .i64 mn) rfl
              have bf1 := hm9.fr 1 (by show 1 < 4; omega)
              have b2 := hm9.at 2 (by show 2 < 4; omega) (v := .int .i64 mx) rfl
              have bf2 := hm9.fr 2 (by show 2 < 4; omega)
              have b3 := hm9.at 3 (by show 3 < 4; omega) (v := .string md) rfl
              have bf3 := hm9.fr 3 (by show 3 < 4; omega)
              have HM8 := Lib.hid (hm9.fourV (.bool no) (.int .i64 nn) (.int .i64 nx) (.string nd))
              have HP8 := Lib.hid (((((hp9).far (p := ⟨mb, 0, none⟩) (Ne.symm hmg) (.bool no)).far (p := ⟨mb, 1, none⟩) (Ne.symm hmg) (.int .i64 nn)).far (p := ⟨mb, 2, none⟩) (Ne.symm hmg) (.int .i64 nx)).far (p := ⟨mb, 3, none⟩) (Ne.symm hmg) (.string nd))
              have HW8 := Lib.hid (hw9.four hmw8 (.bool no) (.int .i64 nn) (.int .i64 nx) (.string nd))
              clear hm9 hp9 hw9 p0 p1 p2 p3 hgr
              go_wp2_with fail
              go_roundw
              case rel => exact ⟨k + 1, by omega, by omega, by go_num, Lib.hid ⟨⟨no, nn, nx, nd⟩, HNK.out, HM8.out⟩, HP8, HW8⟩
              case measure => first | (simp [intOf]; omega) | simp [intOf]
            | false =>
              have hgr := Bl.refl W2
              go_upto_region 20 with (first | (go_at_call 28; (with_reducible refine (KG.out _).mono ?_); rintro e w3 ⟨rfl, hgs⟩; have hgt := hgr.trans hgs; clear hgr hgs; rename Bl W2 w3 => hgr; obtain ⟨n0, n1, n2, n3, p0, p1, p2, p3⟩ := HN.out _ hgr) | (go_at_call 29; (with_reducible refine (KSF.out _).mono ?_); rintro e w3 ⟨rfl, rfl⟩) | fail)
              obtain ⟨-, hm9, hp9, hw9⟩ := HZ.out _ hgr
              have b0 := hm9.at 0 (by show 0 < 4; omega) (v := .bool mo) rfl
              have bf0 := hm9.fr 0 (by show 0 < 4; omega)
              have b1 := hm9.at 1 (by show 1 < 4; omega) (v := .int .i64 mn) rfl
              have bf1 := hm9.fr 1 (by show 1 < 4; omega)
              have b2 := hm9.at 2 (by show 2 < 4; omega) (v := .int .i64 mx) rfl
              have bf2 := hm9.fr 2 (by show 2 < 4; omega)
              have b3 := hm9.at 3 (by show 3 < 4; omega) (v := .string md) rfl
              have bf3 := hm9.fr 3 (by show 3 < 4; omega)
              have HM8 := Lib.hid (hm9.fourV (.bool no) (.int .i64 nn) (.int .i64 nx) (.string nd))
              have HP8 := Lib.hid (((((hp9).far (p := ⟨mb, 0, none⟩) (Ne.symm hmg) (.bool no)).far (p := ⟨mb, 1, none⟩) (Ne.symm hmg) (.int .i64 nn)).far (p := ⟨mb, 2, none⟩) (Ne.symm hmg) (.int .i64 nx)).far (p := ⟨mb, 3, none⟩) (Ne.symm hmg) (.string nd))
              have HW8 := Lib.hid (hw9.four hmw8 (.bool no) (.int .i64 nn) (.int .i64 nx) (.string nd))
              clear hm9 hp9 hw9 p0 p1 p2 p3 hgr
              go_wp2_with fail
              go_roundw
              case rel => exact ⟨k + 1, by omega, by omega, by go_num, Lib.hid ⟨⟨no, nn, nx, nd⟩, HNK.out, HM8.out⟩, HP8, HW8⟩
              case measure => first | (simp [intOf]; omega) | simp [intOf]
        · obtain ⟨⟨hn, rfl⟩, rfl⟩ : ((⟨no, nn, nx, nd⟩ : Ms) = zM ∧ fr = ⟨#[]⟩) ∧ cd = 181 := by simpa only [Prod.mk.injEq] using he
          obtain ⟨rfl, rfl, rfl, rfl⟩ : no = false ∧ nn = 0 ∧ nx = 0 ∧ nd = ⟨#[]⟩ := by unfold zM at hn; simpa only [Ms.mk.injEq] using hn
          clear he hn HC
          obtain ⟨-, hm9, hp9, hw9⟩ := HZ.out _ (Bl.refl _)
          have HM9 := Lib.hid hm9
          have HP9 := Lib.hid hp9
          have HW9 := Lib.hid hw9
          clear hm9 hp9 hw9
          go_wp2_with fail
          go_roundw
          case rel => exact ⟨k + 1, by omega, by omega, by go_num, Lib.hid ⟨⟨mo, mn, mx, md⟩, HMK.out, HM9.out⟩, HP9, HW9⟩
          case measure => first | (simp [intOf]; omega) | simp [intOf]
      · obtain rfl : k = 40 := by omega
        go_wp2_with fail
        go_ret
        exact ⟨rfl, hw.out⟩
    · have hnl : ¬ (k : Int) < (os.length : Int) := by omega
      go_wp2_with fail
      go_ret
      exact ⟨rfl, hw.out⟩

end Go.Proofs.Ytnapelocjcoofaa
