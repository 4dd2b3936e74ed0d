/-
  CrcGoods: Good and Marked return what the chapter specifies.
-/
import Derived.Test.YtdpibihdpnghlaaKbursts
import Derived.Test.YtdpibihdpnghlaaKi
import Derived.Deep.RegionHeld3
namespace Go.Proofs.Ytdpibihdpnghlaa
open Go.RowKit Go.Proofs.Ytdpibihdpnghlaa.Cr

theorem Hg.step {w a b : World} (h : Hid (Bl w a)) (g : Bl a b) : Hid (Bl w b) := Lib.hid (Bl.trans h.out g)
theorem Hg.drew {w a : World} (h : Hid (Bl w a)) : Hid (Bl w a.drew) := Lib.hid h.out.drew
theorem seven_strings {a b c d e f g : ByteArray} {n : Nat} (ha : a.size ≤ n) (hb : b.size ≤ n) (hc : c.size ≤ n) (hd : d.size ≤ n) (he : e.size ≤ n) (hf : f.size ≤ n) (hg : g.size ≤ n) (k : Nat) (hk : k < 7) :
    ∃ z : ByteArray, z.size ≤ n ∧ ∀ w, (Instr.index 31 (.agg #[.string a, .string b, .string c, .string d, .string e, .string f, .string g]) (.int .i64 k)).run Try.prog w = .ok (.string z) w := by
  match k, hk with
  | 0, _ => exact ⟨a, ha, fun _ => by kernel_rfl⟩
  | 1, _ => exact ⟨b, hb, fun _ => by kernel_rfl⟩
  | 2, _ => exact ⟨c, hc, fun _ => by kernel_rfl⟩
  | 3, _ => exact ⟨d, hd, fun _ => by kernel_rfl⟩
  | 4, _ => exact ⟨e, he, fun _ => by kernel_rfl⟩
  | 5, _ => exact ⟨f, hf, fun _ => by kernel_rfl⟩
  | 6, _ => exact ⟨g, hg, fun _ => by kernel_rfl⟩

set_option maxRecDepth 20000 in
set_option maxHeartbeats 2000000 in
theorem goods_law (s : ByteArray) (a pt : Nat) (hs : s.size ≤ maxLen) (ha : a < 65536) (hpt : pt < 4294967296) (w : World) :
    Calls Try.prog 4 #[.string s, .int .u16 (a : Int), .int .u32 (pt : Int)] w fun e w' => e = .returned (.bool true) ∧ Bl w w' := by
  have KW := Lib.hid (fun w => works_any w)
  unfold maxLen at hs
  obtain ⟨p, hp1, hp2, hp3⟩ : ∃ p : Nat, (if (100 : Int) < s.size then 100 else (s.size : Int)) = (p : Int) ∧ p ≤ s.size ∧ p ≤ 100 := ⟨min s.size 100, by split <;> omega, by omega, by omega⟩
  have hsz : (s.extract 0 p).size = p := by rw [ByteArray.size_extract]; omega
  have KS := Lib.hid (fun w => rseal_any (s.extract 0 p) (by omega) w)
  have KM := Lib.hid (fun w => rmark_any (s.extract 0 p) (by omega) w)
  go_enter Try.func4, Try.ntmps4
  go_wp2_with fail
  refine (KS.out _).mono ?_; rintro e w1 ⟨rfl, gr⟩
  have G := Lib.hid gr; clear gr
  go_wp2_with fail
  refine (KM.out _).mono ?_; rintro e w2 ⟨rfl, gr⟩
  replace G := Lib.hid (Bl.trans G.out gr); clear gr
  generalize s.extract 0 p = s1 at *
  clear hp1 hs hp2 KS KM
  subst hsz
  have hy := sealB_size s1 0
  have hx := sealB_size s1 4294901760
  have hw8 : IntKind.i64.wrap (8 * ((s1.size : Int) + 4)) = 8 * ((s1.size : Int) + 4) := IntWalk.i64_in _ (by omega)
  have hd0 : ¬ 8 * ((s1.size : Int) + 4) = 0 := by omega
  have hd1 : 0 < 8 * ((s1.size : Int) + 4) := by omega
  obtain ⟨A, hA, hA1⟩ := mod_at a s1.size
  go_wp2_with fail
  rw [hA]
  obtain ⟨i, hI, hi⟩ : ∃ i : Nat, (A : Int) / 8 = (i : Int) ∧ i ≤ s1.size + 4 := ⟨A / 8, by omega, by omega⟩
  have F1 := Lib.hid (fun w => flip_any (sealB s1 0) A pt (by omega) (by omega) hpt w)
  have F2 := Lib.hid (fun w => flip_any (sealB s1 4294901760) A pt (by omega) (by omega) hpt w)
  rw [show bstr (Cr.flip (sealB s1 0).data.toList A pt 32) = fp (sealB s1 0) A pt from rfl] at F1
  rw [show bstr (Cr.flip (sealB s1 4294901760).data.toList A pt 32) = fp (sealB s1 4294901760) A pt from rfl] at F2
  have z1 : (fp (sealB s1 0) A pt).size ≤ 104 := by rw [fp_size]; omega
  have z2 : (fp (sealB s1 4294901760) A pt).size ≤ 104 := by rw [fp_size]; omega
  have z3 : ((sealB s1 0).extract 0 i).size ≤ 104 := by rw [ByteArray.size_extract]; omega
  have z4 : ((sealB s1 4294901760).extract i (s1.size + 4)).size ≤ 104 := by rw [ByteArray.size_extract]; omega
  have z5 : (sealB s1 0).size ≤ 104 := by omega
  have z6 : (sealB s1 4294901760).size ≤ 104 := by omega
  have z7 : s1.size ≤ 104 := by omega
  have hi' : (i : Int) ≤ (s1.size : Int) + 4 := by omega
  have hAb : (A : Int) ≤ 1000 := by omega
  have hwi : IntKind.i64.wrap (i : Int) = (i : Int) := IntWalk.i64_in _ (by omega)
  have SV := Lib.hid (seven_strings z7 z5 z6 z1 z2 z3 z4)
  unfold u32 at F1 F2
  clear z1 z2 z3 z4 z5 z6 z7 hw8 hd0 hd1 hA hA1
  generalize fp (sealB s1 0) A pt = u0 at *
  generalize fp (sealB s1 4294901760) A pt = u1 at *
  generalize sealB s1 0 = y at *
  generalize sealB s1 4294901760 = x at *
  go_region_held3 (fun w' => Hid (Bl w w')) (first | with_reducible assumption | with_reducible exact Hg.drew G | (refine Hg.step ?_ hgr; with_reducible assumption) | fail) (first | (go_at_call 21; (with_reducible refine (F1.out _).mono ?_); rintro e wn ⟨rfl, hgr⟩) | (go_at_call 21; (with_reducible refine (F2.out _).mono ?_); rintro e wn ⟨rfl, hgr⟩) | fail)
  rename Hid (Bl w _) => hq
  go_wp2_with fail
  clear G F1 F2 hI hAb hwi
  go_loopw [47] (fun i wr => ∃ j : Nat, j ≤ 7 ∧ i = .int .i64 (j : Int) ∧ Hid (Bl w wr)) (fun i _ => 7 - (intOf i).toNat)
  case atStart => exact ⟨0, by omega, rfl, hq⟩
  case round =>
    clear hq
    obtain ⟨j, hj, rfl, G⟩ := hrel
    by_cases hlt : j < 7
    · obtain ⟨z, hz, hrun⟩ := SV.out j hlt
      have K1 := Lib.hid (fun w => good_any z (by omega) w)
      have K2 := Lib.hid (fun w => rgood_any z (by omega) w)
      have K3 := Lib.hid (fun w => marked_any z (by omega) w)
      have K4 := Lib.hid (fun w => rmarked_any z (by omega) w)
      generalize chk z 0 = r at *
      generalize chk z 4294901760 = q at *
      go_wp2_with fail
      refine (K1.out _).mono ?_; rintro e wn ⟨rfl, gr⟩
      replace G := Lib.hid (Bl.trans G.out gr); clear gr
      go_wp2_with fail
      refine (K2.out _).mono ?_; rintro e wn ⟨rfl, gr⟩
      replace G := Lib.hid (Bl.trans G.out gr); clear gr
      go_wp2_with fail
      refine (K3.out _).mono ?_; rintro e wn ⟨rfl, gr⟩
      replace G := Lib.hid (Bl.trans G.out gr); clear gr
      go_wp2_with fail
      refine (K4.out _).mono ?_; rintro e wn ⟨rfl, gr⟩
      replace G := Lib.hid (Bl.trans G.out gr); clear gr
      go_wp2_with fail
      go_roundw
      case rel => exact ⟨j + 1, by omega, by go_num, G⟩
      case measure => simp [intOf]; omega
    · go_wp2_with fail
      refine (KW.out _).mono ?_; rintro e wn ⟨rfl, gr⟩
      replace G := Lib.hid (Bl.trans G.out gr); clear gr
      go_wp2_with fail
      go_ret
      exact ⟨rfl, G.out⟩

end Go.Proofs.Ytdpibihdpnghlaa
