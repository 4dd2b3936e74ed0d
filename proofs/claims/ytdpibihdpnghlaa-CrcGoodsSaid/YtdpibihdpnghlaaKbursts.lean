/-
  CrcBursts: a sealed string of which some of 32 consecutive bits are changed is not sealed, a marked one not marked.
-/
import Derived.Test.YtdpibihdpnghlaaKpairs
namespace Go.Proofs.Ytdpibihdpnghlaa
open Go.RowKit Go.Proofs.Ytdpibihdpnghlaa.Cr

/-- A string with some of its bits changed. -/
def fp (t : ByteArray) (k p : Nat) : ByteArray := bstr (Cr.flip t.data.toList k p 32)
theorem fp_size (t : ByteArray) (k p : Nat) : (fp t k p).size = t.size := by unfold fp; rw [bstr_size, flip_length]; simp
theorem fp_list (t : ByteArray) (k p : Nat) : (fp t k p).data.toList = Cr.flip t.data.toList k p 32 := by unfold fp; rw [bstr_list]
theorem fp_ne {t : ByteArray} {k p : Nat} (hk : k < 8 * t.size) (hp : p < 4294967296) (h : cr 4294967295 (fp t k p).data.toList = cr 4294967295 t.data.toList) : fp t k p = t := by
  rw [fp_list] at h
  have e := cr_flip_ne (l := t.data.toList) (k := k) (p := p) (c := 4294967295) (by have : t.data.toList.length = t.size := by simp
                                                                                    omega) hp h
  apply ByteArray.ext
  apply Array.toList_inj.1
  rw [fp_list, e]
/-- Of a string that is good and one with changed bits that is another, only one is good. -/
theorem burst_good {t : ByteArray} {k p : Nat} (h4 : 4 ≤ t.size) (hk : k < 8 * t.size) (hp : p < 4294967296) (hne : fp t k p ≠ t) (hg : chk t 0 = true) : chk (fp t k p) 0 = false := by
  rw [chk_good h4, decide_eq_true_eq] at hg
  rw [chk_good (by rw [fp_size]; exact h4)]
  exact decide_eq_false fun h => hne (fp_ne hk hp (h.trans hg.symm))
theorem burst_marked {t : ByteArray} {k p : Nat} (h4 : 4 ≤ t.size) (hk : k < 8 * t.size) (hp : p < 4294967296) (hne : fp t k p ≠ t) (hg : chk t 4294901760 = true) : chk (fp t k p) 4294901760 = false := by
  rw [chk_marked h4, decide_eq_true_eq] at hg
  rw [chk_marked (by rw [fp_size]; exact h4)]
  exact decide_eq_false fun h => hne (fp_ne hk hp (h.trans hg.symm))
theorem two_strings (x y : ByteArray) (k : Nat) (hk : k < 2) : ∃ z, (z = x ∨ z = y) ∧ ∀ w, (Instr.index 34 (.agg #[.string x, .string y]) (.int .i64 k)).run Try.prog w = .ok (.string z) w := by
  match k, hk with
  | 0, _ => exact ⟨x, .inl rfl, fun _ => by kernel_rfl⟩
  | 1, _ => exact ⟨y, .inr rfl, fun _ => by kernel_rfl⟩

set_option maxRecDepth 20000 in
set_option maxHeartbeats 2000000 in
theorem bursts_law (s : ByteArray) (a pt : Nat) (hs : s.size ≤ maxLen) (ha : a < 65536) (hpt : pt < 4294967296) (w : World) :
    Calls Try.prog 5 #[.string s, .int .u16 (a : Int), .int .u32 (pt : Int)] w fun e w' => e = .returned (.bool true) ∧ Bl w w' := by
  have KW := Lib.hid (fun w => works_any w)
  unfold maxLen at hs
  obtain ⟨p, hp1, hp2, hp3⟩ : ∃ p : Nat, (if (100 : Int) < s.size then 100 else (s.size : Int)) = (p : Int) ∧ p ≤ s.size ∧ p ≤ 100 := ⟨min s.size 100, by split <;> omega, by omega, by omega⟩
  have hsz : (s.extract 0 p).size = p := by rw [ByteArray.size_extract]; omega
  go_enter Try.func5, Try.ntmps5
  go_wp2_with fail
  refine (KW.out _).mono ?_; rintro e w1 ⟨rfl, gr⟩
  have G := Lib.hid gr; clear gr
  have KS := Lib.hid (fun w => seal_any (s.extract 0 p) (by omega) w)
  have KM := Lib.hid (fun w => mark_any (s.extract 0 p) (by omega) w)
  go_wp2_with fail
  refine (KS.out _).mono ?_; rintro e w2 ⟨rfl, gr⟩
  replace G := Lib.hid (Bl.trans G.out gr); clear gr
  go_wp2_with fail
  refine (KM.out _).mono ?_; rintro e w3 ⟨rfl, gr⟩
  replace G := Lib.hid (Bl.trans G.out gr); clear gr
  generalize s.extract 0 p = s1 at *
  clear hp1 hs hp2
  subst hsz
  go_wp2_with fail
  go_loopw [23] (fun i wr => ∃ j : Nat, j ≤ 2 ∧ i = .int .i64 (j : Int) ∧ Hid (Bl w wr)) (fun i _ => 2 - (intOf i).toNat)
  case atStart => exact ⟨0, by omega, rfl, G⟩
  case round =>
    clear G
    obtain ⟨j, hj, rfl, G⟩ := hrel
    by_cases hlt : j < 2
    · obtain ⟨z, hz, hrun⟩ := two_strings (sealB s1 0) (sealB s1 4294901760) j hlt
      have hzs : z.size = s1.size + 4 := by rcases hz with rfl | rfl <;> exact sealB_size _ _
      obtain ⟨A, hA, hA1⟩ := mod_at a s1.size
      have hk8 : A < 8 * z.size := by omega
      have KF := Lib.hid (fun w => flip_any z A pt (by omega) hk8 hpt w)
      have KG := Lib.hid (fun w => good_any z (by omega) w)
      have KN := Lib.hid (fun w => marked_any z (by omega) w)
      have LG := Lib.hid (fun w => good_any (fp z A pt) (by rw [fp_size]; omega) w)
      have LN := Lib.hid (fun w => marked_any (fp z A pt) (by rw [fp_size]; omega) w)
      rw [show bstr (Cr.flip z.data.toList A pt 32) = fp z A pt from rfl] at KF
      unfold Go.Proofs.Ytdpibihdpnghlaa.u32 at KF
      by_cases hne : fp z A pt = z
      · rw [hne] at KF
        clear KG KN LG LN hz hne hk8 hA1
        go_wp2_with fail
        refine (KF.out _).mono ?_; rintro e w4 ⟨rfl, gr⟩
        replace G := Lib.hid (Bl.trans G.out gr); clear gr
        go_wp2_with fail
        go_roundw
        case rel => exact ⟨j + 1, by omega, by go_num, G⟩
        case measure => simp [intOf]; omega
      · have hbq := beq_bytes (fp z A pt) z
        rw [decide_eq_false hne] at hbq
        rcases hz with rfl | rfl
        · have c1 := chk_seal s1 0
          have c2 := burst_good (by omega) hk8 hpt hne c1
          have c3 := chk_seal_ne (s := s1) (m := 0) (n := 4294901760) (by decide) (by decide) (by decide)
          rw [c1] at KG
          rw [c2] at LG
          rw [c3] at KN
          clear c1 c2 c3 LN hne hk8 hA1
          generalize fp (sealB s1 0) A pt = u at *
          go_wp2_with fail
          refine (KF.out _).mono ?_; rintro e w4 ⟨rfl, gr⟩
          replace G := Lib.hid (Bl.trans G.out gr); clear gr
          go_wp2_with fail
          refine (KG.out _).mono ?_; rintro e w5 ⟨rfl, gr⟩
          replace G := Lib.hid (Bl.trans G.out gr); clear gr
          go_wp2_with fail
          refine (LG.out _).mono ?_; rintro e w6 ⟨rfl, gr⟩
          replace G := Lib.hid (Bl.trans G.out gr); clear gr
          go_wp2_with fail
          refine (KN.out _).mono ?_; rintro e w7 ⟨rfl, gr⟩
          replace G := Lib.hid (Bl.trans G.out gr); clear gr
          go_wp2_with fail
          go_roundw
          case rel => exact ⟨j + 1, by omega, by go_num, G⟩
          case measure => simp [intOf]; omega
        · have c1 := chk_seal s1 4294901760
          have c2 := burst_marked (by omega) hk8 hpt hne c1
          have c3 := chk_seal_ne (s := s1) (m := 4294901760) (n := 0) (by decide) (by decide) (by decide)
          rw [c3] at KG
          rw [c2] at LN
          rw [c1] at KN
          clear c1 c2 c3 LG hne hk8 hA1
          generalize fp (sealB s1 4294901760) A pt = u at *
          go_wp2_with fail
          refine (KF.out _).mono ?_; rintro e w4 ⟨rfl, gr⟩
          replace G := Lib.hid (Bl.trans G.out gr); clear gr
          go_wp2_with fail
          refine (KG.out _).mono ?_; rintro e w5 ⟨rfl, gr⟩
          replace G := Lib.hid (Bl.trans G.out gr); clear gr
          go_wp2_with fail
          refine (KN.out _).mono ?_; rintro e w6 ⟨rfl, gr⟩
          replace G := Lib.hid (Bl.trans G.out gr); clear gr
          go_wp2_with fail
          refine (LN.out _).mono ?_; rintro e w7 ⟨rfl, gr⟩
          replace G := Lib.hid (Bl.trans G.out gr); clear gr
          go_wp2_with fail
          go_roundw
          case rel => exact ⟨j + 1, by omega, by go_num, G⟩
          case measure => simp [intOf]; omega
    · have K1 := Lib.hid (fun w => (chk_seal s1 0) ▸ good_any (sealB s1 0) (by rw [sealB_size]; omega) w)
      have K2 := Lib.hid (fun w => (chk_seal s1 4294901760) ▸ marked_any (sealB s1 4294901760) (by rw [sealB_size]; omega) w)
      have K3 := Lib.hid (fun w => (chk_seal_ne (s := s1) (m := 4294901760) (n := 0) (by decide) (by decide) (by decide)) ▸ good_any (sealB s1 4294901760) (by rw [sealB_size]; omega) w)
      have K4 := Lib.hid (fun w => (chk_seal_ne (s := s1) (m := 0) (n := 4294901760) (by decide) (by decide) (by decide)) ▸ marked_any (sealB s1 0) (by rw [sealB_size]; omega) w)
      generalize sealB s1 0 = x at *
      generalize sealB s1 4294901760 = y at *
      go_wp2_with fail
      refine (KS.out _).mono ?_; rintro e wn ⟨rfl, gr⟩
      replace G := Lib.hid (Bl.trans G.out gr); clear gr
      go_wp2_with fail
      refine (K1.out _).mono ?_; rintro e wn ⟨rfl, gr⟩
      replace G := Lib.hid (Bl.trans G.out gr); clear gr
      go_wp2_with fail
      refine (KM.out _).mono ?_; rintro e wn ⟨rfl, gr⟩
      replace G := Lib.hid (Bl.trans G.out gr); clear gr
      go_wp2_with fail
      refine (K2.out _).mono ?_; rintro e wn ⟨rfl, gr⟩
      replace G := Lib.hid (Bl.trans G.out gr); clear gr
      go_wp2_with fail
      refine (KM.out _).mono ?_; rintro e wn ⟨rfl, gr⟩
      replace G := Lib.hid (Bl.trans G.out gr); clear gr
      go_wp2_with fail
      refine (K3.out _).mono ?_; rintro e wn ⟨rfl, gr⟩
      replace G := Lib.hid (Bl.trans G.out gr); clear gr
      go_wp2_with fail
      refine (KS.out _).mono ?_; rintro e wn ⟨rfl, gr⟩
      replace G := Lib.hid (Bl.trans G.out gr); clear gr
      go_wp2_with fail
      refine (K4.out _).mono ?_; rintro e wn ⟨rfl, gr⟩
      replace G := Lib.hid (Bl.trans G.out gr); clear gr
      go_wp2_with fail
      go_ret
      exact ⟨rfl, G.out⟩

end Go.Proofs.Ytdpibihdpnghlaa
