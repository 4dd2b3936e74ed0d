/-
  CrcParts: the CRC of a string follows from that of a prefix and the rest; a sealed string with the check octets of its own CRC is sealed.
-/
import Derived.Test.YtdpibihdpnghlaaKl
import Derived.Deep.RegionHeld3
namespace Go.Proofs.Ytdpibihdpnghlaa
open Go.RowKit Go.Proofs.Ytdpibihdpnghlaa.Cr

theorem extend_of (xs ys : List UInt8) : cpl (cr (cpl (ofN xs)) ys) = ofN (xs ++ ys) := by
  have e : cpl (ofN xs) = cr 4294967295 xs := by unfold cpl ofN; rw [Nat.xor_assoc, Nat.xor_self, Nat.xor_zero]
  rw [e]
  unfold cpl ofN
  rw [cr_append]
theorem of_seal (s : ByteArray) : ofN (sealB s 0).data.toList = 558161692 := by
  have h := (seal_iff s.data.toList (ofN_lt s.data.toList)).2 rfl
  unfold sealB
  rw [ByteArray.data_append, Array.toList_append, bstr_list, Nat.xor_zero]
  unfold ofN at h ⊢
  rw [h]
  decide +kernel
theorem cut_seal (s : ByteArray) : (sealB s 0).extract 0 s.size = s := by
  have h := bef_seal s 0
  unfold bef at h
  rwa [sealB_size, Nat.add_sub_cancel] at h

theorem Hl.step {w a b : World} (h : Hid (Bl w a)) (g : Bl a b) : Hid (Bl w b) := Lib.hid (Bl.trans h.out g)
theorem Hl.drew {w a : World} (h : Hid (Bl w a)) : Hid (Bl w a.drew) := Lib.hid h.out.drew
theorem parts_of (s : ByteArray) (k : Nat) (h : k ≤ s.size) : cpl (cr (cpl (ofN (s.extract 0 k).data.toList)) (s.extract k s.size).data.toList) = ofN s.data.toList := by
  rw [extend_of]
  congr 1
  rw [ByteArray.data_extract, ByteArray.data_extract, ← Array.toList_append, Array.extract_append_extract, Nat.zero_min, Nat.max_eq_right h]
  have e : s.data.toList.length = s.size := by simp
  simp only [Array.toList_extract, List.extract_eq_take_drop, List.drop_zero, Nat.sub_zero]
  rw [← e, List.take_length]
set_option maxRecDepth 20000 in
set_option maxHeartbeats 1000000 in
theorem parts_law (s : ByteArray) (a : Nat) (hs : s.size ≤ maxLen) (ha : a < 256) (w : World) :
    Calls Try.prog 8 #[.string s, .int .u8 (a : Int)] w fun e w' => e = .returned (.bool true) ∧ Bl w w' := by
  have KW := Lib.hid (fun w => works_any w)
  unfold maxLen at hs
  obtain ⟨p, hp1, hp2, hp3⟩ : ∃ p : Nat, (if (200 : Int) < s.size then 200 else (s.size : Int)) = (p : Int) ∧ p ≤ s.size ∧ p ≤ 200 := ⟨min s.size 200, by split <;> omega, by omega, by omega⟩
  have hs1 : ((s.extract 0 p).size : Int) ≤ 200 := by rw [ByteArray.size_extract]; omega
  go_enter Try.func8, Try.ntmps8
  go_wp2_with fail
  refine (KW.out _).mono ?_; rintro e w1 ⟨rfl, gr⟩
  have G := Lib.hid gr; clear gr
  obtain ⟨k, hk, hkp⟩ : ∃ k : Nat, (if p < a then (p : Int) else (a : Int)) = (k : Int) ∧ k ≤ p := ⟨min a p, by split <;> omega, by omega⟩
  have hsz : (s.extract 0 p).size = p := by rw [ByteArray.size_extract]; omega
  have KS := Lib.hid (fun w => seal_any (s.extract 0 p) (by omega) w)
  go_wp2_with fail
  refine (KS.out _).mono ?_; rintro e w2 ⟨rfl, gr⟩
  replace G := Lib.hid (Bl.trans G.out gr); clear gr
  go_wp2_with fail
  generalize s.extract 0 p = s1 at *
  clear hp1 hk hs
  subst hsz
  have hy := sealB_size s1 0
  have hyc := cut_seal s1
  have hle : (s1.size : Int) ≤ (s1.size : Int) + 4 := by omega
  have hw : IntKind.i64.wrap ((s1.size : Int) + 4) = (s1.size : Int) + 4 := IntWalk.i64_in _ (by omega)
  have K1 := Lib.hid (fun w => of_any (s1.extract 0 k) (by rw [ByteArray.size_extract]; omega) w)
  have K2 := Lib.hid (fun w => (parts_of s1 k hkp) ▸ extend_any (ofN (s1.extract 0 k).data.toList) (s1.extract k s1.size) (ofN_lt _) (by rw [ByteArray.size_extract]; omega) w)
  have K3 := Lib.hid (fun w => of_any s1 (by omega) w)
  have e0 : cpl (cr (cpl (ofN s1.data.toList)) (⟨#[]⟩ : ByteArray).data.toList) = ofN s1.data.toList := by
    have h := extend_of s1.data.toList []
    rw [List.append_nil] at h
    exact h
  have K4 := Lib.hid (fun w => e0 ▸ extend_any (ofN s1.data.toList) ⟨#[]⟩ (ofN_lt _) (by decide) w)
  have K5 := Lib.hid (fun w => seal_any (sealB s1 0) (by omega) w)
  have K6 := Lib.hid (fun w => (chk_seal (sealB s1 0) 0) ▸ good_any (sealB (sealB s1 0) 0) (by rw [sealB_size]; omega) w)
  have K7 := Lib.hid (fun w => (of_seal s1) ▸ of_any (sealB s1 0) (by omega) w)
  unfold u32 at *
  clear e0
  generalize sealB (sealB s1 0) 0 = z at *
  generalize sealB s1 0 = y at *
  generalize ofN (s1.extract 0 k).data.toList = x1 at *
  generalize ofN s1.data.toList = x2 at *
  go_region_held3 (fun w' => Hid (Bl w w')) (first | with_reducible assumption | with_reducible exact Hl.drew G | (refine Hl.step ?_ hgr; with_reducible assumption) | fail) (first | (go_at_call 10; (with_reducible refine (K1.out _).mono ?_); rintro e wn ⟨rfl, hgr⟩) | (go_at_call 12; (with_reducible refine (K2.out _).mono ?_); rintro e wn ⟨rfl, hgr⟩) | (go_at_call 10; (with_reducible refine (K3.out _).mono ?_); rintro e wn ⟨rfl, hgr⟩) | (go_at_call 12; (with_reducible refine (K4.out _).mono ?_); rintro e wn ⟨rfl, hgr⟩) | (go_at_call 16; (with_reducible refine (K5.out _).mono ?_); rintro e wn ⟨rfl, hgr⟩) | (go_at_call 22; (with_reducible refine (K6.out _).mono ?_); rintro e wn ⟨rfl, hgr⟩) | (go_at_call 10; (with_reducible refine (K7.out _).mono ?_); rintro e wn ⟨rfl, hgr⟩) | fail)
  rename Hid (Bl w _) => hq
  go_wp2_with fail
  go_ret
  exact ⟨rfl, hq.out⟩

end Go.Proofs.Ytdpibihdpnghlaa
