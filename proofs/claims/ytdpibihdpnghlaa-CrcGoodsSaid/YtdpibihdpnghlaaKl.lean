/-
  What the law's works returns; strings with their check octets.
-/
import Derived.Test.YtdpibihdpnghlaaKh
namespace Go.Proofs.Ytdpibihdpnghlaa
open Go.RowKit Go.Proofs.Ytdpibihdpnghlaa.Cr

theorem bef_append (s : ByteArray) {l : List UInt8} (h : l.length = 4) : bef (s ++ bstr l) = s := by
  have hs : (s ++ bstr l).size = s.size + 4 := by rw [ByteArray.size_append, bstr_size, h]
  unfold bef
  rw [hs, Nat.add_sub_cancel]
  apply ByteArray.ext
  apply Array.toList_inj.1
  rw [ByteArray.data_extract, ByteArray.data_append]
  simp only [Array.toList_extract, Array.toList_append, List.extract_eq_take_drop, List.drop_zero, Nat.sub_zero]
  have e : s.data.toList.length = s.size := by simp
  rw [← e, List.take_left]
theorem bef_seal (s : ByteArray) (m : Nat) : bef (sealB s m) = s := bef_append s rfl
theorem chk_seal (s : ByteArray) (m : Nat) : chk (sealB s m) m = true :=
  decide_eq_true ⟨by rw [sealB_size]; omega, by rw [bef_seal]⟩
theorem le4_inj {a b : Nat} (ha : a < 4294967296) (hb : b < 4294967296) (h : le4 a = le4 b) : a = b := by
  have := congrArg vn h
  rwa [vn_le4 ha, vn_le4 hb] at this
theorem seal_inj {s : ByteArray} {m n : Nat} (hm : m < 4294967296) (hn : n < 4294967296) (h : sealB s m = sealB s n) : m = n := by
  have h1 := congrArg (fun b => b.data.toList) h
  unfold sealB at h1
  simp only [ByteArray.data_append, Array.toList_append, bstr_list] at h1
  have h2 := le4_inj (mark_lt (ofN_lt _) hm) (mark_lt (ofN_lt _) hn) (List.append_cancel_left h1)
  have h3 : ofN s.data.toList ^^^ (ofN s.data.toList ^^^ m) = ofN s.data.toList ^^^ (ofN s.data.toList ^^^ n) := by rw [h2]
  rw [← Nat.xor_assoc, ← Nat.xor_assoc, Nat.xor_self, Nat.zero_xor, Nat.zero_xor] at h3
  exact h3
theorem chk_seal_ne {s : ByteArray} {m n : Nat} (hm : m < 4294967296) (hn : n < 4294967296) (h : m ≠ n) : chk (sealB s m) n = false :=
  decide_eq_false fun hh => h (seal_inj hn hm (by have := hh.2; rwa [bef_seal] at this)).symm

theorem of_nine : ofN [49, 50, 51, 52, 53, 54, 55, 56, 57] = 3421780262 := by decide +kernel
theorem of_a : ofN [97] = 3904355907 := by decide +kernel
theorem ext_nine : cpl (cr (cpl (ofN [49, 50, 51, 52])) [53, 54, 55, 56, 57]) = 3421780262 := by decide +kernel
theorem oct_nine : bstr (le4 3421780262) = ⟨#[38, 57, 244, 203]⟩ := by decide +kernel
theorem seal_nil : sealB ⟨#[]⟩ 0 = ⟨#[0, 0, 0, 0]⟩ := by decide +kernel

set_option maxHeartbeats 1000000 in
theorem works_any (w : World) :
    Calls Try.prog 20 #[] w fun e w' => e = .returned (.bool true) ∧ Bl w w' := by
  have K1 := Lib.hid (fun w => (show ofN (⟨#[49, 50, 51, 52, 53, 54, 55, 56, 57]⟩ : ByteArray).data.toList = 3421780262 from of_nine) ▸ of_any ⟨#[49, 50, 51, 52, 53, 54, 55, 56, 57]⟩ (by decide) w)
  have K2 := Lib.hid (fun w => (show ofN (⟨#[]⟩ : ByteArray).data.toList = 0 from rfl) ▸ of_any ⟨#[]⟩ (by decide) w)
  have K3 := Lib.hid (fun w => (show ofN (⟨#[97]⟩ : ByteArray).data.toList = 3904355907 from of_a) ▸ of_any ⟨#[97]⟩ (by decide) w)
  have K4 := Lib.hid (fun w => of_any ⟨#[49, 50, 51, 52]⟩ (by decide) w)
  have K5 := Lib.hid (fun w => (show cpl (cr (cpl (ofN [49, 50, 51, 52])) (⟨#[53, 54, 55, 56, 57]⟩ : ByteArray).data.toList) = 3421780262 from ext_nine) ▸ extend_any (ofN [49, 50, 51, 52]) ⟨#[53, 54, 55, 56, 57]⟩ (ofN_lt _) (by decide) w)
  have K6 := Lib.hid (fun w => oct_nine ▸ octets_any 3421780262 (by decide) w)
  have K7 := Lib.hid (fun w => seal_any ⟨#[97]⟩ (by decide) w)
  have K8 := Lib.hid (fun w => (chk_seal ⟨#[97]⟩ 0) ▸ good_any (sealB ⟨#[97]⟩ 0) (by rw [sealB_size]; decide) w)
  have K9 := Lib.hid (fun w => (chk_short (s := ⟨#[97]⟩) (m := 0) (by decide)) ▸ good_any ⟨#[97]⟩ (by decide) w)
  have K10 := Lib.hid (fun w => (show chk ⟨#[0, 0, 0, 0]⟩ 0 = true from seal_nil ▸ chk_seal ⟨#[]⟩ 0) ▸ good_any ⟨#[0, 0, 0, 0]⟩ (by decide) w)
  have K11 := Lib.hid (fun w => mark_any ⟨#[97]⟩ (by decide) w)
  have K12 := Lib.hid (fun w => (chk_seal ⟨#[97]⟩ 4294901760) ▸ marked_any (sealB ⟨#[97]⟩ 4294901760) (by rw [sealB_size]; decide) w)
  have K14 := Lib.hid (fun w => (chk_seal_ne (s := ⟨#[97]⟩) (m := 0) (n := 4294901760) (by decide) (by decide) (by decide)) ▸ marked_any (sealB ⟨#[97]⟩ 0) (by rw [sealB_size]; decide) w)
  generalize sealB ⟨#[97]⟩ 0 = x at *
  generalize sealB ⟨#[97]⟩ 4294901760 = y at *
  have e4 : (⟨#[49, 50, 51, 52]⟩ : ByteArray).data.toList = [49, 50, 51, 52] := rfl
  rw [e4] at K4
  generalize ofN [49, 50, 51, 52] = z at *
  unfold u32 at *
  go_enter Try.func20, Try.ntmps20
  go_wp2_with fail
  refine (K1.out _).mono ?_; rintro e w1 ⟨rfl, gr⟩
  have G := Lib.hid gr; clear gr
  go_wp2_with fail
  refine (K2.out _).mono ?_; rintro e w2 ⟨rfl, gr⟩
  replace G := Lib.hid (Bl.trans G.out gr); clear gr
  go_wp2_with fail
  refine (K3.out _).mono ?_; rintro e w3 ⟨rfl, gr⟩
  replace G := Lib.hid (Bl.trans G.out gr); clear gr
  go_wp2_with fail
  refine (K4.out _).mono ?_; rintro e w4 ⟨rfl, gr⟩
  replace G := Lib.hid (Bl.trans G.out gr); clear gr
  go_wp2_with fail
  refine (K5.out _).mono ?_; rintro e w5 ⟨rfl, gr⟩
  replace G := Lib.hid (Bl.trans G.out gr); clear gr
  go_wp2_with fail
  refine (K6.out _).mono ?_; rintro e w6 ⟨rfl, gr⟩
  replace G := Lib.hid (Bl.trans G.out gr); clear gr
  go_wp2_with fail
  refine (K7.out _).mono ?_; rintro e w7 ⟨rfl, gr⟩
  replace G := Lib.hid (Bl.trans G.out gr); clear gr
  go_wp2_with fail
  refine (K8.out _).mono ?_; rintro e w8 ⟨rfl, gr⟩
  replace G := Lib.hid (Bl.trans G.out gr); clear gr
  go_wp2_with fail
  refine (K9.out _).mono ?_; rintro e w9 ⟨rfl, gr⟩
  replace G := Lib.hid (Bl.trans G.out gr); clear gr
  go_wp2_with fail
  refine (K10.out _).mono ?_; rintro e w10 ⟨rfl, gr⟩
  replace G := Lib.hid (Bl.trans G.out gr); clear gr
  go_wp2_with fail
  refine (K11.out _).mono ?_; rintro e w11 ⟨rfl, gr⟩
  replace G := Lib.hid (Bl.trans G.out gr); clear gr
  go_wp2_with fail
  refine (K12.out _).mono ?_; rintro e w12 ⟨rfl, gr⟩
  replace G := Lib.hid (Bl.trans G.out gr); clear gr
  go_wp2_with fail
  refine (K7.out _).mono ?_; rintro e w13 ⟨rfl, gr⟩
  replace G := Lib.hid (Bl.trans G.out gr); clear gr
  go_wp2_with fail
  refine (K14.out _).mono ?_; rintro e w14 ⟨rfl, gr⟩
  replace G := Lib.hid (Bl.trans G.out gr); clear gr
  go_wp2_with fail
  go_ret
  exact ⟨rfl, G.out⟩

end Go.Proofs.Ytdpibihdpnghlaa
