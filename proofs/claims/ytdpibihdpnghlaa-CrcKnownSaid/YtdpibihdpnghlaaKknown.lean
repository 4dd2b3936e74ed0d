/-
  CrcKnown: published values, and short strings.
-/
import Derived.Test.YtdpibihdpnghlaaKl
import Derived.Test.YtdpibihdpnghlaaKn
namespace Go.Proofs.Ytdpibihdpnghlaa
open Go.RowKit Go.Proofs.Ytdpibihdpnghlaa.Cr

theorem make32 (W : World) : (Instr.makeSlice 37 (.int .i64 32) (.int .i64 32)).run Try.prog W = .ok (.slice (some ⟨W.heap.size, 0, none⟩) 32 32) (W.alloc (.cells (Array.replicate 32 (.int .u8 0)) 5)) := make_u8 32 (by decide) W
theorem back32 (W : World) : (convert 37 9 (.slice (some ⟨W.heap.size, 0, none⟩) 32 32)).run Try.prog (W.alloc (.cells (Array.replicate 32 (.int .u8 0)) 5)) = .ok (.string (bstr (List.replicate 32 0))) (W.alloc (.cells (Array.replicate 32 (.int .u8 0)) 5)) :=
  back _ _ 32 _ (zeros_in W 32 _)
theorem of_zeros : ofN (List.replicate 32 0) = 420107693 := by decide +kernel
theorem of_ones : ofN (List.replicate 32 255) = 4285311755 := by decide +kernel
theorem of_fox : ofN [84, 104, 101, 32, 113, 117, 105, 99, 107, 32, 98, 114, 111, 119, 110, 32, 102, 111, 120, 32, 106, 117, 109, 112, 115, 32, 111, 118, 101, 114, 32, 116, 104, 101, 32, 108, 97, 122, 121, 32, 100, 111, 103] = 1095738169 := by decide +kernel
theorem of_abc : ofN [97, 98, 99] = 891568578 := by decide +kernel
theorem seal_abc : sealB ⟨#[97, 98, 99]⟩ 0 = ⟨#[97, 98, 99, 194, 65, 36, 53]⟩ := by decide +kernel
theorem mark_abc : sealB ⟨#[97, 98, 99]⟩ 4294901760 = ⟨#[97, 98, 99, 194, 65, 219, 202]⟩ := by decide +kernel
theorem mark_nil : sealB ⟨#[]⟩ 4294901760 = ⟨#[0, 0, 255, 255]⟩ := by decide +kernel
/-- k octets 255. -/
def ones (k : Nat) : ByteArray := bstr (List.replicate k 255)
theorem ones_succ (k : Nat) : ones k ++ (⟨#[255]⟩ : ByteArray) = ones (k + 1) := by
  apply ByteArray.ext
  apply Array.toList_inj.1
  unfold ones
  rw [ByteArray.data_append, Array.toList_append, bstr_list, bstr_list, List.replicate_succ']
theorem ones_size (k : Nat) : (ones k).size = k := by unfold ones; rw [bstr_size, List.length_replicate]

set_option maxRecDepth 20000 in
set_option maxHeartbeats 1000000 in
theorem known_law (w : World) :
    Calls Try.prog 9 #[] w fun e w' => e = .returned (.bool true) ∧ Bl w w' := by
  have KW := Lib.hid (fun w => works_any w)
  have hmk := make32
  have hbk := back32
  have hzs : (bstr (List.replicate 32 0)).size = 32 := by rw [bstr_size, List.length_replicate]
  have K1 := Lib.hid (fun w => (show ofN (bstr (List.replicate 32 0)).data.toList = 420107693 by rw [bstr_list]; exact of_zeros) ▸ of_any (bstr (List.replicate 32 0)) (by omega) w)
  have K2 := Lib.hid (fun w => (show ofN (ones 32).data.toList = 4285311755 by unfold ones; rw [bstr_list]; exact of_ones) ▸ of_any (ones 32) (by rw [ones_size]; decide) w)
  have K3 := Lib.hid (fun w => (show ofN (⟨#[84, 104, 101, 32, 113, 117, 105, 99, 107, 32, 98, 114, 111, 119, 110, 32, 102, 111, 120, 32, 106, 117, 109, 112, 115, 32, 111, 118, 101, 114, 32, 116, 104, 101, 32, 108, 97, 122, 121, 32, 100, 111, 103]⟩ : ByteArray).data.toList = 1095738169 from of_fox) ▸ of_any ⟨#[84, 104, 101, 32, 113, 117, 105, 99, 107, 32, 98, 114, 111, 119, 110, 32, 102, 111, 120, 32, 106, 117, 109, 112, 115, 32, 111, 118, 101, 114, 32, 116, 104, 101, 32, 108, 97, 122, 121, 32, 100, 111, 103]⟩ (by decide) w)
  have K4 := Lib.hid (fun w => (show ofN (⟨#[97, 98, 99]⟩ : ByteArray).data.toList = 891568578 from of_abc) ▸ of_any ⟨#[97, 98, 99]⟩ (by decide) w)
  have K5 := Lib.hid (fun w => (chk_short (s := ⟨#[]⟩) (m := 0) (by decide)) ▸ good_any ⟨#[]⟩ (by decide) w)
  have K6 := Lib.hid (fun w => (chk_short (s := ⟨#[0, 0, 0]⟩) (m := 0) (by decide)) ▸ good_any ⟨#[0, 0, 0]⟩ (by decide) w)
  have K7 := Lib.hid (fun w => (chk_short (s := ⟨#[]⟩) (m := 4294901760) (by decide)) ▸ marked_any ⟨#[]⟩ (by decide) w)
  have K8 := Lib.hid (fun w => (show chk ⟨#[0, 0, 255, 255]⟩ 4294901760 = true from mark_nil ▸ chk_seal ⟨#[]⟩ 4294901760) ▸ marked_any ⟨#[0, 0, 255, 255]⟩ (by decide) w)
  have K9 := Lib.hid (fun w => (show chk ⟨#[0, 0, 255, 255]⟩ 0 = false from mark_nil ▸ chk_seal_ne (s := ⟨#[]⟩) (m := 4294901760) (n := 0) (by decide) (by decide) (by decide)) ▸ good_any ⟨#[0, 0, 255, 255]⟩ (by decide) w)
  have K10 := Lib.hid (fun w => seal_abc ▸ seal_any ⟨#[97, 98, 99]⟩ (by decide) w)
  have K11 := Lib.hid (fun w => mark_abc ▸ mark_any ⟨#[97, 98, 99]⟩ (by decide) w)
  have K12 := Lib.hid (fun w => (show cpl (cr (cpl 3421780262) (⟨#[]⟩ : ByteArray).data.toList) = 3421780262 by decide +kernel) ▸ extend_any 3421780262 ⟨#[]⟩ (by decide) (by decide) w)
  unfold u32 at *
  generalize bstr (List.replicate 32 0) = zs at *
  go_enter Try.func9, Try.ntmps9
  go_wp2_with fail
  go_loop [3, 2] (fun i v => ∃ k : Nat, k ≤ 32 ∧ i = .int .i64 k ∧ v = .string (ones k)) (fun i _ => 32 - (intOf i).toNat)
  case atStart => exact ⟨0, by omega, rfl, rfl⟩
  case round =>
    obtain ⟨k, hk, rfl, rfl⟩ := hrel
    by_cases hlt : k < 32
    · have HS := Lib.hid (ones_succ k)
      have hsz := ones_size k
      generalize ones k = x at *
      go_wp2_with fail
      go_round
      case rel => exact ⟨k + 1, by omega, by go_num, by rw [← HS.out]⟩
      case measure => simp [intOf]; omega
    · obtain rfl : k = 32 := by omega
      have G := Lib.hid ((Bl.refl w).alloc (.cells (Array.replicate 32 (.int .u8 0)) 5))
      go_wp2_with fail
      refine (K1.out _).mono ?_; rintro e wn ⟨rfl, gr⟩
      replace G := Lib.hid (Bl.trans G.out gr); clear gr
      go_wp2_with fail
      refine (K2.out _).mono ?_; rintro e wn ⟨rfl, gr⟩
      replace G := Lib.hid (Bl.trans G.out gr); clear gr
      go_wp2_with fail
      refine (K3.out _).mono ?_; rintro e wn ⟨rfl, gr⟩
      replace G := Lib.hid (Bl.trans G.out gr); clear gr
      go_wp2_with fail
      refine (K4.out _).mono ?_; rintro e wn ⟨rfl, gr⟩
      replace G := Lib.hid (Bl.trans G.out gr); clear gr
      go_wp2_with fail
      refine (K5.out _).mono ?_; rintro e wn ⟨rfl, gr⟩
      replace G := Lib.hid (Bl.trans G.out gr); clear gr
      go_wp2_with fail
      refine (K6.out _).mono ?_; rintro e wn ⟨rfl, gr⟩
      replace G := Lib.hid (Bl.trans G.out gr); clear gr
      go_wp2_with fail
      refine (K7.out _).mono ?_; rintro e wn ⟨rfl, gr⟩
      replace G := Lib.hid (Bl.trans G.out gr); clear gr
      go_wp2_with fail
      refine (K8.out _).mono ?_; rintro e wn ⟨rfl, gr⟩
      replace G := Lib.hid (Bl.trans G.out gr); clear gr
      go_wp2_with fail
      refine (K9.out _).mono ?_; rintro e wn ⟨rfl, gr⟩
      replace G := Lib.hid (Bl.trans G.out gr); clear gr
      go_wp2_with fail
      refine (KW.out _).mono ?_; rintro e wn ⟨rfl, gr⟩
      replace G := Lib.hid (Bl.trans G.out gr); clear gr
      go_wp2_with fail
      refine (K10.out _).mono ?_; rintro e wn ⟨rfl, gr⟩
      replace G := Lib.hid (Bl.trans G.out gr); clear gr
      go_wp2_with fail
      refine (K11.out _).mono ?_; rintro e wn ⟨rfl, gr⟩
      replace G := Lib.hid (Bl.trans G.out gr); clear gr
      go_wp2_with fail
      refine (K12.out _).mono ?_; rintro e wn ⟨rfl, gr⟩
      replace G := Lib.hid (Bl.trans G.out gr); clear gr
      go_wp2_with fail
      go_ret
      exact ⟨rfl, G.out⟩

end Go.Proofs.Ytdpibihdpnghlaa
