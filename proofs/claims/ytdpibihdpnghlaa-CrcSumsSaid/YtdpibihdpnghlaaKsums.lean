/-
  CrcSums: Of, Extend, Octets, Seal and Mark return what the chapter specifies.
-/
import Derived.Test.YtdpibihdpnghlaaKi
import Derived.Test.YtdpibihdpnghlaaKl
namespace Go.Proofs.Ytdpibihdpnghlaa
open Go.RowKit Go.Proofs.Ytdpibihdpnghlaa.Cr

set_option maxRecDepth 20000 in
set_option maxHeartbeats 1000000 in
theorem sums_law (s : ByteArray) (c : Nat) (hs : s.size ≤ maxLen) (hc : c < 4294967296) (w : World) :
    Calls Try.prog 3 #[.string s, .int .u32 (c : Int)] w fun e w' => e = .returned (.bool true) ∧ Bl w w' := by
  have KW := Lib.hid (fun w => works_any w)
  unfold maxLen at hs
  obtain ⟨p, hp1, hp2, hp3⟩ : ∃ p : Nat, (if (100 : Int) < s.size then 100 else (s.size : Int)) = (p : Int) ∧ p ≤ s.size ∧ p ≤ 100 := ⟨min s.size 100, by split <;> omega, by omega, by omega⟩
  have hs1 : ((s.extract 0 p).size : Int) ≤ 100 := by rw [ByteArray.size_extract]; omega
  have K1 := Lib.hid (fun w => of_any (s.extract 0 p) (by omega) w)
  have K2 := Lib.hid (fun w => rof_any (s.extract 0 p) (by omega) w)
  have K3 := Lib.hid (fun w => extend_any c (s.extract 0 p) hc (by omega) w)
  have K4 := Lib.hid (fun w => rextend_any c (s.extract 0 p) hc (by omega) w)
  have K5 := Lib.hid (fun w => octets_any c hc w)
  have K6 := Lib.hid (fun w => roctets_any c hc w)
  have K7 := Lib.hid (fun w => seal_any (s.extract 0 p) (by omega) w)
  have K8 := Lib.hid (fun w => rseal_any (s.extract 0 p) (by omega) w)
  have K9 := Lib.hid (fun w => mark_any (s.extract 0 p) (by omega) w)
  have K10 := Lib.hid (fun w => rmark_any (s.extract 0 p) (by omega) w)
  unfold u32 at *
  generalize ofN (s.extract 0 p).data.toList = x1 at *
  generalize cpl (cr (cpl c) (s.extract 0 p).data.toList) = x2 at *
  generalize bstr (le4 c) = x3 at *
  generalize sealB (s.extract 0 p) 0 = x4 at *
  generalize sealB (s.extract 0 p) 4294901760 = x5 at *
  go_enter Try.func3, Try.ntmps3
  go_wp2_with fail
  refine (K1.out _).mono ?_; rintro e w1 ⟨rfl, gr⟩
  have G := Lib.hid gr; clear gr
  go_wp2_with fail
  refine (K2.out _).mono ?_; rintro e w2 ⟨rfl, rfl⟩
  go_wp2_with fail
  refine (K3.out _).mono ?_; rintro e w3 ⟨rfl, gr⟩
  replace G := Lib.hid (Bl.trans G.out gr); clear gr
  go_wp2_with fail
  refine (K4.out _).mono ?_; rintro e w4 ⟨rfl, rfl⟩
  go_wp2_with fail
  refine (K5.out _).mono ?_; rintro e w5 ⟨rfl, gr⟩
  replace G := Lib.hid (Bl.trans G.out gr); clear gr
  go_wp2_with fail
  refine (K6.out _).mono ?_; rintro e w6 ⟨rfl, gr⟩
  replace G := Lib.hid (Bl.trans G.out gr); clear gr
  go_wp2_with fail
  refine (K7.out _).mono ?_; rintro e w7 ⟨rfl, gr⟩
  replace G := Lib.hid (Bl.trans G.out gr); clear gr
  go_wp2_with fail
  refine (K8.out _).mono ?_; rintro e w8 ⟨rfl, gr⟩
  replace G := Lib.hid (Bl.trans G.out gr); clear gr
  go_wp2_with fail
  refine (K9.out _).mono ?_; rintro e w9 ⟨rfl, gr⟩
  replace G := Lib.hid (Bl.trans G.out gr); clear gr
  go_wp2_with fail
  refine (K10.out _).mono ?_; rintro e w10 ⟨rfl, gr⟩
  replace G := Lib.hid (Bl.trans G.out gr); clear gr
  go_wp2_with fail
  refine (KW.out _).mono ?_; rintro e w11 ⟨rfl, gr⟩
  replace G := Lib.hid (Bl.trans G.out gr); clear gr
  go_wp2_with fail
  go_ret
  exact ⟨rfl, G.out⟩

end Go.Proofs.Ytdpibihdpnghlaa
