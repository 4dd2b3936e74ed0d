/-
  WireKnown: the examples, the limits of every length, and the order of errors.
-/
import Derived.Test.YtjbjmnlckgiolaaWj
namespace Go.Proofs.Ytjbjmnlckgiolaa
open Go.RowKit

theorem shl64_pw (k : Nat) (h7 : k ≤ 7) : wrap64 (2 ^ (8 * k)) = pw k := by
  match k, h7 with
  | 0, _ => unfold wrap64; rfl
  | 1, _ => unfold wrap64; rfl
  | 2, _ => unfold wrap64; rfl
  | 3, _ => unfold wrap64; rfl
  | 4, _ => unfold wrap64; rfl
  | 5, _ => unfold wrap64; rfl
  | 6, _ => unfold wrap64; rfl
  | 7, _ => unfold wrap64; rfl
/-- The limits of k octets. -/
def kn (k : Nat) : Prop := puS ⟨#[]⟩ (pw k - 1) k = be (-1) k ∧ puE (pw k - 1) k = 0 ∧ puS ⟨#[]⟩ (pw k) k = noS ∧ puE (pw k) k = 6 ∧ psS ⟨#[]⟩ (pw k / 2) k = noS ∧ psE (pw k / 2) k = 6 ∧ psS ⟨#[]⟩ (-(pw k / 2) - 1) k = noS ∧ psE (-(pw k / 2) - 1) k = 6 ∧
  gtV (be (-1) k) 0 k = pw k - 1 ∧ gtE (be (-1) k) 0 k = 0 ∧ psS ⟨#[]⟩ (-1) k = be (-1) k ∧ psE (-1) k = 0 ∧ gsV (be (-1) k) 0 k = -1 ∧ gsE (be (-1) k) 0 k = 0
theorem kn_all (k : Nat) (h1 : 1 ≤ k) (h7 : k ≤ 7) : kn k := by
  unfold kn
  match k, h1, h7 with
  | 1, _, _ => decide +kernel
  | 2, _, _ => decide +kernel
  | 3, _, _ => decide +kernel
  | 4, _, _ => decide +kernel
  | 5, _, _ => decide +kernel
  | 6, _, _ => decide +kernel
  | 7, _, _ => decide +kernel

theorem ko1 : puS ⟨#[]⟩ (-1) 0 = noS ∧ puE (-1) 0 = 2 := by decide +kernel
theorem ko2 : puS ⟨#[]⟩ 0 8 = noS ∧ puE 0 8 = 2 := by decide +kernel
theorem ko3 : psS ⟨#[]⟩ 0 9 = noS ∧ psE 0 9 = 2 := by decide +kernel
theorem ko4 : gsV ⟨#[]⟩ 0 9 = 0 ∧ gsE ⟨#[]⟩ 0 9 = 2 := by decide +kernel
theorem ko5 : gsV ⟨#[]⟩ (-1) 1 = 0 ∧ gsE ⟨#[]⟩ (-1) 1 = 2 := by decide +kernel
theorem ko6 : psS ⟨#[]⟩ (-9223372036854775808) 8 = ⟨#[128, 0, 0, 0, 0, 0, 0, 0]⟩ ∧ psE (-9223372036854775808) 8 = 0 ∧ gsV ⟨#[128, 0, 0, 0, 0, 0, 0, 0]⟩ 0 8 = -9223372036854775808 ∧ gsE ⟨#[128, 0, 0, 0, 0, 0, 0, 0]⟩ 0 8 = 0 := by decide +kernel
theorem ko7 : psS ⟨#[]⟩ 9223372036854775807 8 = ⟨#[127, 255, 255, 255, 255, 255, 255, 255]⟩ ∧ psE 9223372036854775807 8 = 0 ∧ gsV ⟨#[127, 255, 255, 255, 255, 255, 255, 255]⟩ 0 8 = 9223372036854775807 ∧ gsE ⟨#[127, 255, 255, 255, 255, 255, 255, 255]⟩ 0 8 = 0 := by decide +kernel
theorem ko8 : puS ⟨#[]⟩ 0 7 = ⟨#[0, 0, 0, 0, 0, 0, 0]⟩ ∧ puE 0 7 = 0 := by decide +kernel
theorem ko9 : gtV ⟨#[]⟩ 4611686018427387904 7 = 0 ∧ gtE ⟨#[]⟩ 4611686018427387904 7 = 5 := by decide +kernel
theorem ko10 : fdS ⟨#[]⟩ 0 4611686018427387904 = ⟨#[]⟩ ∧ fdE ⟨#[]⟩ 0 4611686018427387904 = 5 := by decide +kernel
theorem ko11 : fdS ⟨#[97, 98]⟩ 3 0 = ⟨#[]⟩ ∧ fdE ⟨#[97, 98]⟩ 3 0 = 5 := by decide +kernel
theorem ko12 : fdS ⟨#[97, 98]⟩ (-1) 0 = ⟨#[]⟩ ∧ fdE ⟨#[97, 98]⟩ (-1) 0 = 2 := by decide +kernel
theorem ko13 : fdS ⟨#[97, 98]⟩ 0 (-1) = ⟨#[]⟩ ∧ fdE ⟨#[97, 98]⟩ 0 (-1) = 2 := by decide +kernel
theorem ko14 : fdS ⟨#[97, 98]⟩ 2 0 = ⟨#[]⟩ ∧ fdE ⟨#[97, 98]⟩ 2 0 = 0 := by decide +kernel

set_option maxRecDepth 20000 in
set_option maxHeartbeats 4000000 in
theorem wknown_law (w : World) : Calls Try.prog 7 #[] w fun e w' => e = .returned (.bool true) ∧ Bl w w' := by
  have KW := Lib.hid (fun w => wworks_any w)
  have K1 := Lib.hid (fun w => put_v ko1.1 ko1.2 (by decide) (by decide) w)
  have K2 := Lib.hid (fun w => put_v ko2.1 ko2.2 (by decide) (by decide) w)
  have K3 := Lib.hid (fun w => putSigned_v ko3.1 ko3.2 (by decide) (by decide) w)
  have K4 := Lib.hid (fun w => getSigned_v ko4.1 ko4.2 (by decide) (by decide) w)
  have K5 := Lib.hid (fun w => getSigned_v ko5.1 ko5.2 (by decide) (by decide) w)
  have K6 := Lib.hid (fun w => signed_t ko6.1 ko6.2.1 ko6.2.2.1 ko6.2.2.2 (by decide) (by decide) w)
  have K7 := Lib.hid (fun w => signed_t ko7.1 ko7.2.1 ko7.2.2.1 ko7.2.2.2 (by decide) (by decide) w)
  have K8 := Lib.hid (fun w => puts_t ko8.1 ko8.2 (by decide) (by decide) w)
  have K9 := Lib.hid (fun w => refused_t ko9.1 ko9.2 (by decide) (by decide) w)
  have K10 := Lib.hid (fun w => lfield_t ko10.1 ko10.2 (by decide) (by decide) (by decide) w)
  have K11 := Lib.hid (fun w => lfield_t ko11.1 ko11.2 (by decide) (by decide) (by decide) w)
  have K12 := Lib.hid (fun w => lfield_t ko12.1 ko12.2 (by decide) (by decide) (by decide) w)
  have K13 := Lib.hid (fun w => lfield_t ko13.1 ko13.2 (by decide) (by decide) (by decide) w)
  have K14 := Lib.hid (fun w => lfield_t ko14.1 ko14.2 (by decide) (by decide) (by decide) w)
  go_enter Try.func7, Try.ntmps7
  go_wp2_with fail
  go_loopw [1] (fun iv wr => ∃ k : Nat, 1 ≤ k ∧ k ≤ 8 ∧ iv = .int .i64 k ∧ Hid (Bl w wr)) (fun iv _ => 8 - (intOf iv).toNat)
  case atStart => exact ⟨1, by omega, by omega, rfl, Bl.refl _⟩
  case round =>
    obtain ⟨k, hk1, hk8, rfl, hw⟩ := hrel
    by_cases hlt : (k : Int) ≤ 7
    · have hn := kn_all k hk1 (by omega)
      unfold kn at hn
      obtain ⟨hh, e2, b1, b2⟩ := pw_half k hk1 (by omega)
      have hsh := shl64_pw k (by omega)
      have hsz := be_size (-1) k
      rw [show pw k / 2 = hh by rw [e2]; omega] at hn
      obtain ⟨M, eM⟩ : ∃ M, pw k - 1 = M := ⟨_, rfl⟩
      obtain ⟨nh, eh⟩ : ∃ nh, -hh - 1 = nh := ⟨_, rfl⟩
      obtain ⟨h1, e1⟩ : ∃ h1, hh - 1 = h1 := ⟨_, rfl⟩
      rw [eM, eh] at hn
      generalize be (-1) k = E at *
      generalize pw k = p at *
      have f1 : M + 1 = p := by omega
      have f2 : M.tdiv 2 = h1 := by rw [Int.tdiv_eq_ediv_of_nonneg (by omega)]; omega
      have f3 : h1 + 1 = hh := by omega
      have f4 : (-M).tdiv 2 = -h1 := by rw [Int.neg_tdiv, f2]
      have f5 : -h1 - 2 = nh := by omega
      have r1 : 1 ≤ M ∧ M ≤ 72057594037927935 := by omega
      have r2 : 1 ≤ p ∧ p ≤ 72057594037927936 := by omega
      have r3 : 0 ≤ h1 ∧ h1 ≤ 72057594037927936 := by omega
      have r4 : -72057594037927936 ≤ nh ∧ nh ≤ 0 := by omega
      clear e2 eh e1
      obtain ⟨n1, n2, n3, n4, n5, n6, n7, n8, n9, n10, n11, n12, n13, n14⟩ := hn
      have J1 := Lib.hid (fun w => put_v n1 n2 (by decide) (by omega) w)
      have J2 := Lib.hid (fun w => put_v n3 n4 (by decide) (by omega) w)
      have J3 := Lib.hid (fun w => putSigned_v n5 n6 (by decide) (by omega) w)
      have J4 := Lib.hid (fun w => putSigned_v n7 n8 (by decide) (by omega) w)
      have J5 := Lib.hid (fun w => gets_t n9 n10 (by omega) (by omega) w)
      have J6 := Lib.hid (fun w => signed_t n11 n12 n13 n14 (by omega) (by omega) w)
      clear n1 n2 n3 n4 n5 n6 n7 n8 n9 n10 n11 n12 n13 n14
      go_wp2_with fail
      refine (J1.out _).mono ?_; rintro e w1 ⟨rfl, gr⟩
      have G1 := Lib.hid (hw.out.trans gr); clear gr
      go_wp2_with fail
      refine (J2.out _).mono ?_; rintro e w2 ⟨rfl, gr⟩
      have G2 := Lib.hid (G1.out.trans gr); clear gr
      go_wp2_with fail
      refine (J3.out _).mono ?_; rintro e w3 ⟨rfl, gr⟩
      have G3 := Lib.hid (G2.out.trans gr); clear gr
      go_wp2_with fail
      refine (J4.out _).mono ?_; rintro e w4 ⟨rfl, gr⟩
      have G4 := Lib.hid (G3.out.trans gr); clear gr
      go_wp2_with fail
      refine (J5.out _).mono ?_; rintro e w5 ⟨rfl, rfl⟩
      go_wp2_with fail
      refine (J6.out _).mono ?_; rintro e w6 ⟨rfl, gr⟩
      have G6 := Lib.hid (G4.out.trans gr); clear gr
      go_wp2_with fail
      go_roundw
      case rel => exact ⟨k + 1, by omega, by omega, by go_num, G6⟩
      case measure => simp [intOf]; omega
    · have e8 : k = 8 := by omega
      subst e8
      clear hk1 hk8 hlt
      go_wp2_with fail
      refine (K1.out _).mono ?_; rintro e x1 ⟨rfl, gr⟩
      have X1 := Lib.hid (hw.out.trans gr); clear gr
      go_wp2_with fail
      refine (K2.out _).mono ?_; rintro e x2 ⟨rfl, gr⟩
      have X2 := Lib.hid (X1.out.trans gr); clear gr
      go_wp2_with fail
      refine (K3.out _).mono ?_; rintro e x3 ⟨rfl, gr⟩
      have X3 := Lib.hid (X2.out.trans gr); clear gr
      go_wp2_with fail
      refine (K4.out _).mono ?_; rintro e y ⟨rfl, rfl⟩
      go_wp2_with fail
      refine (K5.out _).mono ?_; rintro e y ⟨rfl, rfl⟩
      go_wp2_with fail
      refine (KW.out _).mono ?_; rintro e x5 ⟨rfl, gr⟩
      have X5 := Lib.hid (X3.out.trans gr); clear gr
      go_wp2_with fail
      refine (K6.out _).mono ?_; rintro e x6 ⟨rfl, gr⟩
      have X6 := Lib.hid (X5.out.trans gr); clear gr
      go_wp2_with fail
      refine (K7.out _).mono ?_; rintro e x7 ⟨rfl, gr⟩
      have X7 := Lib.hid (X6.out.trans gr); clear gr
      go_wp2_with fail
      refine (K8.out _).mono ?_; rintro e x8 ⟨rfl, gr⟩
      have X8 := Lib.hid (X7.out.trans gr); clear gr
      go_wp2_with fail
      refine (K9.out _).mono ?_; rintro e y ⟨rfl, rfl⟩
      go_wp2_with fail
      refine (K10.out _).mono ?_; rintro e y ⟨rfl, rfl⟩
      go_wp2_with fail
      refine (K11.out _).mono ?_; rintro e y ⟨rfl, rfl⟩
      go_wp2_with fail
      refine (K12.out _).mono ?_; rintro e y ⟨rfl, rfl⟩
      go_wp2_with fail
      refine (K13.out _).mono ?_; rintro e y ⟨rfl, rfl⟩
      go_wp2_with fail
      refine (K14.out _).mono ?_; rintro e y ⟨rfl, rfl⟩
      go_wp2_with fail
      go_ret
      exact ⟨rfl, X8.out⟩

end Go.Proofs.Ytjbjmnlckgiolaa
