/-
  WireBack: Get and GetSigned return what Put and PutSigned have appended, whatever surrounds it.
-/
import Derived.Test.YtjbjmnlckgiolaaWj
namespace Go.Proofs.Ytjbjmnlckgiolaa
open Go.RowKit

theorem back_get {s b : ByteArray} {m : Int} {k : Nat} (h1 : 1 ≤ k) (h7 : k ≤ 7) (h0 : 0 ≤ m) (hm : m < pw k) : gtV (s ++ be m k ++ b) s.size k = m ∧ gtE (s ++ be m k ++ b) s.size k = 0 := by
  have e : gtE (s ++ be m k ++ b) s.size k = 0 := gtE_ok (by omega) (by rw [ByteArray.size_append, ByteArray.size_append, be_size]; omega)
  refine ⟨?_, e⟩
  have h := sub_mid s (be m k) b
  rw [be_size] at h
  rw [gtV_ok e, Int.toNat_natCast, Int.toNat_natCast, h, vl_be, Int.zero_mul, Int.zero_add, Int.emod_eq_of_lt h0 hm]
theorem back_signed {s b : ByteArray} {m : Int} {k : Nat} (h1 : 1 ≤ k) (h8 : k ≤ 8) (h0 : -(pw k / 2) ≤ m) (hm : m < pw k / 2) : gsV (s ++ be m k ++ b) s.size k = m ∧ gsE (s ++ be m k ++ b) s.size k = 0 := by
  have e : gsE (s ++ be m k ++ b) s.size k = 0 := gsE_ok (by omega) (by rw [ByteArray.size_append, ByteArray.size_append, be_size]; omega)
  refine ⟨?_, e⟩
  have h := sub_mid s (be m k) b
  rw [be_size] at h
  rw [gsV_ok e, Int.toNat_natCast, Int.toNat_natCast, h, signed_back h1 h0 hm]
theorem back_field {s b : ByteArray} {m : Int} {k : Nat} : fdS (s ++ be m k ++ b) s.size k = (s ++ be m k).extract s.size (s ++ be m k).size ∧ fdE (s ++ be m k ++ b) s.size k = 0 := by
  have hz : ¬ ((s ++ be m k ++ b).size : Int) < (s.size : Int) + (k : Int) := by rw [ByteArray.size_append, ByteArray.size_append, be_size]; omega
  have e : fdE (s ++ be m k ++ b) s.size k = 0 := fdE_ok (by omega) hz
  refine ⟨?_, e⟩
  have h := extract_mid s (be m k) b
  rw [be_size] at h
  rw [fdS_ok (by omega) hz, Int.toNat_natCast, show ((s.size : Int) + (k : Int)).toNat = s.size + k by omega, h, extract_end]
theorem back_field0 {s b : ByteArray} {m : Int} {k : Nat} : fdS (s ++ be m k ++ b) 0 s.size = s ∧ fdE (s ++ be m k ++ b) 0 s.size = 0 := by
  have hz : ¬ ((s ++ be m k ++ b).size : Int) < 0 + (s.size : Int) := by rw [ByteArray.size_append, ByteArray.size_append]; omega
  have e : fdE (s ++ be m k ++ b) 0 s.size = 0 := fdE_ok (by omega) hz
  refine ⟨?_, e⟩
  rw [fdS_ok (by omega) hz, show (0 : Int).toNat = 0 from rfl, show (0 + (s.size : Int)).toNat = s.size by omega, extract_begin]
theorem top_octets {n : Int} (hn : -9223372036854775808 ≤ n ∧ n ≤ 9223372036854775807) {k : Nat} (h1 : 1 ≤ k) (h7 : k ≤ 7) : -(pw k / 2) ≤ n / 2 ^ (64 - 8 * (k : Int)).toNat ∧ n / 2 ^ (64 - 8 * (k : Int)).toNat < pw k / 2 := by
  match k, h1, h7 with
  | 1, _, _ => show -((256 : Int) / 2) ≤ n / 72057594037927936 ∧ n / 72057594037927936 < (256 : Int) / 2; omega
  | 2, _, _ => show -((65536 : Int) / 2) ≤ n / 281474976710656 ∧ n / 281474976710656 < (65536 : Int) / 2; omega
  | 3, _, _ => show -((16777216 : Int) / 2) ≤ n / 1099511627776 ∧ n / 1099511627776 < (16777216 : Int) / 2; omega
  | 4, _, _ => show -((4294967296 : Int) / 2) ≤ n / 4294967296 ∧ n / 4294967296 < (4294967296 : Int) / 2; omega
  | 5, _, _ => show -((1099511627776 : Int) / 2) ≤ n / 16777216 ∧ n / 16777216 < (1099511627776 : Int) / 2; omega
  | 6, _, _ => show -((281474976710656 : Int) / 2) ≤ n / 65536 ∧ n / 65536 < (281474976710656 : Int) / 2; omega
  | 7, _, _ => show -((72057594037927936 : Int) / 2) ≤ n / 256 ∧ n / 256 < (72057594037927936 : Int) / 2; omega

set_option maxRecDepth 20000 in
set_option maxHeartbeats 2000000 in
theorem back_law (s b : ByteArray) (n t : Int) (hs : s.size ≤ maxLen) (hb : b.size ≤ maxLen) (hn : -9223372036854775808 ≤ n ∧ n ≤ 9223372036854775807) (ht : 0 ≤ t ∧ t ≤ 255) (w : World) :
    Calls Try.prog 5 #[.string s, .int .i64 n, .int .u8 t, .string b] w fun e w' => e = .returned (.bool true) ∧ Bl w w' := by
  have KW := Lib.hid (fun w => wworks_any w)
  obtain ⟨j, hk7, hk⟩ : ∃ j : Nat, j ≤ 6 ∧ t % 7 = (j : Int) := ⟨(t % 7).toNat, by omega, by omega⟩
  unfold maxLen at hs hb
  obtain ⟨p, hp1, hp2, hp3⟩ : ∃ p : Nat, (if (20 : Int) < s.size then 20 else (s.size : Int)) = (p : Int) ∧ p ≤ s.size ∧ p ≤ 20 := ⟨min s.size 20, by split <;> omega, by omega, by omega⟩
  obtain ⟨q, hq1, hq2, hq3⟩ : ∃ q : Nat, (if (20 : Int) < b.size then 20 else (b.size : Int)) = (q : Int) ∧ q ≤ b.size ∧ q ≤ 20 := ⟨min b.size 20, by split <;> omega, by omega, by omega⟩
  go_enter Try.func5, Try.ntmps5
  go_wp2_with fail
  refine (KW.out _).mono ?_; rintro e w1 ⟨rfl, gr⟩
  have G := Lib.hid gr; clear gr
  go_wp2_with fail
  go_quiet (fail)
  have hs1 : ((s.extract 0 p).size : Int) ≤ 20 := by rw [ByteArray.size_extract]; omega
  have hb1 : ((b.extract 0 q).size : Int) ≤ 20 := by rw [ByteArray.size_extract]; omega
  generalize s.extract 0 p = s1 at *
  generalize b.extract 0 q = b1 at *
  clear hp1 hp2 hp3 hq1 hq2 hq3 hs hb
  obtain ⟨k, hkj, hk0⟩ : ∃ k : Nat, (1 : Int) + (j : Int) = (k : Int) ∧ k = j + 1 := ⟨j + 1, by omega, rfl⟩
  have k1 : 1 ≤ (k : Int) := by omega
  have k7 : (k : Int) ≤ 7 := by omega
  clear hk0
  have hsh := shl_pw k (by omega)
  have hmd := md_in n k (by omega)
  have hp := pw_pos k
  have hq : pw k ≤ 72057594037927936 := pw_mono (b := 7) (by omega)
  have m0 := Int.emod_nonneg n (show pw k ≠ 0 by omega)
  have m1 := Int.emod_lt_of_pos n hp
  have KT := Lib.hid (fun (W : World) => put_v (s := s1) (n := n % pw k) (k := (k : Int)) (puS_be (by omega) (by omega) m0 m1).1 (puS_be (s := s1) (by omega) (by omega) m0 m1).2 (by omega) (by omega) W)
  have KU := Lib.hid (fun (W : World) => putSigned_v (s := s1) (n := n) (k := ((8 : Nat) : Int)) (psS_be (by omega) (by omega) (by rw [show pw 8 / 2 = 9223372036854775808 by decide]; omega) (by rw [show pw 8 / 2 = 9223372036854775808 by decide]; omega)).1 (psS_be (s := s1) (by omega) (by omega) (by rw [show pw 8 / 2 = 9223372036854775808 by decide]; omega) (by rw [show pw 8 / 2 = 9223372036854775808 by decide]; omega)).2 (by omega) hn W)
  have hv := top_octets hn (k := k) (by omega) (by omega)
  have hvr : -9223372036854775808 ≤ n / 2 ^ (64 - 8 * (k : Int)).toNat ∧ n / 2 ^ (64 - 8 * (k : Int)).toNat ≤ 9223372036854775807 := by omega
  obtain ⟨v, ev⟩ : ∃ v, n / 2 ^ (64 - 8 * (k : Int)).toNat = v := ⟨_, rfl⟩
  rw [ev] at hv hvr
  have KV := Lib.hid (fun (W : World) => putSigned_v (s := s1) (n := v) (k := (k : Int)) (psS_be (by omega) (by omega) hv.1 hv.2).1 (psS_be (s := s1) (by omega) (by omega) hv.1 hv.2).2 (by omega) hvr W)
  have z8 : -(pw 8 / 2) ≤ n ∧ n < pw 8 / 2 := by rw [show pw 8 / 2 = 9223372036854775808 by decide]; omega
  have sz : ∀ (z : Int) (i : Nat), (s1 ++ be z i).size = s1.size + i := fun z i => by rw [ByteArray.size_append, be_size]
  have sz2 : ∀ (z : Int) (i : Nat), i ≤ 8 → ((s1 ++ be z i ++ b1).size : Int) ≤ 1000 := fun z i hi => by rw [ByteArray.size_append, ByteArray.size_append, be_size]; omega
  have KA := Lib.hid (fun (W : World) => getSigned_v (s := s1 ++ be n 8 ++ b1) (a := s1.size) (k := ((8 : Nat) : Int)) (back_signed (by omega) (by omega) z8.1 z8.2).1 (back_signed (by omega) (by omega) z8.1 z8.2).2 (sz2 _ _ (by omega)) (by omega) W)
  have KB := Lib.hid (fun (W : World) => getSigned_v (s := s1 ++ be v k ++ b1) (a := s1.size) (k := (k : Int)) (back_signed (by omega) (by omega) hv.1 hv.2).1 (back_signed (by omega) (by omega) hv.1 hv.2).2 (sz2 _ _ (by omega)) (by omega) W)
  have KG := Lib.hid (fun (W : World) => gets_t (s := s1 ++ be (n % pw k) k ++ b1) (a := s1.size) (k := (k : Int)) (back_get (by omega) (by omega) m0 m1).1 (back_get (by omega) (by omega) m0 m1).2 (sz2 _ _ (by omega)) (by omega) W)
  have KF := Lib.hid (fun (W : World) => lfield_t (s := s1 ++ be (n % pw k) k ++ b1) (a := s1.size) (k := (k : Int)) back_field.1 back_field.2 (sz2 _ _ (by omega)) (by omega) (by omega) W)
  have KH := Lib.hid (fun (W : World) => lfield_t (s := s1 ++ be (n % pw k) k ++ b1) (a := 0) (k := s1.size) back_field0.1 back_field0.2 (sz2 _ _ (by omega)) (by omega) (by omega) W)
  have zT := sz (n % pw k) k
  have zU := sz n 8
  have zV := sz v k
  generalize s1 ++ be (n % pw k) k = T at *
  generalize s1 ++ be n 8 = U at *
  generalize s1 ++ be v k = V at *
  rw [show ((8 : Nat) : Int) = 8 from rfl] at KA KU
  rw [zT] at KF
  clear hp hq hv z8 sz sz2
  generalize hm : n % pw k = m at *
  clear hm
  go_wp2_with fail
  refine (KT.out _).mono ?_; rintro e w2 ⟨rfl, gr⟩
  have G2 := Lib.hid (Bl.trans (G.out.drewN nq) gr); clear gr
  go_wp2_with fail
  refine (KU.out _).mono ?_; rintro e w3 ⟨rfl, gr⟩
  have G3 := Lib.hid (G2.out.trans gr); clear gr
  go_wp2_with fail
  refine (KV.out _).mono ?_; rintro e w4 ⟨rfl, gr⟩
  have G4 := Lib.hid (G3.out.trans gr); clear gr
  go_wp2_with fail
  refine (KA.out _).mono ?_; rintro e w5 ⟨rfl, rfl⟩
  go_wp2_with fail
  refine (KB.out _).mono ?_; rintro e w5 ⟨rfl, rfl⟩
  go_wp2_with fail
  refine (KG.out _).mono ?_; rintro e w5 ⟨rfl, rfl⟩
  go_wp2_with fail
  refine (KF.out _).mono ?_; rintro e w5 ⟨rfl, rfl⟩
  go_wp2_with fail
  refine (KH.out _).mono ?_; rintro e w5 ⟨rfl, rfl⟩
  go_wp2_with fail
  go_ret
  exact ⟨rfl, G4.out⟩

end Go.Proofs.Ytjbjmnlckgiolaa
