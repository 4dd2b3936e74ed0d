/-
  Encodings: what stands between other octets; two's complement; the order of encodings.
-/
import Derived.Test.YtjbjmnlckgiolaaWi
namespace Go.Proofs.Ytjbjmnlckgiolaa
open Go.RowKit

theorem mod_succ (n : Int) (k : Nat) : n % pw (k + 1) = n / pw k % 256 * pw k + n % pw k := by
  have h1 := vl_be n 0 (k + 1)
  have h2 := vl_be n (n / pw k % 256) k
  rw [be_list] at h1 h2
  rw [dgs, List.map_cons, vl, u8_of (Int.emod_nonneg _ (by decide)) (Int.emod_lt_of_pos _ (by decide)), show 256 * 0 + n / pw k % 256 = n / pw k % 256 by omega] at h1
  rw [h2] at h1
  omega
/-- Encodings are ordered as their integers. -/
theorem be_less (a b : Int) (k : Nat) : Op.bytesLess (be a k).data.toList (be b k).data.toList = decide (a % pw k < b % pw k) := by
  rw [be_list, be_list]
  induction k with
  | zero => simp [dgs, Op.bytesLess, pw, Int.emod_one]
  | succ k ih =>
    have ha0 := Int.emod_nonneg (a / pw k) (show (256 : Int) ≠ 0 by decide)
    have ha1 := Int.emod_lt_of_pos (a / pw k) (show (0 : Int) < 256 by decide)
    have hb0 := Int.emod_nonneg (b / pw k) (show (256 : Int) ≠ 0 by decide)
    have hb1 := Int.emod_lt_of_pos (b / pw k) (show (0 : Int) < 256 by decide)
    have hp := pw_pos k
    have ma0 := Int.emod_nonneg a (show pw k ≠ 0 by omega)
    have ma1 := Int.emod_lt_of_pos a hp
    have mb0 := Int.emod_nonneg b (show pw k ≠ 0 by omega)
    have mb1 := Int.emod_lt_of_pos b hp
    rw [mod_succ a, mod_succ b, dgs, dgs, List.map_cons, List.map_cons, Op.bytesLess, ih]
    have ea := u8_of ha0 ha1
    have eb := u8_of hb0 hb1
    generalize a / pw k % 256 = x at *
    generalize b / pw k % 256 = y at *
    generalize a % pw k = u at *
    generalize b % pw k = v at *
    generalize pw k = p at *
    generalize UInt8.ofNat x.toNat = X at *
    generalize UInt8.ofNat y.toNat = Y at *
    have hlt : (X < Y) ↔ x < y := by rw [UInt8.lt_iff_toNat_lt]; omega
    have heq : (X = Y) ↔ x = y := by rw [← UInt8.toNat_inj]; omega
    rw [Bool.eq_iff_iff]
    simp only [Bool.or_eq_true, Bool.and_eq_true, decide_eq_true_eq, beq_iff_eq, hlt, heq]
    rcases Int.lt_trichotomy x y with h | h | h
    · have m := Int.mul_le_mul_of_nonneg_right (show x + 1 ≤ y by omega) (Int.le_of_lt hp)
      rw [Int.add_mul] at m
      constructor
      · intro _; omega
      · intro _; exact .inl h
    · subst h
      constructor
      · rintro (h | ⟨_, h⟩) <;> omega
      · intro h; exact .inr ⟨rfl, by omega⟩
    · have m := Int.mul_le_mul_of_nonneg_right (show y + 1 ≤ x by omega) (Int.le_of_lt hp)
      rw [Int.add_mul] at m
      constructor
      · rintro (h' | ⟨h', _⟩) <;> omega
      · intro h'; omega
theorem be_eq (a b : Int) (k : Nat) : ((be a k).data.toList == (be b k).data.toList) = decide (a % pw k = b % pw k) := by
  by_cases h : a % pw k = b % pw k
  · rw [decide_eq_true h]
    have e : ∀ n : Int, be n k = be (n % pw k) k := by
      intro n
      unfold be
      congr 1
      have hp := pw_pos k
      suffices H : ∀ j, j ≤ k → dgs n j = dgs (n % pw k) j from H k (Nat.le_refl _)
      intro j hj
      induction j with
      | zero => rfl
      | succ j ih =>
        rw [dgs, dgs, ih (by omega)]
        congr 1
        have hd : pw k = pw (j + 1) * pw (k - (j + 1)) := by unfold pw; rw [← Int.pow_add]; congr 1; omega
        have hpj := pw_pos j
        have h1 := Int.emod_add_mul_ediv n (pw k)
        have e1 : n = n % pw k + pw j * (256 * (pw (k - (j + 1)) * (n / pw k))) := by
          rw [pw_succ] at hd
          generalize n % pw k = r at *
          rw [hd] at h1
          grind
        conv => lhs; rw [e1]
        rw [Int.add_mul_ediv_left _ _ (by omega), Int.add_mul_emod_self_left]
    rw [e a, e b, h]; simp
  · rw [decide_eq_false h]
    rw [beq_eq_false_iff_ne]
    intro he
    have h1 := vl_be a 0 k
    have h2 := vl_be b 0 k
    rw [he] at h1
    omega

/-- The sign of an encoding. -/
theorem sg_be {n : Int} {k : Nat} (h0 : -(pw (k + 1) / 2) ≤ n) (h1 : n < pw (k + 1) / 2) : sg (be n (k + 1)).data.toList = if n < 0 then -1 else 0 := by
  have hp := pw_pos k
  have e2 : pw (k + 1) / 2 = pw k * 128 := by rw [pw_succ]; omega
  rw [e2] at h0 h1
  have hd0 := Int.emod_nonneg (n / pw k) (show (256 : Int) ≠ 0 by decide)
  have hd1 := Int.emod_lt_of_pos (n / pw k) (show (0 : Int) < 256 by decide)
  rw [be_list, dgs, List.map_cons]
  have ed := u8_of hd0 hd1
  show (if 128 ≤ (UInt8.ofNat (n / pw k % 256).toNat).toNat then (-1 : Int) else 0) = _
  have q0 : -128 ≤ n / pw k := by rw [Int.le_ediv_iff_mul_le hp]; omega
  have q1 : n / pw k < 128 := by rw [Int.ediv_lt_iff_lt_mul hp]; omega
  by_cases hn : n < 0
  · have q2 : n / pw k < 0 := by rw [Int.ediv_lt_iff_lt_mul hp]; omega
    rw [if_pos hn, if_pos (by omega)]
  · have q2 : 0 ≤ n / pw k := by rw [Int.le_ediv_iff_mul_le hp]; omega
    rw [if_neg hn, if_neg (by omega)]
theorem signed_back {n : Int} {k : Nat} (hk : 1 ≤ k) (h0 : -(pw k / 2) ≤ n) (h1 : n < pw k / 2) : vl (sg (be n k).data.toList) (be n k).data.toList = n := by
  obtain ⟨j, rfl⟩ : ∃ j, k = j + 1 := ⟨k - 1, by omega⟩
  rw [vl_be, sg_be h0 h1]
  have hp := pw_pos (j + 1)
  have e2 : pw (j + 1) / 2 = pw j * 128 := by rw [pw_succ]; omega
  have e3 := pw_succ j
  by_cases hn : n < 0
  · rw [if_pos hn]
    have : n % pw (j + 1) = n + pw (j + 1) := by
      rw [← Int.add_emod_right]
      exact Int.emod_eq_of_lt (by omega) (by omega)
    rw [this]; omega
  · rw [if_neg hn, Int.emod_eq_of_lt (by omega) (by omega)]; omega

theorem list_app (a b : ByteArray) : (a ++ b).data.toList = a.data.toList ++ b.data.toList := by rw [ByteArray.data_append, Array.toList_append]
theorem len_list (a : ByteArray) : a.data.toList.length = a.size := by simp
theorem ba_ext {a b : ByteArray} (h : a.data.toList = b.data.toList) : a = b := ByteArray.ext (Array.ext' h)
theorem sub_mid (a b c : ByteArray) : sub (a ++ b ++ c) a.size b.size = b.data.toList := by
  unfold sub
  rw [list_app, list_app, List.append_assoc, ← len_list a, List.drop_left, ← len_list b, List.take_left]
theorem extract_mid (a b c : ByteArray) : (a ++ b ++ c).extract a.size (a.size + b.size) = b := ba_ext (by rw [sub_extract, sub_mid])
theorem extract_end (a b : ByteArray) : (a ++ b).extract a.size (a ++ b).size = b := by
  apply ba_ext
  have h := sub_extract (a ++ b) a.size b.size
  rw [ByteArray.size_append, h]
  unfold sub
  rw [list_app, ← len_list a, List.drop_left, ← len_list b, List.take_length]
theorem extract_begin (a b c : ByteArray) : (a ++ b ++ c).extract 0 a.size = a := by
  apply ba_ext
  have h := sub_extract (a ++ b ++ c) 0 a.size
  rw [Nat.zero_add] at h
  rw [h]
  unfold sub
  rw [list_app, list_app, List.append_assoc, List.drop_zero, ← len_list a, List.take_left]

theorem shl_pw (k : Nat) (h7 : k ≤ 7) : IntKind.u64.wrap (2 ^ (8 * (k : Int)).toNat) = pw k := by
  match k, h7 with
  | 0, _ => rfl
  | 1, _ => rfl
  | 2, _ => rfl
  | 3, _ => rfl
  | 4, _ => rfl
  | 5, _ => rfl
  | 6, _ => rfl
  | 7, _ => rfl
theorem u64_mod_pw (n : Int) (k : Nat) (h7 : k ≤ 7) : IntKind.u64.wrap n % pw k = n % pw k := by
  have e : IntKind.u64.wrap n = n % 18446744073709551616 := by simp [IntKind.wrap, IntKind.bits, IntKind.signed]
  rw [e]
  match k, h7 with
  | 0, _ => simp [pw, Int.emod_one]
  | 1, _ => show _ % (256 : Int) = _ % (256 : Int); omega
  | 2, _ => show _ % (65536 : Int) = _ % (65536 : Int); omega
  | 3, _ => show _ % (16777216 : Int) = _ % (16777216 : Int); omega
  | 4, _ => show _ % (4294967296 : Int) = _ % (4294967296 : Int); omega
  | 5, _ => show _ % (1099511627776 : Int) = _ % (1099511627776 : Int); omega
  | 6, _ => show _ % (281474976710656 : Int) = _ % (281474976710656 : Int); omega
  | 7, _ => show _ % (72057594037927936 : Int) = _ % (72057594037927936 : Int); omega

theorem md_in (n : Int) (k : Nat) (h7 : k ≤ 7) : wrap64 ((IntKind.u64.wrap n).tmod (pw k)) = n % pw k := by
  have e : IntKind.u64.wrap n = n % 18446744073709551616 := by simp [IntKind.wrap, IntKind.bits, IntKind.signed]
  have hp := pw_pos k
  have hq : pw k ≤ 72057594037927936 := pw_mono (b := 7) h7
  have h0 := Int.emod_nonneg n (show pw k ≠ 0 by omega)
  have h1 := Int.emod_lt_of_pos n hp
  rw [Int.tmod_eq_emod_of_nonneg (by rw [e]; omega), u64_mod_pw n k h7]
  exact IntWalk.wrap64_in _ (by omega)

theorem no_app (b : ByteArray) : (ByteArray.mk #[]) ++ b = b := ba_ext (by rw [list_app]; rfl)
theorem puS_be {s : ByteArray} {n : Int} {k : Nat} (h1 : 1 ≤ k) (h7 : k ≤ 7) (h0 : 0 ≤ n) (hn : n < pw k) : puS s n k = s ++ be n k ∧ puE n k = 0 := by
  have e := puE_ok (n := n) (k := (k : Int)) (by omega) (by rw [Int.toNat_natCast]; omega)
  exact ⟨by rw [puS_ok e, Int.toNat_natCast], e⟩
theorem psS_be {s : ByteArray} {n : Int} {k : Nat} (h1 : 1 ≤ k) (h8 : k ≤ 8) (h0 : -(pw k / 2) ≤ n) (hn : n < pw k / 2) : psS s n k = s ++ be n k ∧ psE n k = 0 := by
  have e := psE_ok (n := n) (k := (k : Int)) (by omega) (by rw [Int.toNat_natCast]; omega)
  exact ⟨by rw [psS_ok e, Int.toNat_natCast], e⟩

end Go.Proofs.Ytjbjmnlckgiolaa
