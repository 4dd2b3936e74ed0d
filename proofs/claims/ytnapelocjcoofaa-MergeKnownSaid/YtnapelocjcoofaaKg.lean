/-
  What ReverseBytes32, Octets, checks, Seal and Mark return.
-/
import Derived.Test.YtnapelocjcoofaaKf
namespace Go.Proofs.Ytnapelocjcoofaa
open Go.RowKit Go.Proofs.Ytnapelocjcoofaa.Cr

theorem mask2 (y : Nat) : y &&& 16711935 = y % 256 + 65536 * (y / 65536 % 256) := by
  have h : y % 256 < 2 ^ 16 := by omega
  rw [show y % 256 + 65536 * (y / 65536 % 256) = y % 2 ^ 8 ^^^ 2 ^ 16 * (y / 2 ^ 16 % 2 ^ 8) from add_xor h]
  have hm : (16711935 : Nat) = (2 ^ 8 - 1) ^^^ 2 ^ 16 * (2 ^ 8 - 1) := by decide
  rw [hm]
  apply Nat.eq_of_testBit_eq
  intro j
  simp only [Nat.testBit_and, Nat.testBit_xor, Nat.testBit_two_pow_mul, Nat.testBit_mod_two_pow, Nat.testBit_two_pow_sub_one, Nat.testBit_div_two_pow]
  by_cases h1 : j < 8
  · have h2 : ¬ j ≥ 16 := by omega
    simp [h1, h2]
  · by_cases h2 : j ≥ 16
    · rw [show j - 16 + 16 = j by omega]
      by_cases h3 : j - 16 < 8
      · simp [h1, h2, h3]
      · simp [h1, h3]
    · simp [h1, h2]
theorem or4 {a b c d : Nat} (ha : a < 256) (hb : b < 256) (hd : d < 256) : (b + 65536 * d) ||| (256 * a + 16777216 * c) = b + 256 * a + 65536 * d + 16777216 * c := by
  have e1 := Nat.two_pow_add_eq_or_of_lt (show b < 2 ^ 16 by omega) d
  have e2 := Nat.two_pow_add_eq_or_of_lt (show 256 * a < 2 ^ 24 by omega) c
  have e3 := Nat.two_pow_add_eq_or_of_lt (show b < 2 ^ 8 by omega) a
  have e4 := Nat.two_pow_add_eq_or_of_lt (show 256 * a + b < 2 ^ 16 by omega) d
  have e5 := Nat.two_pow_add_eq_or_of_lt (show 65536 * d + (256 * a + b) < 2 ^ 24 by omega) c
  have r1 : b + 65536 * d = 65536 * d ||| b := by rw [← e1]; omega
  have r2 : 256 * a + 16777216 * c = 16777216 * c ||| 256 * a := by rw [← e2]; omega
  have r3 : b + 256 * a + 65536 * d + 16777216 * c = 16777216 * c ||| (65536 * d ||| (256 * a ||| b)) := by
    rw [show (256 : Nat) * a ||| b = 256 * a + b from e3.symm, show 65536 * d ||| (256 * a + b) = 65536 * d + (256 * a + b) from e4.symm, show 16777216 * c ||| (65536 * d + (256 * a + b)) = 16777216 * c + (65536 * d + (256 * a + b)) from e5.symm]
    omega
  rw [r1, r2, r3]
  apply Nat.eq_of_testBit_eq
  intro j
  simp only [Nat.testBit_or]
  cases (65536 * d).testBit j <;> cases b.testBit j <;> cases (16777216 * c).testBit j <;> cases (256 * a).testBit j <;> rfl

/-- The octets of a number in the other order. -/
def rev (c : Nat) : Nat := c / 16777216 + 256 * (c / 65536 % 256) + 65536 * (c / 256 % 256) + 16777216 * (c % 256)
theorem rev_and1 {c : Nat} (hc : c < 4294967296) : bits .and .u32 ((c : Int) / 256) 16711935 = ((c / 256 % 256 + 65536 * (c / 16777216) : Nat) : Int) := by
  have h := u32_and_nat (c / 256) 16711935 (by omega) (by decide)
  rw [mask2, show c / 256 / 65536 % 256 = c / 16777216 by omega] at h
  exact h
theorem rev_and2 {c : Nat} (hc : c < 4294967296) : bits .and .u32 (c : Int) 16711935 = ((c % 256 + 65536 * (c / 65536 % 256) : Nat) : Int) := by
  have h := u32_and_nat c 16711935 hc (by decide)
  rw [mask2] at h
  exact h
/-- What stands in the middle. -/
def mid (c : Nat) : Nat := c / 256 % 256 + 256 * (c % 256) + 65536 * (c / 16777216) + 16777216 * (c / 65536 % 256)
theorem rev_or1 {c : Nat} (hc : c < 4294967296) : bits .or .u32 ((c / 256 % 256 + 65536 * (c / 16777216) : Nat) : Int) ((256 * (c % 256 + 65536 * (c / 65536 % 256)) : Nat) : Int) = ((mid c : Nat) : Int) := by
  have h := u32_or_nat (c / 256 % 256 + 65536 * (c / 16777216)) (256 * (c % 256 + 65536 * (c / 65536 % 256))) (by omega) (by omega)
  rw [show 256 * (c % 256 + 65536 * (c / 65536 % 256)) = 256 * (c % 256) + 16777216 * (c / 65536 % 256) by omega, or4 (by omega) (by omega) (by omega)] at h
  rw [show 256 * (c % 256 + 65536 * (c / 65536 % 256)) = 256 * (c % 256) + 16777216 * (c / 65536 % 256) by omega]
  exact h
theorem rev_or2 {c : Nat} (hc : c < 4294967296) : bits .or .u32 ((mid c / 65536 : Nat) : Int) ((mid c % 65536 * 65536 : Nat) : Int) = ((rev c : Nat) : Int) := by
  have hm : mid c / 65536 < 2 ^ 16 := by unfold mid; omega
  have h := u32_or_nat (mid c / 65536) (mid c % 65536 * 65536) (by omega) (by omega)
  have e := Nat.two_pow_add_eq_or_of_lt hm (mid c % 65536)
  rw [Nat.or_comm, Nat.mul_comm (mid c % 65536), show 65536 * (mid c % 65536) ||| mid c / 65536 = 65536 * (mid c % 65536) + mid c / 65536 from e.symm] at h
  rw [Nat.mul_comm (mid c % 65536), h]
  congr 1
  unfold mid rev
  omega

theorem rev_mid {c : Nat} (hc : c < 4294967296) : bits .or .u32 ((c : Int) / 256 % 256 + 65536 * ((c : Int) / 16777216)) (((c : Int) % 256 + 65536 * ((c : Int) / 65536 % 256)) * 256) = ((mid c : Nat) : Int) := by
  have h := rev_or1 hc
  rw [Nat.mul_comm 256] at h
  exact h
theorem rev_all {m : Nat} {r : Int} (h : bits .or .u32 ((m / 65536 : Nat) : Int) ((m % 65536 * 65536 : Nat) : Int) = r) : bits .or .u32 ((m : Int) / 65536) ((m : Int) * 65536 % 4294967296) = r := by
  rw [← h, show (m : Int) * 65536 % 4294967296 = ((m % 65536 * 65536 : Nat) : Int) by omega]
  rfl

set_option maxHeartbeats 400000 in
theorem reverse_any (c : Nat) (hc : c < 4294967296) (w : World) :
    Calls Try.prog 75 #[u32 c] w fun e w' => e = .returned (u32 (rev c)) ∧ w = w' := by
  have h1 := rev_and1 hc
  have h2 := rev_and2 hc
  have h3 := rev_mid hc
  have h4 := rev_all (rev_or2 hc)
  unfold u32
  go_enter Try.func75, Try.ntmps75
  go_wp2
  go_ret
  exact ⟨rfl, rfl⟩

theorem rev_lt (c : Nat) (hc : c < 4294967296) : rev c < 4294967296 := by unfold rev; omega
/-- A string of octets. -/
def bstr (l : List UInt8) : ByteArray := ⟨l.toArray⟩
theorem bstr_list (l : List UInt8) : (bstr l).data.toList = l := by unfold bstr; simp
theorem bstr_size (l : List UInt8) : (bstr l).size = l.length := by unfold bstr; simp [ByteArray.size]
theorem digits4 (c : Nat) (hc : c < 4294967296) : ∃ a b d e : Nat, a < 256 ∧ b < 256 ∧ d < 256 ∧ e < 256 ∧ c = a + 256 * b + 65536 * d + 16777216 * e ∧ rev c = e + 256 * d + 65536 * b + 16777216 * a := by
  have h1 : c / 65536 = c / 256 / 256 := by rw [Nat.div_div_eq_div_mul]
  have h2 : c / 16777216 = c / 65536 / 256 := by rw [Nat.div_div_eq_div_mul]
  refine ⟨c % 256, c / 256 % 256, c / 65536 % 256, c / 16777216, by omega, by omega, by omega, by omega, by omega, ?_⟩
  rfl
theorem be_rev {c : Nat} (hc : c < 4294967296) : be ((rev c : Nat) : Int) 4 = bstr (le4 c) := by
  apply ByteArray.ext
  apply Array.toList_inj.1
  rw [be_list, bstr_list]
  show [UInt8.ofNat _, UInt8.ofNat _, UInt8.ofNat _, UInt8.ofNat _] = [UInt8.ofNat _, UInt8.ofNat _, UInt8.ofNat _, UInt8.ofNat _]
  have p3 : pw 3 = 16777216 := by decide
  have p2 : pw 2 = 65536 := by decide
  have p1 : pw 1 = 256 := by decide
  have u : ∀ {a b : Nat}, a % 256 = b % 256 → UInt8.ofNat a = UInt8.ofNat b := fun {a b} h => by
    apply UInt8.toNat_inj.1
    rw [UInt8.toNat_ofNat', UInt8.toNat_ofNat']
    exact h
  rw [p3, p2, p1, pw_zero]
  obtain ⟨a, b, d, e, ha, hb, hd, he, rfl, hr⟩ := digits4 c hc
  rw [hr]
  clear hr
  simp only [List.cons.injEq, and_true]
  have t1 : ∀ x : Nat, ((x : Int) / 16777216 % 256).toNat = x / 16777216 % 256 := fun x => by omega
  have t2 : ∀ x : Nat, ((x : Int) / 65536 % 256).toNat = x / 65536 % 256 := fun x => by omega
  have t3 : ∀ x : Nat, ((x : Int) / 256 % 256).toNat = x / 256 % 256 := fun x => by omega
  have t4 : ∀ x : Nat, ((x : Int) / 1 % 256).toNat = x % 256 := fun x => by omega
  rw [t1, t2, t3, t4]
  have q1 : (e + 256 * d + 65536 * b + 16777216 * a) / 16777216 = a := by omega
  have q2 : (e + 256 * d + 65536 * b + 16777216 * a) / 65536 = b + 256 * a := by omega
  have q3 : (e + 256 * d + 65536 * b + 16777216 * a) / 256 = d + 256 * (b + 256 * a) := by omega
  have r1 : (a + 256 * b + 65536 * d + 16777216 * e) / 256 = b + 256 * (d + 256 * e) := by omega
  have r2 : (a + 256 * b + 65536 * d + 16777216 * e) / 65536 = d + 256 * e := by omega
  have r3 : (a + 256 * b + 65536 * d + 16777216 * e) / 16777216 = e := by omega
  rw [q1, q2, q3, r1, r2, r3]
  exact ⟨u (by omega), u (by omega), u (by omega), u (by omega)⟩

theorem put_rev {c : Nat} (hc : c < 4294967296) : puR noS ((rev c : Nat) : Int) 4 = .returned (.tuple #[.string (bstr (le4 c)), .int .i64 0]) := by
  have hl := rev_lt c hc
  have e : puE ((rev c : Nat) : Int) 4 = 0 := puE_ok (by omega) (by rw [show pw (4 : Int).toNat = 4294967296 by decide]; omega)
  unfold puR
  rw [puS_ok e, e, show (4 : Int).toNat = 4 from rfl, be_rev hc]
  rfl
set_option maxHeartbeats 400000 in
theorem octets_any (c : Nat) (hc : c < 4294967296) (w : World) :
    Calls Try.prog 65 #[u32 c] w fun e w' => e = .returned (.string (bstr (le4 c))) ∧ Bl w w' := by
  have KR := Lib.hid (fun w => reverse_any c hc w)
  have hl := rev_lt c hc
  have KP := Lib.hid (fun w => (put_rev hc) ▸ put_any noS ((rev c : Nat) : Int) 4 (by decide) (by omega) w)
  unfold u32 at *
  unfold noS at KP
  generalize rev c = r at *
  generalize bstr (le4 c) = x at *
  go_enter Try.func65, Try.ntmps65
  go_wp2_with fail
  refine (KR.out _).mono ?_; rintro e w1 ⟨rfl, rfl⟩
  go_wp2_with fail
  refine (KP.out _).mono ?_; rintro e w1 ⟨rfl, gr⟩
  have G := Lib.hid gr; clear gr
  go_wp2_with fail
  go_ret
  exact ⟨rfl, G.out⟩

theorem mark_lt {a m : Nat} (ha : a < 4294967296) (hm : m < 4294967296) : a ^^^ m < 4294967296 := show _ < 2 ^ 32 from Nat.xor_lt_two_pow ha hm
set_option maxHeartbeats 400000 in
theorem checks_any (s : ByteArray) (m : Nat) (hm : m < 4294967296) (hs : (s.size : Int) ≤ 8000) (w : World) :
    Calls Try.prog 51 #[.string s, u32 m] w fun e w' => e = .returned (.string (bstr (le4 (ofN s.data.toList ^^^ m)))) ∧ Bl w w' := by
  have KF := Lib.hid (fun w => of_any s hs w)
  have hl := ofN_lt s.data.toList
  have hx := u32_xor_nat _ m hl hm
  have KO := Lib.hid (fun w => octets_any _ (mark_lt hl hm) w)
  unfold u32 at *
  generalize ofN s.data.toList = c at *
  generalize c ^^^ m = d at *
  generalize bstr (le4 d) = x at *
  go_enter Try.func51, Try.ntmps51
  go_wp2_with fail
  refine (KF.out _).mono ?_; rintro e w1 ⟨rfl, gr⟩
  have G := Lib.hid gr; clear gr
  go_wp2_with fail
  refine (KO.out _).mono ?_; rintro e w2 ⟨rfl, gr⟩
  have G2 := Lib.hid (Bl.trans G.out gr); clear gr
  go_wp2_with fail
  go_ret
  exact ⟨rfl, G2.out⟩

/-- A string with its check octets. -/
def sealB (s : ByteArray) (m : Nat) : ByteArray := s ++ bstr (le4 (ofN s.data.toList ^^^ m))
theorem sealB_size (s : ByteArray) (m : Nat) : (sealB s m).size = s.size + 4 := by
  unfold sealB
  rw [ByteArray.size_append, bstr_size]
  rfl
set_option maxHeartbeats 400000 in
theorem seal_any (s : ByteArray) (hs : (s.size : Int) ≤ 8000) (w : World) :
    Calls Try.prog 26 #[.string s] w fun e w' => e = .returned (.string (sealB s 0)) ∧ Bl w w' := by
  have KC := Lib.hid (fun w => checks_any s 0 (by decide) hs w)
  have E := Lib.hid (show s ++ bstr (le4 (ofN s.data.toList ^^^ 0)) = sealB s 0 from rfl)
  have hx : (bstr (le4 (ofN s.data.toList ^^^ 0))).size = 4 := by rw [bstr_size]; rfl
  unfold u32 at *
  generalize bstr (le4 (ofN s.data.toList ^^^ 0)) = x at *
  generalize sealB s 0 = y at *
  go_enter Try.func26, Try.ntmps26
  go_wp2_with fail
  refine (KC.out _).mono ?_; rintro e w1 ⟨rfl, gr⟩
  have G := Lib.hid gr; clear gr
  go_wp2_with fail
  go_ret
  exact ⟨by rw [← E.out]; rfl, G.out⟩
set_option maxHeartbeats 400000 in
theorem mark_any (s : ByteArray) (hs : (s.size : Int) ≤ 8000) (w : World) :
    Calls Try.prog 27 #[.string s] w fun e w' => e = .returned (.string (sealB s 4294901760)) ∧ Bl w w' := by
  have KC := Lib.hid (fun w => checks_any s 4294901760 (by decide) hs w)
  have E := Lib.hid (show s ++ bstr (le4 (ofN s.data.toList ^^^ 4294901760)) = sealB s 4294901760 from rfl)
  have hx : (bstr (le4 (ofN s.data.toList ^^^ 4294901760))).size = 4 := by rw [bstr_size]; rfl
  unfold u32 at *
  generalize bstr (le4 (ofN s.data.toList ^^^ 4294901760)) = x at *
  generalize sealB s 4294901760 = y at *
  go_enter Try.func27, Try.ntmps27
  go_wp2_with fail
  refine (KC.out _).mono ?_; rintro e w1 ⟨rfl, gr⟩
  have G := Lib.hid gr; clear gr
  go_wp2_with fail
  go_ret
  exact ⟨by rw [← E.out]; rfl, G.out⟩

end Go.Proofs.Ytnapelocjcoofaa
