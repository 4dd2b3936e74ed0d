/-
  WirePuts: Put and PutSigned return what the chapter specifies.
-/
import Derived.Test.YtjbjmnlckgiolaaWj
namespace Go.Proofs.Ytjbjmnlckgiolaa
open Go.RowKit

def i64 (z : Int) : Prop := -9223372036854775808 ≤ z ∧ z ≤ 9223372036854775807
theorem i64_wrap (z : Int) : i64 (wrap64 z) := by unfold i64 wrap64; omega
theorem i64_div {n : Int} (h : i64 n) (j : Nat) : i64 (n / 2 ^ j) := by
  unfold i64 at *
  have hp : (0 : Int) < 2 ^ j := Int.pow_pos (by decide)
  constructor
  · rw [Int.le_ediv_iff_mul_le hp]
    have := Int.mul_le_mul_of_nonneg_left (show (1 : Int) ≤ 2 ^ j by omega) (show (0 : Int) ≤ 9223372036854775808 by decide)
    omega
  · apply Int.le_of_lt_add_one
    rw [Int.ediv_lt_iff_lt_mul hp]
    have := Int.mul_le_mul_of_nonneg_left (show (1 : Int) ≤ 2 ^ j by omega) (show (0 : Int) ≤ 9223372036854775807 + 1 by decide)
    omega
theorem three_ints {a b c : Int} (k : Nat) (hk : k < 3) : ∃ z, (z = a ∨ z = b ∨ z = c) ∧ ∀ w, (Instr.index 23 (.agg #[.int .i64 a, .int .i64 b, .int .i64 c]) (.int .i64 k)).run Try.prog w = .ok (.int .i64 z) w := by
  match k, hk with
  | 0, _ => exact ⟨a, .inl rfl, fun _ => by kernel_rfl⟩
  | 1, _ => exact ⟨b, .inr (.inl rfl), fun _ => by kernel_rfl⟩
  | 2, _ => exact ⟨c, .inr (.inr rfl), fun _ => by kernel_rfl⟩
theorem six_ints {a b c d e f : Int} (ha : i64 a) (hb : i64 b) (hc : i64 c) (hd : i64 d) (he : i64 e) (hf : i64 f) (k : Nat) (hk : k < 6) :
    ∃ z, i64 z ∧ ∀ w, (Instr.index 24 (.agg #[.int .i64 a, .int .i64 b, .int .i64 c, .int .i64 d, .int .i64 e, .int .i64 f]) (.int .i64 k)).run Try.prog w = .ok (.int .i64 z) w := by
  match k, hk with
  | 0, _ => exact ⟨a, ha, fun _ => by kernel_rfl⟩
  | 1, _ => exact ⟨b, hb, fun _ => by kernel_rfl⟩
  | 2, _ => exact ⟨c, hc, fun _ => by kernel_rfl⟩
  | 3, _ => exact ⟨d, hd, fun _ => by kernel_rfl⟩
  | 4, _ => exact ⟨e, he, fun _ => by kernel_rfl⟩
  | 5, _ => exact ⟨f, hf, fun _ => by kernel_rfl⟩

set_option maxRecDepth 20000 in
set_option maxHeartbeats 2000000 in
theorem puts_law (s : ByteArray) (n t k : Int) (hs : s.size ≤ maxLen) (hn : -9223372036854775808 ≤ n ∧ n ≤ 9223372036854775807) (ht : 0 ≤ t ∧ t ≤ 255) (w : World) :
    Calls Try.prog 3 #[.string s, .int .i64 n, .int .u8 t, .int .i64 k] w fun e w' => e = .returned (.bool true) ∧ Bl w w' := by
  have KW := Lib.hid (fun w => wworks_any w)
  unfold maxLen at hs
  obtain ⟨p, hp1, hp2, hp3⟩ : ∃ p : Nat, (if (20 : Int) < s.size then 20 else (s.size : Int)) = (p : Int) ∧ p ≤ s.size ∧ p ≤ 20 := ⟨min s.size 20, by split <;> omega, by omega, by omega⟩
  have hs1 : ((s.extract 0 p).size : Int) ≤ 20 := by rw [ByteArray.size_extract]; omega
  go_enter Try.func3, Try.ntmps3
  go_wp2_with fail
  generalize s.extract 0 p = s1 at *
  generalize wrap64 ((IntKind.u64.wrap k).tmod 10) = kk at *
  clear hs hp1 hp2 hp3
  go_loopw [32] (fun iv wr => ∃ i : Nat, i ≤ 3 ∧ iv = .int .i64 i ∧ Hid (Bl w wr)) (fun iv _ => 3 - (intOf iv).toNat)
  case atStart => exact ⟨0, by omega, rfl, Bl.refl _⟩
  case round =>
    obtain ⟨i, hi, rfl, hw⟩ := hrel
    by_cases hlt : i < 3
    · obtain ⟨z, hz, hrun⟩ := three_ints (a := k) (b := kk) (c := -1) i hlt
      clear hz
      go_wp2_with fail
      have i1 := i64_div hn (t % 64).toNat
      have i2 := i64_wrap (2 ^ (t % 63).toNat)
      have i3 := i64_wrap (wrap64 (2 ^ (t % 63).toNat) - 1)
      have i4 := i64_wrap (-2 ^ (t % 64).toNat)
      have i5 := i64_wrap (wrap64 (-2 ^ (t % 64).toNat) - 1)
      generalize n / 2 ^ (t % 64).toNat = z1 at *
      generalize wrap64 (wrap64 (2 ^ (t % 63).toNat) - 1) = z3 at *
      generalize wrap64 (2 ^ (t % 63).toNat) = z2 at *
      generalize wrap64 (wrap64 (-2 ^ (t % 64).toNat) - 1) = z5 at *
      generalize wrap64 (-2 ^ (t % 64).toNat) = z4 at *
      have i0 : i64 n := hn
      have HS := Lib.hid (six_ints i0 i1 i2 i3 i4 i5)
      clear i0 i1 i2 i3 i4 i5
      generalize decide ((i : Int) < 3) = cd at *
      have HI := Lib.hid hlt
      clear hlt
      go_loopw [55] (fun jv wq => ∃ j : Nat, j ≤ 6 ∧ jv = .int .i64 j ∧ Hid (Bl w wq)) (fun jv _ => 6 - (intOf jv).toNat)
      case atStart => exact ⟨0, by omega, rfl, hw⟩
      case round =>
        rename World => wx
        obtain ⟨j, hj, rfl, hw2⟩ := hrel
        by_cases hlt2 : j < 6
        · obtain ⟨m, hm, hrun2⟩ := HS.out j hlt2
          clear HS
          have K1 := Lib.hid (fun (W : World) => put_v (s := s1) (n := m) (k := z) rfl rfl (by omega) hm W)
          have K2 := Lib.hid (fun (W : World) => rput_any s1 m z (by omega) hm W)
          have K3 := Lib.hid (fun (W : World) => putSigned_v (s := s1) (n := m) (k := z) rfl rfl (by omega) hm W)
          have K4 := Lib.hid (fun (W : World) => rputSigned_any s1 m z (by omega) hm W)
          unfold puR at K2
          unfold psR at K4
          generalize puS s1 m z = S at *
          generalize puE m z = E at *
          generalize psS s1 m z = S2 at *
          generalize psE m z = E2 at *
          clear hm
          go_wp2_with fail
          refine (K1.out _).mono ?_; rintro e w1 ⟨rfl, gr⟩
          have G1 := Lib.hid (hw2.out.trans gr); clear gr
          go_wp2_with fail
          refine (K2.out _).mono ?_; rintro e w2 ⟨rfl, gr⟩
          have G2 := Lib.hid (G1.out.trans gr); clear gr
          go_wp2_with fail
          refine (K3.out _).mono ?_; rintro e w3 ⟨rfl, gr⟩
          have G3 := Lib.hid (G2.out.trans gr); clear gr
          go_wp2_with fail
          refine (K4.out _).mono ?_; rintro e w4 ⟨rfl, gr⟩
          have G4 := Lib.hid (G3.out.trans gr); clear gr
          go_wp2_with fail
          go_roundw
          case rel => exact ⟨j + 1, by omega, by go_num, G4⟩
          case measure => simp [intOf]; omega
        · have hle : i < 3 := HI.out
          go_wp2_with fail
          go_roundw
          case rel => exact ⟨i + 1, by omega, by go_num, hw2⟩
          case measure => simp [intOf]; omega
    · have e3 : i = 3 := by omega
      subst e3
      clear hi hlt
      go_wp2_with fail
      refine (KW.out _).mono ?_; rintro e w9 ⟨rfl, gr⟩
      have G9 := Lib.hid (hw.out.trans gr)
      clear gr
      go_wp2_with fail
      go_ret
      exact ⟨rfl, G9.out⟩

end Go.Proofs.Ytjbjmnlckgiolaa
