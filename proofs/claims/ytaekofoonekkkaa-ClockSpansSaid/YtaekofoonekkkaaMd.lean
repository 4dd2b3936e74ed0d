/-
  What Div64 of math/bits returns, for a divisor from 1 to 2^63 - 1 and a high word below it: the quotient and the rest of the 128-bit number.
-/
import Derived.Test.YtaekofoonekkkaaMc
import Derived.Test.YtaekofoonekkkaaMm
import Derived.Deep.DeepCutAuto
import Derived.Deep.CutBlock
namespace Go.Proofs.Ytaekofoonekkkaa
open Go.RowKit

set_option maxHeartbeats 400000 in
theorem div64_low (lo y : Nat) (h1 : 1 ≤ y) (hy : y < 9223372036854775808) (hlo : lo < 18446744073709551616) (w : World) :
    Calls Try.prog 39 #[.int .u64 0, .int .u64 lo, .int .u64 y] w fun e w' => e = .returned (.tuple #[.int .u64 ((lo / y : Nat) : Int), .int .u64 ((lo % y : Nat) : Int)]) ∧ ∃ n, w' = w.drewN n := by
  have hq := Nat.div_le_self lo y
  have hr := Nat.mod_lt lo (show y > 0 by omega)
  have e1 : (lo : Int) / (y : Int) = ((lo / y : Nat) : Int) := (Int.natCast_ediv lo y).symm
  have e2 : (lo : Int) % (y : Int) = ((lo % y : Nat) : Int) := (Int.natCast_emod lo y).symm
  obtain ⟨q, hq0⟩ : ∃ q, lo / y = q := ⟨_, rfl⟩
  obtain ⟨r, hr0⟩ : ∃ r, lo % y = r := ⟨_, rfl⟩
  rw [hq0] at hq e1
  rw [hr0] at hr e2
  rw [hq0, hr0]
  clear hq0 hr0
  have hy0 : ((y : Int) == 0) = false := by simp; omega
  have hy1 : (0 : Int) < y := by omega
  go_enter Try.func39, Try.ntmps39
  go_wp2
  go_quiet (fail)
  go_wp2
  go_ret2
  refine ⟨?_, _, rfl⟩
  show Ending.returned (.tuple #[.int .u64 (q : Int), .int .u64 ((lo : Int) % (y : Int))]) = _
  rw [e2]

theorem or_sum (a b s : Nat) (h : a * 2 ^ s + b < 18446744073709551616) (hb : b < 2 ^ s) : bits .or .u64 ((a * 2 ^ s : Nat) : Int) (b : Int) = ((a * 2 ^ s + b : Nat) : Int) := by
  rw [bits_or_u64_nat _ _ (by omega) (by omega), Nat.mul_comm, Nat.two_pow_add_eq_or_of_lt hb]

set_option maxRecDepth 100000 in
set_option maxHeartbeats 1000000 in
/-- The walk of the long way, over names: Y the shifted divisor (y1, y0 its halves), U and E the shifted number's words (e1, e0 the second's halves), Q1, R1 and Q0, R0 the two steps' quotients and rests. -/
theorem div64_core (hi lo y n Y y1 y0 U E e1 e0 Q1 R1 Q0 R0 q p r q' p' r' a1 a2 a3 b1 b2 b3 : Nat) (w : World) (hhi : 0 < hi) (h1 : hi < y) (_hy : y < 9223372036854775808) (hb : n ≤ 63)
    (hL : ∀ w, Calls Try.prog 41 #[.int .u64 y] w fun e w' => e = .returned (.int .i64 (64 - (n : Int))) ∧ w = w')
    (hY : IntKind.u64.wrap ((y : Int) * 2 ^ (64 - n)) = (Y : Int)) (hY2 : Y < 18446744073709551616)
    (hy1 : (Y : Int) / 4294967296 = (y1 : Int)) (hy0 : bits .and .u64 (Y : Int) 4294967295 = (y0 : Int))
    (hU : bits .or .u64 (IntKind.u64.wrap ((hi : Int) * 2 ^ (64 - n))) ((lo : Int) / 2 ^ (64 - (64 - n))) = (U : Int))
    (hE : IntKind.u64.wrap ((lo : Int) * 2 ^ (64 - n)) = (E : Int)) (hE2 : E < 18446744073709551616)
    (he1 : (E : Int) / 4294967296 = (e1 : Int)) (he0 : bits .and .u64 (E : Int) 4294967295 = (e0 : Int))
    (N1 : Hid (Knuth.Norm Y y1 y0 U e1 Q1)) (N0 : Hid (Knuth.Norm Y y1 y0 R1 e0 Q0))
    (k1 : (U : Int) / (y1 : Int) = (q : Int)) (bq : q ≤ 4294967297) (k2 : (q : Int) * (y1 : Int) = (p : Int)) (k3 : (U : Int) - (p : Int) = (r : Int)) (br : r < 4294967296) (_bp : p ≤ U) (hq : Hid (q * y1 + r = U ∧ Q1 ≤ q))
    (l1 : IntKind.u64.wrap ((U : Int) * 4294967296) = (a1 : Int)) (l2 : IntKind.u64.wrap ((a1 : Int) + (e1 : Int)) = (a2 : Int)) (l3 : IntKind.u64.wrap ((Q1 : Int) * (Y : Int)) = (a3 : Int)) (l4 : IntKind.u64.wrap ((a2 : Int) - (a3 : Int)) = (R1 : Int))
    (k1' : (R1 : Int) / (y1 : Int) = (q' : Int)) (bq' : q' ≤ 4294967297) (k2' : (q' : Int) * (y1 : Int) = (p' : Int)) (k3' : (R1 : Int) - (p' : Int) = (r' : Int)) (br' : r' < 4294967296) (_bp' : p' ≤ R1) (hq' : Hid (q' * y1 + r' = R1 ∧ Q0 ≤ q'))
    (m1 : IntKind.u64.wrap ((R1 : Int) * 4294967296) = (b1 : Int)) (m2 : IntKind.u64.wrap ((b1 : Int) + (e0 : Int)) = (b2 : Int)) (m3 : IntKind.u64.wrap ((Q0 : Int) * (Y : Int)) = (b3 : Int)) (m4 : IntKind.u64.wrap ((b2 : Int) - (b3 : Int)) = (R0 : Int)) (bR0 : R0 < 18446744073709551616) :
    Calls Try.prog 39 #[.int .u64 hi, .int .u64 lo, .int .u64 y] w fun e w' => e = .returned (.tuple #[.int .u64 ((Q1 * 4294967296 + Q0 : Nat) : Int), .int .u64 ((R0 / 2 ^ (64 - n) : Nat) : Int)]) ∧ w = w' := by
  have hy0' : ((y : Int) == 0) = false := by simp; omega
  have hh0 : ((hi : Int) == 0) = false := by simp; omega
  have by1 : 2147483648 ≤ y1 := N1.out.b1
  have by2 : y1 < 4294967296 := N1.out.b2
  have by0 : y0 < 4294967296 := N1.out.b0
  have bU : U < 18446744073709551616 := by have := N1.out.hU; omega
  have be1 : e1 < 4294967296 := N1.out.hu
  have be0 : e0 < 4294967296 := N0.out.hu
  have bR1 : R1 < 18446744073709551616 := by have := N0.out.hU; omega
  have bQ1 : Q1 < 4294967296 := N1.out.small
  have bQ0 : Q0 < 4294967296 := N0.out.small
  have HL := Lib.hid hL; clear hL
  go_enter Try.func39, Try.ntmps39
  go_upto_block 0 with (go_at_call 41; refine (HL.out _).mono ?_; rintro e w' ⟨rfl, rfl⟩)
  go_cut [15] (fun s wx => s = .int .u64 Q1 ∧ w = wx)
  case first =>
    go_wp2_with fail
    go_loop [15, 16] (fun a b => ∃ x z : Nat, a = .int .u64 x ∧ b = .int .u64 z ∧ z < 4294967296 ∧ x ≤ 4294967297 ∧ Hid (x * y1 + z = U ∧ Q1 ≤ x)) (fun a _ => (intOf a).toNat)
    case atStart => exact ⟨q, r, rfl, rfl, br, bq, hq⟩
    case round =>
      obtain ⟨x, z, rfl, rfl, hz, hx, hxz⟩ := hrel
      have hd : (x : Int) * (y0 : Int) = ((x * y0 : Nat) : Int) := nat_mul x y0
      have bd : x * y0 ≤ 4294967297 * 4294967295 := Nat.mul_le_mul hx (by omega)
      obtain ⟨d, hd0⟩ : ∃ d, x * y0 = d := ⟨_, rfl⟩
      rw [hd0] at hd bd
      have HD := Lib.hid hd0; clear hd0
      have hdw : IntKind.u64.wrap ((d : Nat) : Int) = (d : Int) := wrapu_in d (by omega)
      clear bd
      have HU := Lib.hid bU; clear bU
      have HY2 := Lib.hid hY2; clear hY2
      have HE2 := Lib.hid hE2; clear hE2
      have HR1 := Lib.hid bR1; clear bR1
      have HR0 := Lib.hid bR0; clear bR0
      by_cases hc : 4294967296 ≤ x ∨ 4294967296 * z + e1 < d
      · have hlt : Q1 < x := N1.out.step x z hxz.out.1 (by rw [HD.out]; exact hc)
        have hn : Hid ((x - 1) * y1 + (z + y1) = U ∧ Q1 ≤ x - 1) := by
          obtain ⟨a1, a2⟩ := hxz.out
          have e : x * y1 = (x - 1) * y1 + y1 := by
            obtain ⟨m, rfl⟩ : ∃ m, x = m + 1 := ⟨x - 1, by omega⟩
            rw [Nat.add_mul]; simp
          exact ⟨by omega, by omega⟩
        have HC := Lib.hid hc; clear hc
        have hx1 : (1 : Int) ≤ x := by omega
        by_cases hr : (4294967296 : Int) ≤ (z : Int) + (y1 : Int)
        · have hend : Hid (x - 1 = Q1) := N1.out.stop2 (x - 1) (z + y1) hn.out.1 hn.out.2 (by omega) (by omega)
          by_cases hbig : (4294967296 : Int) ≤ x
          · go_wp2
            go_meet
            have := hend.out
            exact ⟨by have : (x : Int) - 1 = (Q1 : Int) := by omega
                      rw [this], rfl⟩
          · have hc' : (4294967296 : Int) * z + e1 < d := by have := HC.out; omega
            go_wp2
            go_meet
            have := hend.out
            exact ⟨by have : (x : Int) - 1 = (Q1 : Int) := by omega
                      rw [this], rfl⟩
        · by_cases hbig : (4294967296 : Int) ≤ x
          · go_wp2
            go_round
            case rel => exact ⟨x - 1, z + y1, by go_num, by go_num, by omega, by omega, hn⟩
            case measure => simp [intOf]; omega
          · have hc' : (4294967296 : Int) * z + e1 < d := by have := HC.out; omega
            go_wp2
            go_round
            case rel => exact ⟨x - 1, z + y1, by go_num, by go_num, by omega, by omega, hn⟩
            case measure => simp [intOf]; omega
      · have hbig : ¬ (4294967296 : Int) ≤ x := by omega
        have hc' : ¬ (4294967296 : Int) * z + e1 < d := by omega
        have hend : Hid (x = Q1) := N1.out.stop x z hxz.out.1 hxz.out.2 (by rw [HD.out]; omega)
        clear hc
        go_wp2
        go_meet
        have := hend.out
        exact ⟨by rw [this], rfl⟩
  case rest =>
    obtain ⟨rfl, rfl⟩ := hcut
    go_upto_block 2 with (fail)
    go_cut [18] (fun s wx => s = .int .u64 Q0 ∧ w = wx)
    case first =>
      go_wp2_with fail
      go_loop [18, 16] (fun a b => ∃ x z : Nat, a = .int .u64 x ∧ b = .int .u64 z ∧ z < 4294967296 ∧ x ≤ 4294967297 ∧ Hid (x * y1 + z = R1 ∧ Q0 ≤ x)) (fun a _ => (intOf a).toNat)
      case atStart => exact ⟨q', r', rfl, rfl, br', bq', hq'⟩
      case round =>
        obtain ⟨x, z, rfl, rfl, hz, hx, hxz⟩ := hrel
        have hd : (x : Int) * (y0 : Int) = ((x * y0 : Nat) : Int) := nat_mul x y0
        have bd : x * y0 ≤ 4294967297 * 4294967295 := Nat.mul_le_mul hx (by omega)
        obtain ⟨d, hd0⟩ : ∃ d, x * y0 = d := ⟨_, rfl⟩
        rw [hd0] at hd bd
        have HD := Lib.hid hd0; clear hd0
        have hdw : IntKind.u64.wrap ((d : Nat) : Int) = (d : Int) := wrapu_in d (by omega)
        clear bd
        have HU := Lib.hid bU; clear bU
        have HY2 := Lib.hid hY2; clear hY2
        have HE2 := Lib.hid hE2; clear hE2
        have HR1 := Lib.hid bR1; clear bR1
        have HR0 := Lib.hid bR0; clear bR0
        by_cases hc : 4294967296 ≤ x ∨ 4294967296 * z + e0 < d
        · have hlt : Q0 < x := N0.out.step x z hxz.out.1 (by rw [HD.out]; exact hc)
          have hn : Hid ((x - 1) * y1 + (z + y1) = R1 ∧ Q0 ≤ x - 1) := by
            obtain ⟨a1, a2⟩ := hxz.out
            have e : x * y1 = (x - 1) * y1 + y1 := by
              obtain ⟨m, rfl⟩ : ∃ m, x = m + 1 := ⟨x - 1, by omega⟩
              rw [Nat.add_mul]; simp
            exact ⟨by omega, by omega⟩
          have HC := Lib.hid hc; clear hc
          have hx1 : (1 : Int) ≤ x := by omega
          by_cases hr : (4294967296 : Int) ≤ (z : Int) + (y1 : Int)
          · have hend : Hid (x - 1 = Q0) := N0.out.stop2 (x - 1) (z + y1) hn.out.1 hn.out.2 (by omega) (by omega)
            by_cases hbig : (4294967296 : Int) ≤ x
            · go_wp2
              go_meet
              have := hend.out
              exact ⟨by have : (x : Int) - 1 = (Q0 : Int) := by omega
                        rw [this], rfl⟩
            · have hc' : (4294967296 : Int) * z + e0 < d := by have := HC.out; omega
              go_wp2
              go_meet
              have := hend.out
              exact ⟨by have : (x : Int) - 1 = (Q0 : Int) := by omega
                        rw [this], rfl⟩
          · by_cases hbig : (4294967296 : Int) ≤ x
            · go_wp2
              go_round
              case rel => exact ⟨x - 1, z + y1, by go_num, by go_num, by omega, by omega, hn⟩
              case measure => simp [intOf]; omega
            · have hc' : (4294967296 : Int) * z + e0 < d := by have := HC.out; omega
              go_wp2
              go_round
              case rel => exact ⟨x - 1, z + y1, by go_num, by go_num, by omega, by omega, hn⟩
              case measure => simp [intOf]; omega
        · have hbig : ¬ (4294967296 : Int) ≤ x := by omega
          have hc' : ¬ (4294967296 : Int) * z + e0 < d := by omega
          have hend : Hid (x = Q0) := N0.out.stop x z hxz.out.1 hxz.out.2 (by rw [HD.out]; omega)
          clear hc
          go_wp2
          go_meet
          have := hend.out
          exact ⟨by rw [this], rfl⟩
    case rest =>
      obtain ⟨rfl, rfl⟩ := hcut
      go_wp2
      go_ret2
      refine ⟨?_, rfl⟩
      have f1 : ((Q1 * 4294967296 + Q0 : Nat) : Int) = (Q1 : Int) * 4294967296 + (Q0 : Int) := by omega
      have f2 : ((R0 / 2 ^ (64 - n) : Nat) : Int) = (R0 : Int) / 2 ^ (64 - n) := by rw [Int.natCast_ediv, Int.natCast_pow]; rfl
      rw [f1, f2]
      rfl

theorem wrap_step (U e1 Q Y R : Nat) (hR : R < 18446744073709551616) (h : Q * Y + R = U * 4294967296 + e1) :
    ∃ a1 a2 a3 : Nat, IntKind.u64.wrap ((U : Int) * 4294967296) = (a1 : Int) ∧ IntKind.u64.wrap ((a1 : Int) + (e1 : Int)) = (a2 : Int) ∧ IntKind.u64.wrap ((Q : Int) * (Y : Int)) = (a3 : Int) ∧ IntKind.u64.wrap ((a2 : Int) - (a3 : Int)) = (R : Int) := by
  refine ⟨U * 4294967296 % 18446744073709551616, (U * 4294967296 % 18446744073709551616 + e1) % 18446744073709551616, Q * Y % 18446744073709551616, ?_, ?_, ?_, ?_⟩
  · rw [IntKind.wrap_u64]; omega
  · rw [IntKind.wrap_u64]; omega
  · rw [nat_mul]; exact wrapu_mod _
  · generalize Q * Y = P at h ⊢
    rw [IntKind.wrap_u64]; omega

theorem div_step (U y1 Y y0 u Q : Nat) (N : Knuth.Norm Y y1 y0 U u Q) : ∃ q p r : Nat, (U : Int) / (y1 : Int) = (q : Int) ∧ q ≤ 4294967297 ∧ (q : Int) * (y1 : Int) = (p : Int) ∧ (U : Int) - (p : Int) = (r : Int) ∧ r < 4294967296 ∧ p ≤ U ∧ Hid (q * y1 + r = U ∧ Q ≤ q) := by
  have h := Nat.div_add_mod' U y1
  have hr := Nat.mod_lt U (show y1 > 0 by have := N.b1; omega)
  obtain ⟨i1, i2⟩ := N.init (U / y1) (U % y1) rfl h hr
  have b2 := N.b2
  refine ⟨U / y1, U / y1 * y1, U % y1, (Int.natCast_ediv U y1).symm, i2, nat_mul _ _, ?_, by omega, by omega, h, i1⟩
  generalize U / y1 * y1 = p at h ⊢
  omega

set_option maxHeartbeats 400000 in
theorem div64_high (hi lo y : Nat) (hhi : 0 < hi) (h1 : hi < y) (hy : y < 9223372036854775808) (hlo : lo < 18446744073709551616) (w : World) :
    Calls Try.prog 39 #[.int .u64 hi, .int .u64 lo, .int .u64 y] w fun e w' => e = .returned (.tuple #[.int .u64 (((hi * 18446744073709551616 + lo) / y : Nat) : Int), .int .u64 (((hi * 18446744073709551616 + lo) % y : Nat) : Int)]) ∧ w = w' := by
  have hb := Lib.bitLen_le y 63 (by omega) (by omega)
  have L := fun w => lead_any y w (by omega) (by omega)
  rw [Int.toNat_natCast] at L
  obtain ⟨g1, g2⟩ := bitLen_pow y (by omega)
  have g2 := g2 (by omega)
  obtain ⟨n, hn⟩ : ∃ n, Lib.bitLen y = n := ⟨_, rfl⟩
  rw [hn] at hb L g1 g2
  clear hn
  have hn1 : 1 ≤ n := by
    apply Nat.one_le_iff_ne_zero.2
    intro h0
    subst h0
    simp at g1
    omega
  obtain ⟨s1, s2, s3, s4, s5, s6⟩ := Knuth.shifted hi lo y n hn1 hb g1 g2 h1 hlo
  have pP : 0 < 2 ^ (64 - n) := Nat.pow_pos (by omega)
  have ep : ∀ a : Nat, (a : Int) * 2 ^ (64 - n) = ((a * 2 ^ (64 - n) : Nat) : Int) := fun a => by rw [Int.natCast_mul, Int.natCast_pow]; rfl
  have eY : IntKind.u64.wrap ((y : Int) * 2 ^ (64 - n)) = ((y * 2 ^ (64 - n) : Nat) : Int) := by rw [ep, wrapu_in _ s2]
  have eU : bits .or .u64 (IntKind.u64.wrap ((hi : Int) * 2 ^ (64 - n))) ((lo : Int) / 2 ^ (64 - (64 - n))) = ((hi * 2 ^ (64 - n) + lo / 2 ^ n : Nat) : Int) := by
    have e2 : (lo : Int) / 2 ^ (64 - (64 - n)) = ((lo / 2 ^ n : Nat) : Int) := by rw [show 64 - (64 - n) = n by omega, Int.natCast_ediv, Int.natCast_pow]; rfl
    rw [ep, wrapu_in _ s3, e2]
    exact or_sum hi (lo / 2 ^ n) (64 - n) (by omega) s4
  have eE : IntKind.u64.wrap ((lo : Int) * 2 ^ (64 - n)) = ((lo * 2 ^ (64 - n) % 18446744073709551616 : Nat) : Int) := by rw [ep, wrapu_mod]
  have bE : lo * 2 ^ (64 - n) % 18446744073709551616 < 18446744073709551616 := Nat.mod_lt _ (by omega)
  have hback := Knuth.back (hi * 18446744073709551616 + lo) y (2 ^ (64 - n)) (hi * 2 ^ (64 - n) + lo / 2 ^ n) (lo * 2 ^ (64 - n) % 18446744073709551616)
  have hy0 : 0 < y := by omega
  revert hback eY eU eE bE s5 s1 s2
  generalize hiU : hi * 2 ^ (64 - n) + lo / 2 ^ n = U
  generalize loE : lo * 2 ^ (64 - n) % 18446744073709551616 = E
  generalize yY : y * 2 ^ (64 - n) = Y
  intro s1 s2 s5 eY eU eE bE hback
  have N1 := Knuth.Norm.mk' Y U (E / 4294967296) s1 s2 s5 (by omega)
  obtain ⟨R1, r1, r2⟩ := N1.rest
  have N0 := Knuth.Norm.mk' Y R1 (E % 4294967296) s1 s2 r1 (by omega)
  obtain ⟨R0, t1, t2⟩ := N0.rest
  obtain ⟨a1, a2, a3, l1, l2, l3, l4⟩ := wrap_step U (E / 4294967296) _ Y R1 (by omega) r2
  obtain ⟨b1, b2, b3, m1, m2, m3, m4⟩ := wrap_step R1 (E % 4294967296) _ Y R0 (by omega) t2
  obtain ⟨q, p, r, k1, bq, k2, k3, br, bp, hq⟩ := div_step U _ Y _ _ _ N1
  obtain ⟨q', p', r', k1', bq', k2', k3', br', bp', hq'⟩ := div_step R1 _ Y _ _ _ N0
  obtain ⟨z1, z2⟩ := hback _ R1 _ R0 pP hy0 (by rw [s6, hiU, loE]) r2 t2 t1
  rw [← z1, ← z2]
  exact div64_core hi lo y n Y (Y / 4294967296) (Y % 4294967296) U E (E / 4294967296) (E % 4294967296) _ R1 _ R0 q p r q' p' r' a1 a2 a3 b1 b2 b3 w hhi h1 hy hb L eY s2 (hi32 Y) (low32 Y s2) eU eE bE (hi32 E) (low32 E bE) N1 N0
    k1 bq k2 k3 br bp hq l1 l2 l3 l4 k1' bq' k2' k3' br' bp' hq' m1 m2 m3 m4 (by omega)

end Go.Proofs.Ytaekofoonekkkaa
