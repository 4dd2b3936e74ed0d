/-
  What TrailingZeros64 of math/bits returns (under its table as the initialiser lays it), and what Gcd of package num and Gcd of the reference return, for all integers that fit 64 bits.
-/
import Derived.Test.YtcfdinfnahkanaaDoorNg
import Derived.Test.YtcfdinfnahkanaaDoorNk
import Derived.Deep.RegionWith
namespace Go.Proofs.YtcfdinfnahkanaaDoor
open Go.RowKit

/-- The table lies in its variable. -/
structure Tab (w : World) : Prop where
  old : 2 < w.heap.size
  at_ : ∀ j, j < 64 → w.cell? ⟨2, j, none⟩ = some (.int .u8 ((Lib.deBruijn64tab.getD j 0 : Nat) : Int))
theorem Tab.grown {w w' : World} (h : Tab w) (hg : Grown w w') : Tab w' :=
  ⟨Nat.lt_of_lt_of_le h.old hg.2.2, fun j hj => (hg.1.cell h.old (fun f => f)).trans (h.at_ j hj)⟩

set_option maxHeartbeats 400000 in
theorem tz_core (x k idx : Nat) (w : World) (hx0 : ((x : Int) == 0) = false)
    (key : IntKind.u64.wrap (bits BinOp.and IntKind.u64 (x : Int) (IntKind.u64.wrap (-(x : Int))) * 285870213051353865) / 288230376151711744 = (idx : Int))
    (hi : idx < 64) (hcell : w.cell? ⟨2, idx, none⟩ = some (.int .u8 k)) (hk : k < 64) :
    Calls Tryd.prog 41 #[.int .u64 x] w fun e w' => e = .returned (.int .i64 k) ∧ w = w' := by
  go_enter Tryd.func41, Tryd.ntmps41
  go_wp2_with (simp only [key])
  go_ret
  exact ⟨rfl, rfl⟩

theorem tz_any (x : Nat) (w : World) (h0 : x ≠ 0) (hx : x < 18446744073709551616) (hT : Tab w) :
    Calls Tryd.prog 41 #[.int .u64 x] w fun e w' => e = .returned (.int .i64 ((Lib.ctz 64 x : Nat) : Int)) ∧ w = w' := by
  obtain ⟨l1, l2⟩ := Lib.lowest_bit 64 x h0 hx
  obtain ⟨d1, d2⟩ := Lib.deBruijn64_at _ l2
  have c := hT.at_ _ d1
  rw [d2] at c
  refine tz_core x _ _ w (by simp; omega) ?_ d1 c l2
  have e1 : IntKind.u64.wrap (-(x : Int)) = ((18446744073709551616 - x : Nat) : Int) := by rw [IntKind.wrap_u64]; omega
  rw [e1, bits_and_u64_nat x _ hx (by omega), show x &&& (18446744073709551616 - x) = 2 ^ Lib.ctz 64 x from l1]
  generalize 2 ^ Lib.ctz 64 x = p
  rw [IntKind.wrap_u64]
  omega

def gcdV (a b : Int) : Int := if inB a && inB b then ((Nat.gcd a.natAbs b.natAbs : Nat) : Int) else 0

set_option maxHeartbeats 1000000 in
theorem gcd_any (a b : Int) (w : World) (hT : Tab w) :
    Calls Tryd.prog 27 #[.int .i64 a, .int .i64 b] w fun e w' => e = .returned (.int .i64 (gcdV a b)) ∧ Grown w w' := by
  rcases bcase (inB a && inB b) with h | h
  · have e0 : gcdV a b = ((Nat.gcd a.natAbs b.natAbs : Nat) : Int) := by unfold gcdV; rw [if_pos h]
    rw [e0]
    have h' := h
    rw [Bool.and_eq_true, inB_iff, inB_iff] at h'
    obtain ⟨⟨ha1, ha2⟩, hb1, hb2⟩ := h'
    have hT2 : Tab (w.alloc (.cells #[.int .i64 a, .int .i64 b] 3)) := hT.grown ((Grown.refl _).alloc _ _)
    have MA := fun w => mag_any a w ha1 ha2
    have MB := fun w => mag_any b w hb1 hb2
    have xA : a.natAbs ≤ 1125899906842624 := by omega
    have xB : b.natAbs ≤ 1125899906842624 := by omega
    obtain ⟨x, hx⟩ : ∃ x, a.natAbs = x := ⟨_, rfl⟩
    obtain ⟨y, hy⟩ : ∃ y, b.natAbs = y := ⟨_, rfl⟩
    rw [hx] at MA xA
    rw [hy] at MB xB
    rw [hx, hy]
    have bA : (x : Int) ≤ 1125899906842624 := by omega
    have bB : (y : Int) ≤ 1125899906842624 := by omega
    clear hx hy xA xB e0
    have HMA := Lib.hid MA; clear MA
    have HMB := Lib.hid MB; clear MB
    have HT2 := Lib.hid hT2; clear hT2
    have HH := Lib.hid h; clear h
    have HI : Hid (∀ w : World, Calls Tryd.prog 33 #[.slice (some ⟨w.heap.size, 0, none⟩) 2 2] (w.alloc (.cells #[.int .i64 a, .int .i64 b] 3)) fun e w' => e = .returned (.bool true) ∧ (w.alloc (.cells #[.int .i64 a, .int .i64 b] 3)) = w') := fun w => by
      have := inRange_two a b w
      rw [HH.out] at this; exact this
    rcases Nat.eq_zero_or_pos x with hx0 | hx0
    · have dx : ((x : Int) == 0) = true := by simp; omega
      have dz : Hid ((y : Int) = ((Nat.gcd x y : Nat) : Int)) := by unfold Hid; rw [hx0, Nat.gcd_zero_left]
      have dw : Hid ((x : Int) = 0) := by unfold Hid; omega
      clear hx0
      go_enter Tryd.func27, Tryd.ntmps27
      go_wp2
      go_step3
      go_wp2_with (first | (go_at_call 33; refine (HI.out _).mono ?_; rintro e w' ⟨rfl, rfl⟩) | (go_at_call_of 38 (Value.int .i64 a); refine (HMA.out _).mono ?_; rintro e w' ⟨rfl, rfl⟩) | (go_at_call_of 38 (Value.int .i64 b); refine (HMB.out _).mono ?_; rintro e w' ⟨rfl, rfl⟩))
      rw [Exit.noGoto_ret]
      go_ret
      have := dz.out
      have := dw.out
      exact ⟨ret_int (by omega), (Grown.refl _).alloc _ _⟩
    · have dx : ((x : Int) == 0) = false := by simp; omega
      rcases Nat.eq_zero_or_pos y with hy0 | hy0
      · have dy : ((y : Int) == 0) = true := by simp; omega
        have dz : Hid ((x : Int) = ((Nat.gcd x y : Nat) : Int)) := by unfold Hid; rw [hy0, Nat.gcd_zero_right]
        have dw : Hid ((y : Int) = 0) := by unfold Hid; omega
        clear hy0 hx0
        go_enter Tryd.func27, Tryd.ntmps27
        go_wp2
        go_step3
        go_wp2_with (first | (go_at_call 33; refine (HI.out _).mono ?_; rintro e w' ⟨rfl, rfl⟩) | (go_at_call_of 38 (Value.int .i64 a); refine (HMA.out _).mono ?_; rintro e w' ⟨rfl, rfl⟩) | (go_at_call_of 38 (Value.int .i64 b); refine (HMB.out _).mono ?_; rintro e w' ⟨rfl, rfl⟩))
        rw [Exit.noGoto_ret]
        go_ret
        have := dz.out
        have := dw.out
        exact ⟨ret_int (by omega), (Grown.refl _).alloc _ _⟩
      · have dy : ((y : Int) == 0) = false := by simp; omega
        obtain ⟨z1, z2, z3⟩ := Binary.parts x y (by omega) (by omega) (by omega) (by omega)
        obtain ⟨c1, m, hm⟩ := Binary.ctz_spec x (by omega) (by omega)
        have hor : bits .or .u64 (x : Int) (y : Int) = ((x ||| y : Nat) : Int) := bits_or_u64_nat x y (by omega) (by omega)
        have TZ := fun w => tz_any (x ||| y) w z1 z2
        have TX := fun w => tz_any x w (by omega) (by omega)
        have c2 := (Binary.ctz_spec (x ||| y) z1 z2).1
        have hs := Binary.shift_odd x _ m hm
        rw [hs] at z3
        obtain ⟨z, hz⟩ : ∃ z, (x ||| y) = z := ⟨_, rfl⟩
        rw [hz] at hor TZ c2 z3
        obtain ⟨k, hk⟩ : ∃ k, Lib.ctz 64 x = k := ⟨_, rfl⟩
        obtain ⟨t, ht⟩ : ∃ t, Lib.ctz 64 z = t := ⟨_, rfl⟩
        rw [hk] at TX c1 hm hs
        rw [ht] at TZ c2 z3
        have hso : (x : Int) / 2 ^ k = ((2 * m + 1 : Nat) : Int) := by rw [← hs, Int.natCast_ediv, Int.natCast_pow]; rfl
        have hle : 2 * m + 1 ≤ x := by rw [← hs]; exact Nat.div_le_self _ _
        obtain ⟨u, hu⟩ : ∃ u, 2 * m + 1 = u := ⟨_, rfl⟩
        rw [hu] at z3 hso hle
        have hodd : Hid (u % 2 = 1) := by unfold Hid; omega
        have hg : Hid (Nat.gcd x y = Nat.gcd u y * 2 ^ t) := z3
        have bu : (u : Int) ≤ 1125899906842624 := by omega
        clear z1 z2 z3 hm hs hz hk ht hu
        have HTZ := Lib.hid TZ; clear TZ
        have HTX := Lib.hid TX; clear TX
        have hy1 : Hid (y ≠ 0) := by unfold Hid; omega
        have hx1 : Hid (0 < x) := hx0
        clear hx0 hy0 hle
        go_enter Tryd.func27, Tryd.ntmps27
        go_wp2
        go_step3
        go_upto_region 8 with (first | (go_at_call 33; refine (HI.out _).mono ?_; rintro e w' ⟨rfl, rfl⟩) | (go_at_call_of 38 (Value.int .i64 a); refine (HMA.out _).mono ?_; rintro e w' ⟨rfl, rfl⟩) | (go_at_call_of 38 (Value.int .i64 b); refine (HMB.out _).mono ?_; rintro e w' ⟨rfl, rfl⟩) | (go_at_call_of 41 (Value.int .u64 z); refine (HTZ.out _ HT2.out).mono ?_; rintro e w' ⟨rfl, rfl⟩) | (go_at_call_of 41 (Value.int .u64 x); refine (HTX.out _ HT2.out).mono ?_; rintro e w' ⟨rfl, rfl⟩))
        go_step3
        go_wp2_with fail
        go_loop [5, 6] (fun p q => ∃ U Y : Nat, p = .int .u64 U ∧ q = .int .u64 Y ∧ (U : Int) ≤ 1125899906842624 ∧ (Y : Int) ≤ 1125899906842624 ∧ Hid (U % 2 = 1 ∧ Y ≠ 0 ∧ Nat.gcd U Y = Nat.gcd u y)) (fun p q => (intOf p).toNat + (intOf q).toNat)
        case atStart => exact ⟨u, y, rfl, rfl, bu, bB, hodd.out, hy1.out, rfl⟩
        case round =>
          obtain ⟨U, Y, rfl, rfl, bU, bY, hinv⟩ := hrel
          obtain ⟨o1, o2, o3⟩ := hinv.out
          obtain ⟨v1, v2, v3⟩ := Binary.round U Y _ o1 o2 (by omega) o3
          have TY := fun w => tz_any Y w o2 (by omega)
          have ck := (Binary.ctz_spec Y o2 (by omega)).1
          obtain ⟨s, hs⟩ : ∃ s, Lib.ctz 64 Y = s := ⟨_, rfl⟩
          rw [hs] at TY ck v1 v2 v3
          obtain ⟨V, hV⟩ : ∃ V, Y / 2 ^ s = V := ⟨_, rfl⟩
          have hsv : (Y : Int) / 2 ^ s = (V : Int) := by rw [← hV, Int.natCast_ediv, Int.natCast_pow]; rfl
          rw [hV] at v1 v2 v3
          clear hs hV
          have HTY := Lib.hid TY; clear TY
          have bV : (V : Int) ≤ Y := by omega
          have hU0 : (1 : Int) ≤ U := by omega
          have hV0 : (1 : Int) ≤ V := by omega
          have hv3 := Lib.hid v3; clear v3
          have hv1 := Lib.hid v1; clear v1 v2 o1 o3
          have ho2 := Lib.hid o2; clear o2
          rcases Nat.lt_trichotomy U V with hlt | heq | hgt
          · have d1 : ¬ (U : Int) = V := by omega
            have d2 : ¬ (V : Int) < U := by omega
            have H := Lib.hid hlt; clear hlt
            go_wp2_with (go_at_call_of 41 (Value.int .u64 Y); refine (HTY.out _ HT2.out).mono ?_; rintro e w' ⟨rfl, rfl⟩)
            go_round
            case rel => exact ⟨U, V - U, rfl, by go_num, bU, by omega, hinv.out.1, by have := H.out; omega, Binary.gcd_up U V _ (Nat.le_of_lt H.out) hv3.out⟩
            case measure => simp [intOf]; have := H.out; omega
          · have hF : U * 2 ^ t = Nat.gcd x y := by
              have := hv3.out
              rw [← heq, Nat.gcd_self] at this
              rw [hg.out, this]
            have hlx : Nat.gcd x y ≤ x := Nat.gcd_le_left y hx1.out
            have bF : ((Nat.gcd x y : Nat) : Int) ≤ 1125899906842624 := by omega
            have hfin : IntKind.u64.wrap ((U : Int) * 2 ^ t) = ((Nat.gcd x y : Nat) : Int) := by
              have : (U : Int) * 2 ^ t = ((U * 2 ^ t : Nat) : Int) := by rw [Int.natCast_mul, Int.natCast_pow]; rfl
              rw [this, hF, wrapu_in _ (by omega)]
            obtain ⟨F, hFF⟩ : ∃ F, Nat.gcd x y = F := ⟨_, rfl⟩
            rw [hFF] at bF hfin
            have EF := Lib.hid hFF; clear hFF hF hlx hv3
            subst heq
            go_wp2_with (go_at_call_of 41 (Value.int .u64 Y); refine (HTY.out _ HT2.out).mono ?_; rintro e w' ⟨rfl, rfl⟩)
            rw [Exit.noGoto_ret]
            go_ret
            exact ⟨ret_int (by rw [EF.out]), (Grown.refl _).alloc _ _⟩
          · have d1 : ¬ (U : Int) = V := by omega
            have d2 : (V : Int) < U := by omega
            have H := Lib.hid hgt; clear hgt
            go_wp2_with (go_at_call_of 41 (Value.int .u64 Y); refine (HTY.out _ HT2.out).mono ?_; rintro e w' ⟨rfl, rfl⟩)
            go_round
            case rel => exact ⟨V, U - V, rfl, by go_num, by omega, by omega, hv1.out, by have := H.out; omega, Binary.gcd_down U V _ (Nat.le_of_lt H.out) hv3.out⟩
            case measure => simp [intOf]; omega
  · have e0 : gcdV a b = 0 := by unfold gcdV; rw [if_neg (by rw [h]; simp)]
    rw [e0]
    go_enter Tryd.func27, Tryd.ntmps27
    go_wp2
    go_step3
    go_wp2_with (go_at_call 33; refine (inRange_two _ _ _).mono ?_; rintro e w' ⟨rfl, rfl⟩)
    rw [Exit.noGoto_ret]
    go_ret
    exact ⟨rfl, (Grown.refl _).alloc _ _⟩

end Go.Proofs.YtcfdinfnahkanaaDoor
