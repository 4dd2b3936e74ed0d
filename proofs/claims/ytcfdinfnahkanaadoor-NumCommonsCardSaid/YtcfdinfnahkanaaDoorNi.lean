/-
  What Gcd of the reference of layer 1 returns, and what the closure of Lcm of package num does with its captured variable.
-/
import Derived.Test.YtcfdinfnahkanaaDoorNh
import Derived.Deep.RegionHeld3
namespace Go.Proofs.YtcfdinfnahkanaaDoor
open Go.RowKit

set_option maxHeartbeats 1000000 in
theorem rgcd_any (a b : Int) (w : World) :
    Calls Tryd.prog 28 #[.int .i64 a, .int .i64 b] w fun e w' => e = .returned (.int .i64 (gcdV a b)) ∧ Grown w w' := by
  rcases bcase (inB a) with ha | ha
  · rcases bcase (inB b) with hb | hb
    · have e0 : gcdV a b = ((Nat.gcd a.natAbs b.natAbs : Nat) : Int) := by unfold gcdV; rw [if_pos (by rw [ha, hb]; rfl)]
      rw [e0]
      clear e0
      obtain ⟨ha1, ha2⟩ := inB_iff.1 ha
      obtain ⟨hb1, hb2⟩ := inB_iff.1 hb
      have MA := fun w => rabs_any a w ha1 ha2
      have MB := fun w => rabs_any b w hb1 hb2
      have xA : a.natAbs ≤ 1125899906842624 := by omega
      have xB : b.natAbs ≤ 1125899906842624 := by omega
      obtain ⟨x, hx⟩ : ∃ x, a.natAbs = x := ⟨_, rfl⟩
      obtain ⟨y, hy⟩ : ∃ y, b.natAbs = y := ⟨_, rfl⟩
      rw [hx] at MA xA
      rw [hy] at MB xB
      rw [hx, hy]
      have bA : (x : Int) ≤ 1125899906842624 := by omega
      have bB : (y : Int) ≤ 1125899906842624 := by omega
      clear hx hy xA xB
      have HMA := Lib.hid MA; clear MA
      have HMB := Lib.hid MB; clear MB
      go_enter Tryd.func28, Tryd.ntmps28
      go_wp2_with (first | (go_at_call 35; refine (rIn_any _ _).mono ?_; rintro e w' ⟨rfl, rfl⟩) | (go_at_call_of 40 (Value.int .i64 a); refine (HMA.out _).mono ?_; rintro e w' ⟨rfl, rfl⟩) | (go_at_call_of 40 (Value.int .i64 b); refine (HMB.out _).mono ?_; rintro e w' ⟨rfl, rfl⟩))
      go_loopw [0, 1] (fun p q wr => ∃ X Y : Nat, p = .int .i64 X ∧ q = .int .i64 Y ∧ (X : Int) ≤ 1125899906842624 ∧ (Y : Int) ≤ 1125899906842624 ∧ Hid (Nat.gcd X Y = Nat.gcd x y) ∧ Hid (Grown w wr)) (fun _ q _ => (intOf q).toNat)
      case atStart => exact ⟨x, y, rfl, rfl, bA, bB, rfl, Grown.refl w⟩
      case round =>
        obtain ⟨X, Y, rfl, rfl, bX, bY, hinv, hw⟩ := hrel
        rcases Nat.eq_zero_or_pos Y with h0 | h0
        · have hg : Hid (X = Nat.gcd x y) := by have := hinv.out; rw [h0, Nat.gcd_zero_right] at this; exact this
          have d : ¬ (0 : Int) < Y := by omega
          clear h0
          go_wp2
          go_ret
          exact ⟨ret_int (by rw [← hg.out]), hw.out⟩
        · have d : (0 : Int) < Y := by omega
          have hm : (X : Int) % (Y : Int) = ((X % Y : Nat) : Int) := (Int.natCast_emod X Y).symm
          have hm1 : X % Y < Y := Nat.mod_lt _ h0
          have hg : Nat.gcd Y (X % Y) = Nat.gcd x y := by rw [← hinv.out, Nat.gcd_comm X Y, Nat.gcd_rec Y X, Nat.gcd_comm]
          obtain ⟨Z, hZ⟩ : ∃ Z, X % Y = Z := ⟨_, rfl⟩
          rw [hZ] at hm hm1 hg
          clear hZ h0
          have hg' := Lib.hid hg; clear hg
          have bZ : (Z : Int) < Y := by omega
          clear hm1
          go_wp2
          go_quiet (fail)
          go_wp2
          go_roundw
          case rel => exact ⟨Y, Z, rfl, by rw [hm], bY, by omega, hg', grown_trans hw.out (grown_drewN _ _)⟩
          case measure => simp [intOf]; omega
    · have hd : gcdV a b = 0 := by unfold gcdV; rw [ha, hb]; rfl
      rw [hd]
      clear hd
      go_enter Tryd.func28, Tryd.ntmps28
      go_wp2_with (go_at_call 35; refine (rIn_any _ _).mono ?_; rintro e w' ⟨rfl, rfl⟩)
      go_ret
      exact ⟨rfl, Grown.refl _⟩
  · have hd : gcdV a b = 0 := by unfold gcdV; rw [ha]; rfl
    rw [hd]
    clear hd
    go_enter Tryd.func28, Tryd.ntmps28
    go_wp2_with (go_at_call 35; refine (rIn_any _ _).mono ?_; rintro e w' ⟨rfl, rfl⟩)
    go_ret
    exact ⟨rfl, Grown.refl _⟩

theorem grown_old {a b : World} (h : Grown a b) {p : Addr} (hp : p.block < a.heap.size) : b.heap[p.block]? = a.heap[p.block]? :=
  h.1.block hp (fun _ f => f.elim)
theorem grown_cell {a b : World} (h : Grown a b) {p : Addr} (hp : p.block < a.heap.size) : b.cell? p = a.cell? p :=
  World.cell?_of_block (grown_old h hp)

set_option maxHeartbeats 400000 in
theorem incl_small (n : Int) (a : Addr) (w : World) (hn : n < 1) :
    Calls Tryd.prog 42 #[.int .i64 n, .pointer (some a)] w fun e w' => e = .returned (.bool false) ∧ w = w' := by
  go_enter Tryd.func42, Tryd.ntmps42
  go_wp2
  go_ret
  exact ⟨rfl, rfl⟩

theorem keep_first {w : World} {a : Addr} {v : Value} (h : w.cell? a = some v) : w.drew.cell? a = some v ∧ Grown w w.drew := ⟨h, (Grown.refl w).drew⟩
theorem keep_step {w w1 w2 : World} {a : Addr} {v : Value} (h : w1.cell? a = some v ∧ Grown w w1) (ha : Hid (a.block < w.heap.size)) (g : Grown w1 w2) : w2.cell? a = some v ∧ Grown w w2 :=
  ⟨(grown_cell g (Nat.lt_of_lt_of_le ha.out h.2.2.2)).trans h.1, grown_trans h.2 g⟩

set_option maxHeartbeats 1000000 in
theorem incl_core (n acc q m : Int) (c : Bool) (a : Addr) (w : World) (hn : 1 ≤ n) (hn2 : n ≤ 1125899906842624)
    (hg : ∀ w, Tab w → Calls Tryd.prog 27 #[.int .i64 acc, .int .i64 n] w fun e w' => e = .returned (.int .i64 m) ∧ Grown w w') (hm : 1 ≤ m) (hq : n / m = q) (hq1 : 1 ≤ q) (hq2 : q ≤ 1125899906842624)
    (hc : w.cell? a = some (.int .i64 acc)) (ha : a.block < w.heap.size) (hf : w.frozen? a = false) (hT : Tab w)
    (v : Int) (hv : ∀ w, Calls Tryd.prog 16 #[.int .i64 acc, .int .i64 q] w fun e w' => e = .returned (.tuple #[.int .i64 v, .bool c]) ∧ Grown w w') :
    Calls Tryd.prog 42 #[.int .i64 n, .pointer (some a)] w fun e w' => e = .returned (.bool c) ∧ ∃ w1, Grown w w1 ∧ w1.setCell a (.int .i64 v) = w' := by
  have HG := Lib.hid hg; clear hg
  have HV := Lib.hid hv; clear hv
  have HT := Lib.hid hT; clear hT
  have HA := Lib.hid ha; clear ha
  have HF := Lib.hid hf; clear hf
  have hm0 : ¬ m = 0 := by omega
  have hq0 : n.tdiv m = q := by rw [← hq, Int.tdiv_eq_ediv_of_nonneg (by omega)]
  have hqw : IntKind.i64.wrap q = q := IntWalk.i64_in _ (by omega)
  go_enter Tryd.func42, Tryd.ntmps42
  go_upto_region 3 with fail
  go_cut [4, 5] (fun s4 s5 wx => s4 = .int .i64 v ∧ s5 = .bool c ∧ Hid (Grown w wx))
  case first =>
    go_region_held3 (fun w' => w'.cell? a = some (.int .i64 acc) ∧ Grown w w') (first | exact keep_first hc | assumption | (refine keep_step ?_ HA hgr; assumption)) (first | (go_at_call 27; have hk : Grown w _ := And.right (by assumption); refine (HG.out _ (HT.out.grown hk)).mono ?_; rintro e w' ⟨rfl, hgr⟩) | (go_at_call 16; refine (HV.out _).mono ?_; rintro e w' ⟨rfl, hgr⟩))
    all_goals go_wp2_with fail
    all_goals go_meet
    all_goals exact ⟨rfl, rfl, And.right (by assumption)⟩
  case rest =>
    obtain ⟨rfl, rfl, hw⟩ := hcut
    have hf2 : wc.frozen? a = false := (hw.out.2.1 a).trans HF.out
    have hc2 : wc.cell? a = some (.int .i64 acc) := (grown_cell hw.out HA.out).trans hc
    go_wp2
    go_ret
    exact ⟨rfl, _, hw.out, rfl⟩

end Go.Proofs.YtcfdinfnahkanaaDoor
