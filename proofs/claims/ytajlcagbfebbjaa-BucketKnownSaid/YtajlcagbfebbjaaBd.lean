/-
  What the iterator of package bucket yields, and what overdrawn returns.
-/
import Derived.Test.YtajlcagbfebbjaaBc
import Derived.RangeFuncBox
import Derived.RangeFuncLeaves
import Derived.RangeFuncWrites
import Derived.Shelf.Abstract
import Derived.OwnWalkIn
import Derived.TacticsInMore
import Derived.LoopNIn
import Derived.LoopIn
namespace Go.Proofs.Ytajlcagbfebbjaa
open Go.RowKit Go.Shelf

attribute [local go_sem] Oper.semAt_some

/-- The level behind arrival k. -/
def lv (xs : List (Int × Int)) (R F : Int) (k : Nat) : Int := Bk.lev (fs xs) (sn xs) R 1048576 F k
/-- The level before arrival k. -/
def lvp (xs : List (Int × Int)) (R F : Int) : Nat → Int
  | 0 => F
  | k + 1 => lv xs R F k
theorem lv_step {xs : List (Int × Int)} {R F : Int} {k : Nat} (hR : 0 ≤ R) (h : okAt xs k) :
    (F ≤ lvp xs R F k + R * (fs xs k - prev xs k) → lv xs R F k = F - sn xs k * 1048576) ∧ (¬ F ≤ lvp xs R F k + R * (fs xs k - prev xs k) → lv xs R F k = lvp xs R F k + R * (fs xs k - prev xs k) - sn xs k * 1048576) := by
  cases k with
  | zero =>
    have hp : 0 ≤ R * (fs xs 0 - prev xs 0) := Int.mul_nonneg hR (by unfold okAt at h; omega)
    refine ⟨fun _ => rfl, fun hn => ?_⟩
    have : lvp xs R F 0 = F := rfl
    rw [this] at hn
    omega
  | succ k =>
    have e : lv xs R F (k + 1) = min F (lv xs R F k + R * (fs xs (k + 1) - fs xs k)) - sn xs (k + 1) * 1048576 := rfl
    have e1 : lvp xs R F (k + 1) = lv xs R F k := rfl
    have e2 : prev xs (k + 1) = fs xs k := rfl
    rw [e1, e2, e]
    generalize R * (fs xs (k + 1) - fs xs k) = D
    constructor
    · intro hh; rw [Int.min_eq_left hh]
    · intro hh; rw [Int.min_eq_right (by omega)]
theorem lvp_bd {xs : List (Int × Int)} {R F : Int} {k : Nat} (hR : 0 ≤ R) (hF : 0 ≤ F) (h : ∀ j, j < k → okAt xs j) : -((k : Int) * 1099511627776) ≤ lvp xs R F k ∧ lvp xs R F k ≤ F := by
  induction k with
  | zero => have e : lvp xs R F 0 = F := rfl; rw [e]; omega
  | succ k ih =>
    have h1 := ih (fun j hj => h j (by omega))
    have h2 := h k (by omega)
    have h3 := lv_step (F := F) hR h2
    unfold okAt at h2
    have hp : 0 ≤ R * (fs xs k - prev xs k) := Int.mul_nonneg hR (by omega)
    have e1 : lvp xs R F (k + 1) = lv xs R F k := rfl
    rw [e1]
    generalize R * (fs xs k - prev xs k) = D at h3 hp
    by_cases hc : F ≤ lvp xs R F k + D
    · rw [h3.1 hc]; omega
    · rw [h3.2 hc]; omega

/-- What has come when k rounds are over. -/
def upto {α : Type} (f : Nat → α) (k : Nat) : List α := (List.range k).map f
theorem upto_succ {α : Type} (f : Nat → α) (k : Nat) : upto f (k + 1) = upto f k ++ [f k] := by simp [upto, List.range_succ]
theorem upto_length {α : Type} (f : Nat → α) (k : Nat) : (upto f k).length = k := by simp [upto]

set_option maxRecDepth 100000 in
set_option maxHeartbeats 2000000 in
/-- The closure that levels returns, for every loop body that keeps what lay below n₀. -/
theorem levels1_in (F : Fence) (n : Nat) (h7 : F.fn 31) (hro : F.round = none) (hn : 1 ≤ n) (l Bb Bs n₀ : Nat) (A : Option Addr) (cap : Nat) (xs : List (Int × Int)) (u R : Int) (hu : 1 ≤ u ∧ u ≤ 1048576) (hR : 1 ≤ R ∧ R ≤ 2097152)
    (hx : xs.length ≤ 200 ∧ ∀ k, k < xs.length → okAt xs k) (J Jx : List (Nat × Int) → World → Prop)
    (hY : ∀ pre x W, J pre W → pre.length < xs.length → YieldAt F (n - 1) Try.prog l #[.int .i64 (x.1 : Int), .int .i64 x.2] W fun e W' =>
      (e = .returned (.bool true) ∧ J (pre ++ [x]) W' ∧ Below n₀ W W') ∨ (e = .returned (.bool false) ∧ Jx (pre ++ [x]) W'))
    (W : World) (hJal : ∀ pre (W1 : World) o, Below n₀ W W1 → J pre W1 → J pre (W1.alloc o)) (hn0 : n₀ ≤ W.heap.size)
    (hBb0 : W.cell? ⟨Bb, 0, none⟩ = some (.int .i64 u)) (hBb1 : W.cell? ⟨Bb, 1, none⟩ = some (.int .i64 R)) (hBbl : Bb < n₀)
    (hBs : W.cell? ⟨Bs, 0, none⟩ = some (.slice A xs.length cap)) (hc : ∀ k, k < xs.length → ∃ b off, A = some ⟨b, off, none⟩ ∧ b < n₀ ∧ W.cell? ⟨b, off + k * 2, none⟩ = some (.int .i64 (fs xs k)) ∧ W.cell? ⟨b, off + k * 2 + 1, none⟩ = some (.int .i64 (sn xs k))) (h0 : J [] W) :
    CallsIn F n Try.prog 31 #[.func (.yield l) #[] #[], .pointer (some ⟨Bb, 0, none⟩), .pointer (some ⟨Bs, 0, none⟩)] W fun e W' => (∃ v, e = .returned v) ∧
      ((∃ ys, ys = upto (fun j => (j, lv xs R (u * 1048576) j)) xs.length ∧ J ys W') ∨ (∃ pre, (∃ k, k ≤ xs.length ∧ pre = upto (fun j => (j, lv xs R (u * 1048576) j)) k) ∧ Jx pre W')) := by
  obtain ⟨hu1, hu2⟩ := hu
  obtain ⟨hR1, hR2⟩ := hR
  obtain ⟨hx1, hx2⟩ := hx
  have HX := Lib.hid hx2; clear hx2
  have HC := Lib.hid hc; clear hc
  refine callsIn_of_wp Try.func31 rfl h7 ?_ hro
  simp only [Try.ntmps31, List.size_toArray, List.length_cons, List.length_nil, Nat.reduceAdd, Nat.reduceSub, Array.replicate_succ, Array.replicate_zero, List.push_toArray, List.append_toArray, List.nil_append, List.cons_append]
  gi_wp2
  gi_loopw [5, 6, 15] (fun q p i wr => ∃ k : Nat, k ≤ xs.length ∧ i = .int .i64 k ∧ q = .int .i64 (lvp xs R (u * 1048576) k) ∧ p = .int .i64 (prev xs k) ∧ J (upto (fun j => (j, lv xs R (u * 1048576) j)) k) wr ∧ Below n₀ W wr)
    (fun _ _ i _ => xs.length - (intOf i).toNat)
  case atStart => exact ⟨0, Nat.zero_le _, rfl, rfl, rfl, h0, Below.refl _ _⟩
  case round =>
    obtain ⟨k, hk, rfl, rfl, rfl, hJs, hnx⟩ := hrel
    by_cases hlt : k < xs.length
    · obtain ⟨b, off, ea, hb, c1, c2⟩ := HC.out k hlt
      have c1' := (hnx.cell (p := ⟨b, off + k * 2, none⟩) hb).trans c1
      have c2' := (hnx.cell (p := ⟨b, off + k * 2 + 1, none⟩) hb).trans c2
      have r1 := (hnx.cell (p := ⟨Bb, 1, none⟩) hBbl).trans hBb1
      have rn : n₀ ≤ wr.heap.size := Nat.le_trans hn0 hnx.size
      have rb : Bb < wr.heap.size := Nat.lt_of_lt_of_le hBbl rn
      have lb := lvp_bd (xs := xs) (R := R) (F := u * 1048576) (k := k) (by omega) (by omega) (fun j hj => HX.out j (by omega))
      have pb := prev_bd (xs := xs) (k := k) (fun j hj => HX.out j (by omega))
      have ok := HX.out k hlt
      have st := lv_step (xs := xs) (R := R) (F := u * 1048576) (k := k) (by omega) ok
      unfold okAt at ok
      have hmul0 : 0 ≤ R * (fs xs k - prev xs k) := Int.mul_nonneg (by omega) (by omega)
      have hmul1 : R * (fs xs k - prev xs k) ≤ 2305843009213693952 := by
        have e1 : R * (fs xs k - prev xs k) ≤ 2097152 * (fs xs k - prev xs k) := Int.mul_le_mul_of_nonneg_right hR2 (by omega)
        omega
      have nx1 : lvp xs R (u * 1048576) (k + 1) = lv xs R (u * 1048576) k := rfl
      have nx2 : prev xs (k + 1) = fs xs k := rfl
      have NX1 := Lib.hid nx1; clear nx1
      have NX2 := Lib.hid nx2; clear nx2
      subst ea
      obtain ⟨V, hV⟩ : ∃ V, lv xs R (u * 1048576) k = V := ⟨_, rfl⟩
      have HV := Lib.hid hV
      rw [hV] at st
      obtain ⟨fn, tmps, assign, body, hy, hRd⟩ := hY _ (k, V) (wr.alloc (.cells #[.int .i64 (fs xs k), .int .i64 (sn xs k)] 35)) (hJal _ _ (.cells #[.int .i64 (fs xs k), .int .i64 (sn xs k)] 35) hnx hJs) (by rw [upto_length]; exact hlt)
      dsimp only at hy
      have HJA := Lib.hid hJal; clear hJal
      have HYY := Lib.hid hY; clear hY
      clear hV c1 c2
      have lb1 := lb.1
      have lb2 := lb.2
      have pb1 := pb.1
      have pb2 := pb.2
      obtain ⟨⟨ok1, ok2⟩, ok3, ok4⟩ := ok
      clear lb pb
      obtain ⟨z, hz⟩ : ∃ z, fs xs k = z := ⟨_, rfl⟩
      obtain ⟨s, hs⟩ : ∃ s, sn xs k = s := ⟨_, rfl⟩
      obtain ⟨p, hp⟩ : ∃ p, prev xs k = p := ⟨_, rfl⟩
      obtain ⟨q, hq⟩ : ∃ q, lvp xs R (u * 1048576) k = q := ⟨_, rfl⟩
      rw [hz] at c1' ok1 ok2 hmul0 hmul1 st hy NX2 hRd
      rw [hs] at c2' ok3 ok4 st hy hRd
      rw [hp] at ok1 hmul0 hmul1 st pb1 pb2 ⊢
      rw [hq] at st lb1 lb2 ⊢
      clear hz hs hp hq
      obtain ⟨D, hD⟩ : ∃ D, R * (z - p) = D := ⟨_, rfl⟩
      rw [hD] at hmul0 hmul1 st
      by_cases hc : u * 1048576 ≤ q + D
      · have eV := (st.1 hc).symm
        clear st
        gi_wp2
        refine hRd.mono ?_
        rintro e W3 (⟨rfl, hJ3, hk3⟩ | ⟨rfl, hJx3⟩)
        · gi_wp2
          go_roundw
          case rel => exact ⟨k + 1, by omega, by simp, by rw [NX1.out, HV.out], by rw [NX2.out], by rw [upto_succ, HV.out]; exact hJ3, (hnx.alloc rn _).trans hk3⟩
          case measure => simp [intOf]; omega
        · gi_wp2
          refine bodyPost_ret (results_none rfl _ _ _) rfl ?_
          exact ⟨⟨_, rfl⟩, .inr ⟨_, ⟨k + 1, by omega, by rw [upto_succ, HV.out]⟩, hJx3⟩⟩
      · have eV := (st.2 hc).symm
        clear st
        gi_wp2
        refine hRd.mono ?_
        rintro e W3 (⟨rfl, hJ3, hk3⟩ | ⟨rfl, hJx3⟩)
        · gi_wp2
          go_roundw
          case rel => exact ⟨k + 1, by omega, by simp, by rw [NX1.out, HV.out], by rw [NX2.out], by rw [upto_succ, HV.out]; exact hJ3, (hnx.alloc rn _).trans hk3⟩
          case measure => simp [intOf]; omega
        · gi_wp2
          refine bodyPost_ret (results_none rfl _ _ _) rfl ?_
          exact ⟨⟨_, rfl⟩, .inr ⟨_, ⟨k + 1, by omega, by rw [upto_succ, HV.out]⟩, hJx3⟩⟩
    · obtain rfl : k = xs.length := by omega
      gi_wp2
      go_end0
      exact ⟨⟨_, rfl⟩, .inl ⟨_, rfl, hJs⟩⟩

end Go.Proofs.Ytajlcagbfebbjaa
