/-
  What within and gcd of package rat, and gcd, abs and Right of its reference, return.
-/
import Derived.Test.YtgbjooecomgfoaaRows
import Derived.Test.YtgbjooecomgfoaaRa
import Derived.WalkKit
import Derived.WalkSpells
import Derived.WalkLawsBesides
import Derived.Lib.Hide
import Derived.Deep.QuietTactic
import Derived.BigQuiet
import Derived.IntWalk
namespace Go.Proofs.Ytgbjooecomgfoaa
open Go.RowKit

theorem ret_int {k : IntKind} {a b : Int} (h : a = b) : Ending.returned (.int k a) = .returned (.int k b) := by rw [h]
theorem ret_bool {a b : Bool} (h : a = b) : Ending.returned (.bool a) = .returned (.bool b) := by rw [h]
theorem bcase (b : Bool) : b = true ∨ b = false := by cases b <;> simp
theorem grown_trans {a b c : World} (h : Grown a b) (k : Grown b c) : Grown a c :=
  ⟨World.keptBut_trans h.1 k.1, fun x => (k.2.1 x).trans (h.2.1 x), Nat.le_trans h.2.2 k.2.2⟩
theorem grown_drewN (w : World) (n : Nat) : Grown w (w.drewN n) := Grown.refl w
theorem grown_old {a b : World} (h : Grown a b) {p : Addr} (hp : p.block < a.heap.size) : b.heap[p.block]? = a.heap[p.block]? :=
  h.1.block hp (fun _ f => f.elim)
theorem grown_cell {a b : World} (h : Grown a b) {p : Addr} (hp : p.block < a.heap.size) : b.cell? p = a.cell? p :=
  World.cell?_of_block (grown_old h hp)

/-- Within a bound. -/
def inW (B n : Int) : Bool := decide (-B ≤ n ∧ n ≤ B)
theorem inW_iff {B n : Int} : inW B n = true ↔ (-B ≤ n ∧ n ≤ B) := by unfold inW; exact decide_eq_true_iff
theorem inW_not {B n : Int} : inW B n = false ↔ ¬ (-B ≤ n ∧ n ≤ B) := by unfold inW; exact decide_eq_false_iff_not

set_option maxHeartbeats 400000 in
theorem within_two (B a b : Int) (w : World) (h0 : 0 ≤ B) (h1 : B ≤ 4611686018427387904) (A : Nat)
    (c0 : w.cell? ⟨A, 0, none⟩ = some (.int .i64 a)) (c1 : w.cell? ⟨A, 1, none⟩ = some (.int .i64 b)) :
    Calls Try.prog 37 #[.int .i64 B, .slice (some ⟨A, 0, none⟩) 2 2] w fun e w' => e = .returned (.bool (inW B a && inW B b)) ∧ w = w' := by
  have key : ∀ k : Nat, k < 2 → ∃ z, w.cell? ⟨A, k, none⟩ = some (.int .i64 z) ∧ ((k = 0 ∧ z = a) ∨ (k = 1 ∧ z = b)) := by
    intro k hk
    match k, hk with
    | 0, _ => exact ⟨a, c0, .inl ⟨rfl, rfl⟩⟩
    | 1, _ => exact ⟨b, c1, .inr ⟨rfl, rfl⟩⟩
  clear c0 c1
  have HC := Lib.hid key; clear key
  go_enter Try.func37, Try.ntmps37
  go_wp2
  go_loop [6, 9] (fun _ i => ∃ k : Nat, k ≤ 2 ∧ i = .int .i64 k ∧ Hid (1 ≤ k → inW B a = true) ∧ Hid (2 ≤ k → inW B b = true)) (fun _ i => 2 - (intOf i).toNat)
  case atStart => exact ⟨0, Nat.zero_le _, rfl, fun h => by omega, fun h => by omega⟩
  case round =>
    obtain ⟨k, hk, rfl, ha, hb⟩ := hrel
    by_cases hlt : k < 2
    · obtain ⟨z, hcell, hz⟩ := HC.out k hlt
      have HZ := Lib.hid hz; clear hz
      by_cases hlo : z < -B
      · go_wp2
        go_ret
        refine ⟨ret_bool ?_, rfl⟩
        have n := (inW_not (B := B) (n := z)).2 (by omega)
        rcases HZ.out with ⟨_, e⟩ | ⟨_, e⟩ <;> subst e <;> rw [n] <;> simp
      · by_cases hhi : B < z
        · go_wp2
          go_ret
          refine ⟨ret_bool ?_, rfl⟩
          have n := (inW_not (B := B) (n := z)).2 (by omega)
          rcases HZ.out with ⟨_, e⟩ | ⟨_, e⟩ <;> subst e <;> rw [n] <;> simp
        · go_wp2
          go_round
          case rel =>
            have n := (inW_iff (B := B) (n := z)).2 (by omega)
            refine ⟨k + 1, by omega, by go_num, fun _ => ?_, fun h => ?_⟩
            · rcases HZ.out with ⟨_, e⟩ | ⟨e0, _⟩
              · rw [← e]; exact n
              · exact ha.out (by omega)
            · rcases HZ.out with ⟨e0, _⟩ | ⟨_, e⟩
              · omega
              · rw [← e]; exact n
          case measure => simp [intOf]; omega
    · go_wp2
      go_ret
      exact ⟨ret_bool (by rw [ha.out (by omega), hb.out (by omega)]; rfl), rfl⟩

theorem within_new (B a b : Int) (w : World) (h0 : 0 ≤ B) (h1 : B ≤ 4611686018427387904) :
    Calls Try.prog 37 #[.int .i64 B, .slice (some ⟨w.heap.size, 0, none⟩) 2 2] (w.alloc (.cells #[.int .i64 a, .int .i64 b] 3)) fun e w' => e = .returned (.bool (inW B a && inW B b)) ∧ (w.alloc (.cells #[.int .i64 a, .int .i64 b] 3)) = w' :=
  within_two B a b _ h0 h1 w.heap.size (by simp [go_sem]) (by simp [go_sem])

set_option maxHeartbeats 1000000 in
theorem gcd_any (x y : Nat) (w : World) (bx : (x : Int) ≤ 4611686018427387904) (bY : (y : Int) ≤ 4611686018427387904) :
    Calls Try.prog 38 #[.int .i64 x, .int .i64 y] w fun e w' => e = .returned (.int .i64 ((Nat.gcd x y : Nat) : Int)) ∧ ∃ n, w' = w.drewN n := by
  go_enter Try.func38, Try.ntmps38
  go_wp2
  go_loopw [0, 1] (fun p q wr => ∃ X Y : Nat, p = .int .i64 X ∧ q = .int .i64 Y ∧ (X : Int) ≤ 4611686018427387904 ∧ (Y : Int) ≤ 4611686018427387904 ∧ Hid (Nat.gcd X Y = Nat.gcd x y) ∧ Hid (∃ n, wr = w.drewN n)) (fun _ q _ => (intOf q).toNat)
  case atStart => exact ⟨x, y, rfl, rfl, bx, bY, rfl, 0, rfl⟩
  case round =>
    obtain ⟨X, Y, rfl, rfl, bX, bY, hinv, hw⟩ := hrel
    rcases Nat.eq_zero_or_pos Y with h0 | h0
    · have hg : Hid (X = Nat.gcd x y) := by have := hinv.out; rw [h0, Nat.gcd_zero_right] at this; exact this
      have d : ¬ (0 : Int) < Y := by omega
      clear h0
      go_wp2
      go_ret
      exact ⟨ret_int (by rw [← hg.out]), hw.out⟩
    · have d : (0 : Int) < Y := by omega
      have hm : (X : Int) % (Y : Int) = ((X % Y : Nat) : Int) := (Int.natCast_emod X Y).symm
      have hm1 : X % Y < Y := Nat.mod_lt _ h0
      have hg : Nat.gcd Y (X % Y) = Nat.gcd x y := by rw [← hinv.out, Nat.gcd_comm X Y, Nat.gcd_rec Y X, Nat.gcd_comm]
      obtain ⟨Z, hZ⟩ : ∃ Z, X % Y = Z := ⟨_, rfl⟩
      rw [hZ] at hm hm1 hg
      clear hZ h0
      have hg' := Lib.hid hg; clear hg
      have bZ : (Z : Int) < Y := by omega
      clear hm1
      go_wp2
      go_quiet (fail)
      go_wp2
      go_roundw
      case rel => exact ⟨Y, Z, rfl, by rw [hm], bY, by omega, hg', by obtain ⟨n, hn⟩ := hw.out; subst hn; exact ⟨_, World.drewN_drewN _ _ _⟩⟩
      case measure => simp [intOf]; omega

set_option maxHeartbeats 1000000 in
theorem rgcd_any (x y : Nat) (w : World) (bx : (x : Int) ≤ 4611686018427387904) (bY : (y : Int) ≤ 4611686018427387904) :
    Calls Try.prog 39 #[.int .i64 x, .int .i64 y] w fun e w' => e = .returned (.int .i64 ((Nat.gcd x y : Nat) : Int)) ∧ ∃ n, w' = w.drewN n := by
  go_enter Try.func39, Try.ntmps39
  go_wp2
  go_loopw [0, 1] (fun p q wr => ∃ X Y : Nat, p = .int .i64 X ∧ q = .int .i64 Y ∧ (X : Int) ≤ 4611686018427387904 ∧ (Y : Int) ≤ 4611686018427387904 ∧ Hid (Nat.gcd X Y = Nat.gcd x y) ∧ Hid (∃ n, wr = w.drewN n)) (fun _ q _ => (intOf q).toNat)
  case atStart => exact ⟨x, y, rfl, rfl, bx, bY, rfl, 0, rfl⟩
  case round =>
    obtain ⟨X, Y, rfl, rfl, bX, bY, hinv, hw⟩ := hrel
    rcases Nat.eq_zero_or_pos Y with h0 | h0
    · have hg : Hid (X = Nat.gcd x y) := by have := hinv.out; rw [h0, Nat.gcd_zero_right] at this; exact this
      have d : ¬ (0 : Int) < Y := by omega
      clear h0
      go_wp2
      go_ret
      exact ⟨ret_int (by rw [← hg.out]), hw.out⟩
    · have d : (0 : Int) < Y := by omega
      have hm : (X : Int) % (Y : Int) = ((X % Y : Nat) : Int) := (Int.natCast_emod X Y).symm
      have hm1 : X % Y < Y := Nat.mod_lt _ h0
      have hg : Nat.gcd Y (X % Y) = Nat.gcd x y := by rw [← hinv.out, Nat.gcd_comm X Y, Nat.gcd_rec Y X, Nat.gcd_comm]
      obtain ⟨Z, hZ⟩ : ∃ Z, X % Y = Z := ⟨_, rfl⟩
      rw [hZ] at hm hm1 hg
      clear hZ h0
      have hg' := Lib.hid hg; clear hg
      have bZ : (Z : Int) < Y := by omega
      clear hm1
      go_wp2
      go_quiet (fail)
      go_wp2
      go_roundw
      case rel => exact ⟨Y, Z, rfl, by rw [hm], bY, by omega, hg', by obtain ⟨n, hn⟩ := hw.out; subst hn; exact ⟨_, World.drewN_drewN _ _ _⟩⟩
      case measure => simp [intOf]; omega

theorem gcdI_any (a b : Int) (g : Nat) (w : World) (a0 : 0 ≤ a) (a1 : a ≤ 4611686018427387904) (b0 : 0 ≤ b) (b1 : b ≤ 4611686018427387904) (hg : Nat.gcd a.natAbs b.natAbs = g) :
    Calls Try.prog 38 #[.int .i64 a, .int .i64 b] w fun e w' => e = .returned (.int .i64 (g : Int)) ∧ ∃ n, w' = w.drewN n := by
  have h := gcd_any a.natAbs b.natAbs w (by omega) (by omega)
  rw [hg, show ((a.natAbs : Nat) : Int) = a by omega, show ((b.natAbs : Nat) : Int) = b by omega] at h
  exact h
theorem rgcdI_any (a b : Int) (g : Nat) (w : World) (a0 : 0 ≤ a) (a1 : a ≤ 4611686018427387904) (b0 : 0 ≤ b) (b1 : b ≤ 4611686018427387904) (hg : Nat.gcd a.natAbs b.natAbs = g) :
    Calls Try.prog 39 #[.int .i64 a, .int .i64 b] w fun e w' => e = .returned (.int .i64 (g : Int)) ∧ ∃ n, w' = w.drewN n := by
  have h := rgcd_any a.natAbs b.natAbs w (by omega) (by omega)
  rw [hg, show ((a.natAbs : Nat) : Int) = a by omega, show ((b.natAbs : Nat) : Int) = b by omega] at h
  exact h

set_option maxHeartbeats 400000 in
theorem rabs_any (n : Int) (w : World) (h0 : -4611686018427387904 ≤ n) (h1 : n ≤ 4611686018427387904) :
    Calls Try.prog 40 #[.int .i64 n] w fun e w' => e = .returned (.int .i64 ((n.natAbs : Nat) : Int)) ∧ w = w' := by
  by_cases h : n < 0
  · have t : n < -n := by omega
    go_enter Try.func40, Try.ntmps40
    go_wp2
    go_ret
    exact ⟨ret_int (by omega), rfl⟩
  · have t : ¬ n < -n := by omega
    go_enter Try.func40, Try.ntmps40
    go_wp2
    go_ret
    exact ⟨ret_int (by omega), rfl⟩

end Go.Proofs.Ytgbjooecomgfoaa
