/-
  Octets: the digits of an integer to the base 256, and the integer that digits stand for; words for worlds.
-/
import Derived.Test.YtnapelocjcoofaaRows
import Derived.WalkKit
import Derived.WalkSpells
import Derived.WalkLawsBesides
import Derived.Lib.Hide
import Derived.Deep.QuietTactic
import Derived.BigQuiet
import Derived.IntWalk
import Derived.Below
import Derived.Laws.BytesArg
import Derived.Laws.Strings3
import Derived.Laws.BitsLemmas
namespace Go.Proofs.Ytnapelocjcoofaa
open Go.RowKit

theorem ret_int {k : IntKind} {a b : Int} (h : a = b) : Ending.returned (.int k a) = .returned (.int k b) := by rw [h]
theorem ret_bool {a b : Bool} (h : a = b) : Ending.returned (.bool a) = .returned (.bool b) := by rw [h]
theorem bcase (b : Bool) : b = true ∨ b = false := by cases b <;> simp

/-- What was there has not turned. -/
def Bl (w w' : World) : Prop := Below w.heap.size w w'
theorem Bl.refl (w : World) : Bl w w := Below.refl _ _
theorem Bl.trans {a b c : World} (h : Bl a b) (k : Bl b c) : Bl a c := Below.trans h (Below.mono k h.size)
theorem Bl.drew {a b : World} (h : Bl a b) : Bl a b.drew := ⟨h.os, h.tape, h.output, h.size, h.block⟩
theorem Bl.drewN {a b : World} (h : Bl a b) (n : Nat) : Bl a (b.drewN n) := ⟨h.os, h.tape, h.output, h.size, h.block⟩
theorem Bl.alloc {a b : World} (h : Bl a b) (o : Obj) : Bl a (b.alloc o) := Below.alloc h h.size o
theorem Bl.setCell {a b : World} (h : Bl a b) {p : Addr} (hp : a.heap.size ≤ p.block) (v : Value) : Bl a (b.setCell p v) := Below.setCell h hp v
theorem Bl.cell {a b : World} (h : Bl a b) {p : Addr} (hp : p.block < a.heap.size) : b.cell? p = a.cell? p := Below.cell h hp
theorem Bl.frozen {a b : World} (h : Bl a b) {p : Addr} (hp : p.block < a.heap.size) : b.frozen? p = a.frozen? p := Below.frozen h hp
theorem Bl.size {a b : World} (h : Bl a b) : a.heap.size ≤ b.heap.size := Below.size h

/-- 256 to the power k. -/
def pw (k : Nat) : Int := 256 ^ k
theorem pw_zero : pw 0 = 1 := rfl
theorem pw_succ (k : Nat) : pw (k + 1) = pw k * 256 := by unfold pw; rw [Int.pow_succ]
theorem pw_pos (k : Nat) : 0 < pw k := by
  induction k with
  | zero => decide
  | succ k ih => rw [pw_succ]; omega

/-- The digits of n to the base 256, k of them, most significant first. -/
def dgs (n : Int) : Nat → List Int
  | 0 => []
  | k + 1 => n / pw k % 256 :: dgs n k
theorem dgs_length (n : Int) (k : Nat) : (dgs n k).length = k := by
  induction k with
  | zero => rfl
  | succ k ih => simp [dgs, ih]
theorem dgs_getD (n : Int) : ∀ (k j : Nat), j < k → (dgs n k).getD j 0 = n / pw (k - 1 - j) % 256
  | 0, _, h => by omega
  | k + 1, 0, _ => by simp [dgs]
  | k + 1, j + 1, h => by
    have ih := dgs_getD n k j (by omega)
    rw [show (dgs n (k + 1)).getD (j + 1) 0 = (dgs n k).getD j 0 from rfl, ih]
    rw [show k + 1 - 1 - (j + 1) = k - 1 - j by omega]
theorem div_pw (n : Int) (k : Nat) : n / pw k / 256 = n / pw (k + 1) := by
  rw [pw_succ, Int.ediv_ediv_of_nonneg (Int.le_of_lt (pw_pos k))]

/-- The encoding of n in k octets. -/
def be (n : Int) (k : Nat) : ByteArray := strOfNums (dgs n k)
theorem be_size (n : Int) (k : Nat) : (be n k).size = k := by unfold be; rw [strOfNums_size, dgs_length]

/-- The integer that digits stand for behind those of start. -/
def vl (start : Int) : List UInt8 → Int
  | [] => start
  | c :: r => vl (256 * start + c.toNat) r
theorem vl_append (a : Int) (xs ys : List UInt8) : vl a (xs ++ ys) = vl (vl a xs) ys := by
  induction xs generalizing a with
  | nil => rfl
  | cons x xs ih => exact ih _
theorem u8_of {z : Int} (h0 : 0 ≤ z) (h1 : z < 256) : (((UInt8.ofNat z.toNat).toNat : Nat) : Int) = z := by
  have : z.toNat < 256 := by omega
  rw [UInt8.toNat_ofNat_of_lt' (by simpa using this)]
  omega
theorem be_list (n : Int) (k : Nat) : (be n k).data.toList = (dgs n k).map fun z => UInt8.ofNat z.toNat := rfl
theorem vl_be (n a : Int) (k : Nat) : vl a (be n k).data.toList = a * pw k + n % pw k := by
  rw [be_list]
  induction k generalizing a with
  | zero => simp [dgs, vl, pw, Int.emod_one]
  | succ k ih =>
    rw [dgs, List.map_cons, vl, ih, u8_of (Int.emod_nonneg _ (by decide)) (Int.emod_lt_of_pos _ (by decide))]
    have hp := pw_pos k
    have e1 : n % pw (k + 1) = n / pw k % 256 * pw k + n % pw k := by
      have h1 := Int.emod_add_mul_ediv n (pw k)
      have h2 := Int.emod_add_mul_ediv (n / pw k) 256
      have h3 := Int.emod_nonneg n (show pw k ≠ 0 by omega)
      have h4 := Int.emod_lt_of_pos n hp
      have h5 := Int.emod_nonneg (n / pw k) (show (256 : Int) ≠ 0 by decide)
      have h6 := Int.emod_lt_of_pos (n / pw k) (show (0 : Int) < 256 by decide)
      generalize n / pw k % 256 = d at h2 h5 h6 ⊢
      generalize n / pw k / 256 = q at h2
      rw [← h2] at h1
      have e : n = (d * pw k + n % pw k) + pw (k + 1) * q := by rw [pw_succ]; grind
      have b1 : 0 ≤ d * pw k + n % pw k := by have := Int.mul_nonneg h5 (Int.le_of_lt hp); omega
      have b2 : d * pw k + n % pw k < pw (k + 1) := by
        rw [pw_succ]
        have := Int.mul_le_mul_of_nonneg_right (show d ≤ 255 by omega) (Int.le_of_lt hp)
        omega
      conv => lhs; rw [e]
      rw [Int.add_mul_emod_self_left, Int.emod_eq_of_lt b1 b2]
    rw [e1, pw_succ]
    grind
theorem vl_bound {a : Int} {l : List UInt8} : a * pw l.length ≤ vl a l ∧ vl a l < (a + 1) * pw l.length := by
  induction l generalizing a with
  | nil => simp [vl, pw]; omega
  | cons c l ih =>
    have h := @ih (256 * a + c.toNat)
    have hc : c.toNat < 256 := c.toNat_lt
    have hp := pw_pos l.length
    rw [vl, List.length_cons, pw_succ]
    have h1 := Int.mul_le_mul_of_nonneg_right (show 256 * a ≤ 256 * a + (c.toNat : Int) by omega) (Int.le_of_lt hp)
    have h2 := Int.mul_le_mul_of_nonneg_right (show 256 * a + (c.toNat : Int) + 1 ≤ 256 * a + 256 by omega) (Int.le_of_lt hp)
    constructor
    · grind
    · grind

/-- Octets or'ed onto a shifted integer. -/
theorem or_byte {n c : Int} (h0 : 0 ≤ c) (h1 : c < 256) (hn : -36028797018963968 ≤ n ∧ n < 36028797018963968) : bits .or .i64 (n * 256) c = 256 * n + c := by
  obtain ⟨b, rfl⟩ := Int.eq_ofNat_of_zero_le h0
  obtain ⟨a, ha⟩ : ∃ a : Nat, n % 72057594037927936 = a := ⟨(n % 72057594037927936).toNat, by omega⟩
  have hb : b < 2 ^ 8 := by omega
  have key : (BitVec.ofInt 64 (n * 256) ||| BitVec.ofInt 64 (b : Int)).toNat = 256 * a + b := by
    rw [BitVec.toNat_or, BitVec.toNat_ofInt, BitVec.toNat_ofInt]
    rw [show ((n * 256) % ((2 ^ 64 : Nat) : Int)).toNat = 2 ^ 8 * a by omega, show ((b : Int) % ((2 ^ 64 : Nat) : Int)).toNat = b by omega, ← Nat.two_pow_add_eq_or_of_lt hb]
  show IntKind.i64.wrap ((BitVec.ofInt 64 (n * 256) ||| BitVec.ofInt 64 (b : Int)).toNat : Nat) = _
  rw [key, IntKind.wrap_i64]
  omega
theorem i64_and255 (n : Int) : bits .and .i64 n 255 = n % 256 := by
  have h255 : (BitVec.ofInt 64 255).toNat = 2 ^ 8 - 1 := by decide
  have key : (BitVec.ofInt 64 n &&& BitVec.ofInt 64 255).toNat = (n % ((2 ^ 64 : Nat) : Int)).toNat % 2 ^ 8 := by
    rw [BitVec.toNat_and, BitVec.toNat_ofInt, h255, Nat.and_two_pow_sub_one_eq_mod]
  show IntKind.i64.wrap ((BitVec.ofInt 64 n &&& BitVec.ofInt 64 255).toNat : Nat) = n % 256
  rw [key, IntKind.wrap_i64]
  omega

end Go.Proofs.Ytnapelocjcoofaa
