/-
  What decoded, limits and its closure of package wire return; power of its reference.
-/
import Derived.Test.YtnapelocjcoofaaWb
namespace Go.Proofs.Ytnapelocjcoofaa
open Go.RowKit

theorem vl_snoc (a : Int) (l : List UInt8) (c : UInt8) : vl a (l ++ [c]) = 256 * vl a l + c.toNat := by rw [vl_append]; rfl
theorem take_snoc (s : ByteArray) (k : Nat) (h : k < s.size) : s.data.toList.take (k + 1) = s.data.toList.take k ++ [s[k]] := by
  rw [List.take_succ_eq_append_getElem (by simpa using h)]; rfl
/-- Nothing is lost on the way. -/
def fits (a : Int) (l : List UInt8) : Prop := ∀ k, k < l.length → -36028797018963968 ≤ vl a (l.take k) ∧ vl a (l.take k) < 36028797018963968

theorem limits_any (b : Int) (w : World) :
    Calls Try.prog 80 #[.int .i64 b] w fun e w' => e = .returned (.func (.func 85) #[] #[.pointer (some ⟨w.heap.size, 0, none⟩)]) ∧ w' = w.alloc (.cells #[.int .i64 b] 3) := by
  go_enter Try.func80, Try.ntmps80
  go_wp2
  go_ret
  exact ⟨rfl, rfl⟩

/-- What the closure gives. -/
def loL (b k : Int) : Int := if b = 0 then 0 else -(pw k.toNat / 2)
def hiL (b k : Int) : Int := if b = 0 then pw k.toNat - 1 else pw k.toNat / 2 - 1
set_option maxHeartbeats 400000 in
theorem limit0_any (k : Int) (h1 : 1 ≤ k) (h2 : k ≤ 7) (a : Addr) (w : World) (hc : w.cell? a = some (.int .i64 0)) :
    Calls Try.prog 85 #[.int .i64 k, .pointer (some a)] w fun e w' => e = .returned (.tuple #[.int .i64 (loL 0 k), .int .i64 (hiL 0 k)]) ∧ w = w' := by
  have hk : k = 1 ∨ k = 2 ∨ k = 3 ∨ k = 4 ∨ k = 5 ∨ k = 6 ∨ k = 7 := by omega
  rcases hk with rfl | rfl | rfl | rfl | rfl | rfl | rfl
  all_goals
    go_enter Try.func85, Try.ntmps85
    go_wp2
    go_ret2
    exact ⟨by kernel_rfl, rfl⟩
set_option maxHeartbeats 400000 in
theorem limit1_any (k : Int) (h1 : 1 ≤ k) (h2 : k ≤ 8) (a : Addr) (w : World) (hc : w.cell? a = some (.int .i64 1)) :
    Calls Try.prog 85 #[.int .i64 k, .pointer (some a)] w fun e w' => e = .returned (.tuple #[.int .i64 (loL 1 k), .int .i64 (hiL 1 k)]) ∧ w = w' := by
  have hk : k = 1 ∨ k = 2 ∨ k = 3 ∨ k = 4 ∨ k = 5 ∨ k = 6 ∨ k = 7 ∨ k = 8 := by omega
  rcases hk with rfl | rfl | rfl | rfl | rfl | rfl | rfl | rfl
  all_goals
    go_enter Try.func85, Try.ntmps85
    go_wp2
    go_ret2
    exact ⟨by kernel_rfl, rfl⟩

end Go.Proofs.Ytnapelocjcoofaa
