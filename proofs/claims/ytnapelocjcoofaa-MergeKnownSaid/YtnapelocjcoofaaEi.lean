/-
  What piece and pieces of package merge return.
-/
import Derived.Test.YtnapelocjcoofaaEh
import Derived.RangeFuncBox
import Derived.RangeFuncLeaves
import Derived.RangeFuncWrites
import Derived.RangeFuncNested
import Derived.Shelf.Abstract
import Derived.OwnWalkIn
import Derived.TacticsInMore
import Derived.LoopNIn
import Derived.LoopIn
namespace Go.Proofs.Ytnapelocjcoofaa
open Go.RowKit Go.Shelf Go.Proofs.Ytnapelocjcoofaa.Cr

theorem cn_max (i : Nat) : max 0 ((i : Int) - 1) % 4 = cn i := by unfold cn; omega
theorem start_i (i : Nat) : ((i : Int) == 0) = decide (i = 0) := by
  by_cases h : i = 0
  · subst h; rfl
  · rw [decide_eq_false h, beq_eq_false_iff_ne]; omega
theorem pc_mk {i : Nat} {num q : Int} {d : ByteArray} (h : q = cn i) : Ending.returned (.agg #[.bool ((i : Int) == 0), .int .i64 num, .int .i64 q, .string d]) = .returned (Pc.v ⟨decide (i = 0), num, cn i, d⟩) := by
  unfold Pc.v
  rw [h, start_i]

set_option maxHeartbeats 400000 in
theorem piece_any (i : Nat) (hi : (i : Int) ≤ 100000) (num : Int) (d : ByteArray) (w : World) :
    Calls Try.prog 63 #[.int .i64 (i : Int), .int .i64 num, .string d] w fun e w' => e = .returned (Pc.v ⟨decide (i = 0), num, cn i, d⟩) ∧ Bl w w' := by
  have HM : ∀ q, (q = if 1 < (i : Int) then ((i : Int) - 1) % 4 else 0) → q = cn i := fun q h => by subst h; unfold cn; split <;> omega
  have H := Lib.hid HM; clear HM
  go_enter Try.func63, Try.ntmps63
  go_wp2_with fail
  · have hi : 1 < (i : Int) := by assumption
    refine bodyPost_ret (v := .agg #[.bool ((i : Int) == 0), .int .i64 num, .int .i64 (((i : Int) - 1) % 4), .string d]) (by simp [results, Try.results63, go_sem]) rfl ⟨pc_mk (H.out _ (by rw [if_pos hi])), (Bl.refl w).alloc _⟩
  · have hi : (i : Int) ≤ 1 := by assumption
    refine bodyPost_ret (v := .agg #[.bool ((i : Int) == 0), .int .i64 num, .int .i64 0, .string d]) (by simp [results, Try.results63, go_sem]) rfl ⟨pc_mk (H.out _ (by rw [if_neg (by omega)])), (Bl.refl w).alloc _⟩

theorem pieces_any (s : ByteArray) (num : Int) (A : Option Addr) (len cap : Nat) (w : World) :
    Calls Try.prog 40 #[.string s, .int .i64 num, .slice A len cap] w fun e w' => e = .returned (.func (.func 62) #[] #[.pointer (some ⟨w.heap.size + 1 + 1, 0, none⟩), .pointer (some ⟨w.heap.size + 1, 0, none⟩), .pointer (some ⟨w.heap.size, 0, none⟩)]) ∧ w' = ((w.alloc (.cells #[.string s] 9)).alloc (.cells #[.int .i64 num] 3)).alloc (.cells #[.slice A len cap] 26) := by
  go_enter Try.func40, Try.ntmps40
  go_wp2_with fail
  go_ret
  exact ⟨rfl, rfl⟩

/-- What has come when k rounds are over. -/
def upto {α : Type} (f : Nat → α) (k : Nat) : List α := (List.range k).map f
theorem upto_succ {α : Type} (f : Nat → α) (k : Nat) : upto f (k + 1) = upto f k ++ [f k] := by simp [upto, List.range_succ]
theorem upto_length {α : Type} (f : Nat → α) (k : Nat) : (upto f k).length = k := by simp [upto]
theorem la_grow {n : Nat} {cs : List Int} (h : okC n cs = true) : ∀ k, k ≤ cs.length → 60 * (k : Int) ≤ la cs k
  | 0, _ => Int.le_refl 0
  | k + 1, hk => by
    have h1 := la_grow h k (by omega)
    have h2 := (okC_iff.1 h) k (by omega)
    rw [la_succ]
    omega
theorem few {n : Nat} {cs : List Int} (h : okC n cs = true) (h64 : 64 ≤ n) (hn : n ≤ 1522) : cs.length ≤ 24 := by
  have h1 := la_grow h cs.length (Nat.le_refl _)
  have h2 := la_le h h64 (Nat.le_refl cs.length)
  omega

end Go.Proofs.Ytnapelocjcoofaa
