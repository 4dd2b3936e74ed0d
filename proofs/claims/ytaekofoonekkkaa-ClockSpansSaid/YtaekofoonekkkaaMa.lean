/-
  What inRange, bounded, magnitude, Add, Sub, Mod, FloorDiv and CeilDiv of package num return, and In, result, Add, Sub, FloorDiv, CeilDiv and Mod of the reference: one contract a function, for all integers that fit 64 bits.
-/
import Derived.Test.YtaekofoonekkkaaBb
import Derived.WalkKit
import Derived.WalkSpells
import Derived.WalkLawsBesides
import Derived.Lib.Hide
import Derived.Deep.QuietTactic
import Derived.BigQuiet
namespace Go.Proofs.Ytaekofoonekkkaa
open Go.RowKit

/-- In range: the absolute value is at most 2^50. -/
def inB (n : Int) : Bool := decide (-1125899906842624 ≤ n ∧ n ≤ 1125899906842624)
theorem inB_iff {n : Int} : inB n = true ↔ (-1125899906842624 ≤ n ∧ n ≤ 1125899906842624) := by unfold inB; exact decide_eq_true_iff
theorem inB_not {n : Int} : inB n = false ↔ ¬ (-1125899906842624 ≤ n ∧ n ≤ 1125899906842624) := by unfold inB; exact decide_eq_false_iff_not
def allB (l : List Int) : Bool := l.all inB
/-- A value if the condition holds, else 0. -/
def okv (c : Bool) (v : Int) : Int := if c then v else 0
def res (c : Bool) (v : Int) : Ending := .returned (.tuple #[.int .i64 (okv c v), .bool c])
theorem okv_t {c : Bool} {v : Int} (h : c = true) : okv c v = v := by unfold okv; rw [if_pos h]
theorem okv_f {c : Bool} {v : Int} (h : c = false) : okv c v = 0 := by unfold okv; rw [if_neg (by simp [h])]
theorem res_t {c : Bool} {v u : Int} (h : c = true) (hv : v = u) : Ending.returned (.tuple #[.int .i64 u, .bool true]) = res c v := by unfold res; rw [okv_t h, h, hv]
theorem res_f {c : Bool} {v : Int} (h : c = false) : Ending.returned (.tuple #[.int .i64 0, .bool false]) = res c v := by unfold res; rw [okv_f h, h]

theorem allB_take (zs : List Int) (k : Nat) (h : k < zs.length) : allB (zs.take (k + 1)) = (allB (zs.take k) && inB (zs.getD k 0)) := by
  unfold allB
  rw [List.take_succ_eq_append_getElem h, List.all_append]
  simp [h]
theorem allB_of_bad (zs : List Int) (k : Nat) (h : k < zs.length) (hb : inB (zs.getD k 0) = false) : allB zs = false := by
  unfold allB
  rw [List.all_eq_false]
  refine ⟨zs.getD k 0, ?_, by rw [hb]; simp⟩
  simp only [List.getD_eq_getElem?_getD, List.getElem?_eq_getElem h, Option.getD_some]
  exact List.getElem_mem h

set_option maxHeartbeats 400000 in
theorem inRange_row (zs : List Int) (b off cap : Nat) (w : World) (hl : zs.length ≤ 9223372036854775807)
    (hc : ∀ k, k < zs.length → w.cell? ⟨b, off + k, none⟩ = some (.int .i64 (zs.getD k 0))) :
    Calls Try.prog 36 #[.slice (some ⟨b, off, none⟩) zs.length cap] w fun e w' => e = .returned (.bool (allB zs)) ∧ w = w' := by
  have HC := Lib.hid hc; clear hc
  go_enter Try.func36, Try.ntmps36
  go_wp2
  go_loop [4, 7] (fun _ i => ∃ k : Nat, k ≤ zs.length ∧ i = .int .i64 k ∧ Hid (allB (zs.take k) = true)) (fun _ i => zs.length - (intOf i).toNat)
  case atStart => exact ⟨0, Nat.zero_le _, rfl, by unfold Hid; rfl⟩
  case round =>
    obtain ⟨k, hk, rfl, ha⟩ := hrel
    by_cases hlt : k < zs.length
    · have hcell := HC.out k hlt
      have h1 := allB_take zs k hlt
      have h2 := allB_of_bad zs k hlt
      generalize hz : zs.getD k 0 = z at hcell h1 h2
      have HZ := Lib.hid hz; clear hz
      have H1 := Lib.hid h1; clear h1
      have H2 := Lib.hid h2; clear h2
      by_cases hin : -1125899906842624 ≤ z ∧ z ≤ 1125899906842624
      · obtain ⟨hi1, hi2⟩ := hin
        go_wp2
        go_round
        case rel => exact ⟨k + 1, by omega, by go_num, by unfold Hid; rw [H1.out, ha.out, inB_iff.2 ⟨hi1, hi2⟩]; rfl⟩
        case measure => simp [intOf]; omega
      · by_cases hlo : z < -1125899906842624
        · go_wp2
          go_ret
          exact ⟨ret_bool (H2.out (inB_not.2 hin)).symm, rfl⟩
        · have hhi : 1125899906842624 < z := by omega
          go_wp2
          go_ret
          exact ⟨ret_bool (H2.out (inB_not.2 hin)).symm, rfl⟩
    · go_wp2
      go_ret
      have e : zs.take k = zs := List.take_of_length_le (by omega)
      exact ⟨ret_bool (by rw [← ha.out, e]), rfl⟩

/-- A variadic call with two numbers: the new block is the row. -/
theorem inRange_two (a c : Int) (w : World) :
    Calls Try.prog 36 #[.slice (some ⟨w.heap.size, 0, none⟩) 2 2] (w.alloc (.cells #[.int .i64 a, .int .i64 c] 3)) fun e w' => e = .returned (.bool (inB a && inB c)) ∧ (w.alloc (.cells #[.int .i64 a, .int .i64 c] 3)) = w' := by
  have h := inRange_row [a, c] w.heap.size 0 2 (w.alloc (.cells #[.int .i64 a, .int .i64 c] 3)) (by simp) (by
    intro k hk
    match k, hk with
    | 0, _ => simp [go_sem]
    | 1, _ => simp [go_sem])
  have e : allB [a, c] = (inB a && inB c) := by simp [allB]
  rw [e] at h
  exact h

theorem inRange_one (a : Int) (w : World) :
    Calls Try.prog 36 #[.slice (some ⟨w.heap.size, 0, none⟩) 1 1] (w.alloc (.cells #[.int .i64 a] 3)) fun e w' => e = .returned (.bool (inB a)) ∧ (w.alloc (.cells #[.int .i64 a] 3)) = w' := by
  have h := inRange_row [a] w.heap.size 0 1 (w.alloc (.cells #[.int .i64 a] 3)) (by simp) (by
    intro k hk
    match k, hk with
    | 0, _ => simp [go_sem])
  have e : allB [a] = inB a := by simp [allB]
  rw [e] at h
  exact h
theorem inRange_three (a b c : Int) (w : World) :
    Calls Try.prog 36 #[.slice (some ⟨w.heap.size, 0, none⟩) 3 3] (w.alloc (.cells #[.int .i64 a, .int .i64 b, .int .i64 c] 3)) fun e w' => e = .returned (.bool (inB a && inB b && inB c)) ∧ (w.alloc (.cells #[.int .i64 a, .int .i64 b, .int .i64 c] 3)) = w' := by
  have h := inRange_row [a, b, c] w.heap.size 0 3 (w.alloc (.cells #[.int .i64 a, .int .i64 b, .int .i64 c] 3)) (by simp) (by
    intro k hk
    match k, hk with
    | 0, _ => simp [go_sem]
    | 1, _ => simp [go_sem]
    | 2, _ => simp [go_sem])
  have e : allB [a, b, c] = (inB a && inB b && inB c) := by simp [allB, Bool.and_assoc]
  rw [e] at h
  exact h


set_option maxHeartbeats 400000 in
theorem bounded_any (n : Int) (w : World) :
    Calls Try.prog 40 #[.int .i64 n] w fun e w' => e = res (inB n) n ∧ Bl w w' := by
  rcases bcase (inB n) with h | h
  all_goals
    go_enter Try.func40, Try.ntmps40
    go_wp2_with (go_at_call 36; refine (inRange_one _ _).mono ?_; rintro e w' ⟨rfl, rfl⟩)
    go_ret2
  · exact ⟨res_t h rfl, (Bl.refl _).alloc _⟩
  · exact ⟨res_f h, (Bl.refl _).alloc _⟩

end Go.Proofs.Ytaekofoonekkkaa
