/-
  What digits of package wire and of its reference return.
-/
import Derived.Test.YtnapelocjcoofaaWc
namespace Go.Proofs.Ytnapelocjcoofaa
open Go.RowKit

/-- The octets of n, as cells. -/
def oct (n : Int) (i : Nat) : Value := .int .u8 (n / pw i % 256)
theorem div_in {n : Int} (hn : -9223372036854775808 ≤ n ∧ n ≤ 9223372036854775807) (j : Nat) : -9223372036854775808 ≤ n / pw j ∧ n / pw j ≤ 9223372036854775807 := by
  have hp := pw_pos j
  constructor
  · rw [Int.le_ediv_iff_mul_le hp]
    have := Int.mul_le_mul_of_nonneg_left (show (1 : Int) ≤ pw j by omega) (show (0 : Int) ≤ 9223372036854775808 by decide)
    omega
  · apply Int.le_of_lt_add_one
    rw [Int.ediv_lt_iff_lt_mul hp]
    have := Int.mul_le_mul_of_nonneg_left (show (1 : Int) ≤ pw j by omega) (show (0 : Int) ≤ 9223372036854775807 + 1 by decide)
    omega

/-- A block of eight octets. -/
def B8 (w : World) (b : Nat) (f : Nat → Value) : Prop := b < w.heap.size ∧ ∀ j, j < 8 → w.cell? ⟨b, j, none⟩ = some (f j) ∧ w.frozen? ⟨b, j, none⟩ = false
theorem B8.go {w w' : World} {b : Nat} {f : Nat → Value} (h : B8 w b f) (g : Bl w w') : B8 w' b f :=
  ⟨Nat.lt_of_lt_of_le h.1 g.size, fun j hj => ⟨(g.cell (p := ⟨b, j, none⟩) h.1).trans (h.2 j hj).1, (g.frozen (p := ⟨b, j, none⟩) h.1).trans (h.2 j hj).2⟩⟩
theorem B8.set {w : World} {b : Nat} {f f' : Nat → Value} (h : B8 w b f) {i : Nat} (hi : i < 8) {v : Value} (h1 : f' i = v) (h2 : ∀ j, j < 8 → j ≠ i → f' j = f j) : B8 (w.setCell ⟨b, i, none⟩ v) b f' := by
  refine ⟨by rw [World.size_setCell]; exact h.1, fun j hj => ⟨?_, by rw [World.frozen?_setCell]; exact (h.2 j hj).2⟩⟩
  by_cases e : j = i
  · subst e; rw [World.cell?_setCell_same _ _ _ (h.2 j hj).1, h1]
  · rw [World.cell?_setCell_other _ _ _ _ (by intro h'; injection h' with _ h'; omega), (h.2 j hj).1, h2 j hj e]
theorem B8.far {w : World} {b c i : Nat} {f : Nat → Value} (h : B8 w b f) (hne : b ≠ c) (v : Value) : B8 (w.setCell ⟨c, i, none⟩ v) b f := by
  refine ⟨by rw [World.size_setCell]; exact h.1, fun j hj => ⟨?_, by rw [World.frozen?_setCell]; exact (h.2 j hj).2⟩⟩
  rw [World.cell?_setCell_other _ _ _ _ (by intro h'; injection h' with h' _; omega), (h.2 j hj).1]
/-- What stands after i rounds: the last i octets are there. -/
def lay (n : Int) (i j : Nat) : Value := if 8 ≤ i + j then oct n (7 - j) else .int .u8 0
theorem lay_step {n : Int} {i : Nat} (hi : i < 8) {w : World} {b : Nat} (h : B8 w b (lay n i)) : B8 (w.setCell ⟨b, 7 - i, none⟩ (oct n i)) b (lay n (i + 1)) := by
  refine h.set (by omega) ?_ fun j hj hne => ?_
  · unfold lay; rw [if_pos (by omega)]; congr 1; omega
  · unfold lay
    by_cases h8 : 8 ≤ i + j
    · rw [if_pos h8, if_pos (by omega)]
    · rw [if_neg h8, if_neg (by omega)]

theorem one_cell (z : Int) (W : World) (i : Nat) (hi : i < 1) : (W.alloc (.cells #[.int .u8 z] 5)).cell? ⟨W.heap.size, 0 + i, none⟩ = some (.int .u8 ([z].getD i 0)) := by
  obtain rfl : i = 0 := by omega
  simp [go_sem]
theorem convert_one (z : Int) (W : World) : (convert 23 9 (.slice (some ⟨W.heap.size, 0, none⟩) 1 1)).run Try.prog (W.alloc (.cells #[.int .u8 z] 5)) = .ok (.string (strOfNums [z])) (W.alloc (.cells #[.int .u8 z] 5)) :=
  run_convert_bytes_arg _ 23 5 Try.underlying23 Try.underlying5 W.heap.size 0 1 1 [z] rfl (one_cell z W) 9 Try.underlying9
theorem be_succ (n : Int) (k : Nat) : strOfNums [n / pw k % 256] ++ be n k = be n (k + 1) := by
  apply ByteArray.ext
  rw [ByteArray.data_append]
  unfold be strOfNums
  simp [dgs]

/-- The octets of n. -/
def arr (n : Int) : Value := .agg #[oct n 7, oct n 6, oct n 5, oct n 4, oct n 3, oct n 2, oct n 1, oct n 0]
theorem eight (t : TypeId) (w : World) : B8 (w.alloc (.cells #[.int .u8 0, .int .u8 0, .int .u8 0, .int .u8 0, .int .u8 0, .int .u8 0, .int .u8 0, .int .u8 0] t)) w.heap.size (fun _ => .int .u8 0) := by
  refine ⟨by simp, fun j hj => ?_⟩
  match j, hj with
  | 0, _ => exact ⟨by simp [go_sem], by simp [go_sem]⟩
  | 1, _ => exact ⟨by simp [go_sem], by simp [go_sem]⟩
  | 2, _ => exact ⟨by simp [go_sem], by simp [go_sem]⟩
  | 3, _ => exact ⟨by simp [go_sem], by simp [go_sem]⟩
  | 4, _ => exact ⟨by simp [go_sem], by simp [go_sem]⟩
  | 5, _ => exact ⟨by simp [go_sem], by simp [go_sem]⟩
  | 6, _ => exact ⟨by simp [go_sem], by simp [go_sem]⟩
  | 7, _ => exact ⟨by simp [go_sem], by simp [go_sem]⟩
set_option maxHeartbeats 1000000 in
theorem digits_any (n : Int) (hn : -9223372036854775808 ≤ n ∧ n ≤ 9223372036854775807) (w : World) :
    Calls Try.prog 84 #[.int .i64 n] w fun e w' => e = .returned (arr n) ∧ Bl w w' := by
  go_enter Try.func84, Try.ntmps84
  go_wp2
  go_loopw [0, 4, 5] (fun v _ i wr => ∃ k : Nat, k ≤ 8 ∧ i = .int .i64 k ∧ v = .int .i64 (n / pw k) ∧ Hid (B8 wr w.heap.size (fun _ => .int .u8 0)) ∧ Hid (B8 wr (w.heap.size + 1) (lay n k)) ∧ Hid (Bl w wr)) (fun _ _ i _ => 8 - (intOf i).toNat)
  case atStart =>
    refine ⟨0, by omega, rfl, by rw [pw_zero, Int.ediv_one], Lib.hid ((eight _ w).go ((Bl.refl _).alloc _)), Lib.hid ?_, Lib.hid (((Bl.refl w).alloc _).alloc _)⟩
    have h := eight 123 (w.alloc (.cells #[.int .u8 0, .int .u8 0, .int .u8 0, .int .u8 0, .int .u8 0, .int .u8 0, .int .u8 0, .int .u8 0] 123))
    rw [World.size_alloc] at h
    exact ⟨h.1, fun j hj => ⟨(h.2 j hj).1.trans (by unfold lay; rw [if_neg (by omega)]), (h.2 j hj).2⟩⟩
  case round =>
    obtain ⟨k, hk, rfl, rfl, HA, HB, hw⟩ := hrel
    by_cases hlt : k < 8
    · have HS := Lib.hid (lay_step hlt HB.out)
      have HD := Lib.hid (div_pw n k)
      have hb := div_in hn k
      have hc := (HB.out.2 (7 - k) (by omega)).1
      have hf := (HB.out.2 (7 - k) (by omega)).2
      have hbl := HB.out.1
      have FA := Lib.hid (HA.out.far (c := w.heap.size + 1) (i := 7 - k) (by omega) (oct n k))
      have FW := Lib.hid (hw.out.setCell (p := ⟨w.heap.size + 1, 7 - k, none⟩) (by show w.heap.size ≤ w.heap.size + 1; omega) (oct n k))
      unfold oct at HS FA FW
      have e7 : (7 - (k : Int)).toNat = 7 - k := by omega
      clear HB HA hw
      generalize lay n k (7 - k) = old at *
      generalize n / pw k = v at *
      go_wp2
      go_roundw
      case rel => exact ⟨k + 1, by omega, by go_num, by rw [← HD.out], FA, HS, FW⟩
      case measure => simp [intOf]; omega
    · obtain rfl : k = 8 := by omega
      have b0 : wr.cell? ⟨w.heap.size + 1, 0, none⟩ = some (.int .u8 (n / pw 7 % 256)) := (HB.out.2 0 (by omega)).1
      have a0 : wr.cell? ⟨w.heap.size, 0, none⟩ = some (.int .u8 0) := (HA.out.2 0 (by omega)).1
      have f0 : wr.frozen? ⟨w.heap.size, 0, none⟩ = false := (HA.out.2 0 (by omega)).2
      have b1 : wr.cell? ⟨w.heap.size + 1, 1, none⟩ = some (.int .u8 (n / pw 6 % 256)) := (HB.out.2 1 (by omega)).1
      have a1 : wr.cell? ⟨w.heap.size, 1, none⟩ = some (.int .u8 0) := (HA.out.2 1 (by omega)).1
      have f1 : wr.frozen? ⟨w.heap.size, 1, none⟩ = false := (HA.out.2 1 (by omega)).2
      have b2 : wr.cell? ⟨w.heap.size + 1, 2, none⟩ = some (.int .u8 (n / pw 5 % 256)) := (HB.out.2 2 (by omega)).1
      have a2 : wr.cell? ⟨w.heap.size, 2, none⟩ = some (.int .u8 0) := (HA.out.2 2 (by omega)).1
      have f2 : wr.frozen? ⟨w.heap.size, 2, none⟩ = false := (HA.out.2 2 (by omega)).2
      have b3 : wr.cell? ⟨w.heap.size + 1, 3, none⟩ = some (.int .u8 (n / pw 4 % 256)) := (HB.out.2 3 (by omega)).1
      have a3 : wr.cell? ⟨w.heap.size, 3, none⟩ = some (.int .u8 0) := (HA.out.2 3 (by omega)).1
      have f3 : wr.frozen? ⟨w.heap.size, 3, none⟩ = false := (HA.out.2 3 (by omega)).2
      have b4 : wr.cell? ⟨w.heap.size + 1, 4, none⟩ = some (.int .u8 (n / pw 3 % 256)) := (HB.out.2 4 (by omega)).1
      have a4 : wr.cell? ⟨w.heap.size, 4, none⟩ = some (.int .u8 0) := (HA.out.2 4 (by omega)).1
      have f4 : wr.frozen? ⟨w.heap.size, 4, none⟩ = false := (HA.out.2 4 (by omega)).2
      have b5 : wr.cell? ⟨w.heap.size + 1, 5, none⟩ = some (.int .u8 (n / pw 2 % 256)) := (HB.out.2 5 (by omega)).1
      have a5 : wr.cell? ⟨w.heap.size, 5, none⟩ = some (.int .u8 0) := (HA.out.2 5 (by omega)).1
      have f5 : wr.frozen? ⟨w.heap.size, 5, none⟩ = false := (HA.out.2 5 (by omega)).2
      have b6 : wr.cell? ⟨w.heap.size + 1, 6, none⟩ = some (.int .u8 (n / pw 1 % 256)) := (HB.out.2 6 (by omega)).1
      have a6 : wr.cell? ⟨w.heap.size, 6, none⟩ = some (.int .u8 0) := (HA.out.2 6 (by omega)).1
      have f6 : wr.frozen? ⟨w.heap.size, 6, none⟩ = false := (HA.out.2 6 (by omega)).2
      have b7 : wr.cell? ⟨w.heap.size + 1, 7, none⟩ = some (.int .u8 (n / pw 0 % 256)) := (HB.out.2 7 (by omega)).1
      have a7 : wr.cell? ⟨w.heap.size, 7, none⟩ = some (.int .u8 0) := (HA.out.2 7 (by omega)).1
      have f7 : wr.frozen? ⟨w.heap.size, 7, none⟩ = false := (HA.out.2 7 (by omega)).2
      have la := HA.out.1
      have lb := HB.out.1
      have e0 : arr n = .agg #[.int .u8 (n / pw 7 % 256), .int .u8 (n / pw 6 % 256), .int .u8 (n / pw 5 % 256), .int .u8 (n / pw 4 % 256), .int .u8 (n / pw 3 % 256), .int .u8 (n / pw 2 % 256), .int .u8 (n / pw 1 % 256), .int .u8 (n / pw 0 % 256)] := rfl
      clear HA HB hlt hk
      have HL0 := Lib.hid (Nat.le_refl w.heap.size)
      generalize ha : w.heap.size = a at *
      have HL := Lib.hid (Nat.le_of_eq ha)
      clear ha HL0
      generalize n / pw 0 % 256 = d0 at *
      generalize n / pw 1 % 256 = d1 at *
      generalize n / pw 2 % 256 = d2 at *
      generalize n / pw 3 % 256 = d3 at *
      generalize n / pw 4 % 256 = d4 at *
      generalize n / pw 5 % 256 = d5 at *
      generalize n / pw 6 % 256 = d6 at *
      generalize n / pw 7 % 256 = d7 at *
      go_wp2
      rw [e0]
      refine bodyPost_ret (v := .agg #[.int .u8 d7, .int .u8 d6, .int .u8 d5, .int .u8 d4, .int .u8 d3, .int .u8 d2, .int .u8 d1, .int .u8 d0]) (by simp [results, Try.results84, go_sem, a0, a1, a2, a3, a4, a5, a6, a7]) rfl ⟨rfl, ?_⟩
      exact (((((((hw.out.setCell HL.out _).setCell HL.out _).setCell HL.out _).setCell HL.out _).setCell HL.out _).setCell HL.out _).setCell HL.out _).setCell HL.out _

end Go.Proofs.Ytnapelocjcoofaa
