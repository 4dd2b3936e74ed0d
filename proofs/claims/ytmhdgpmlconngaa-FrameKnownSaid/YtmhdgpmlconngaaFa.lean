/-
  Frames: what makes one valid, the octets of its encoding, and what Check, Right and their parts return.
-/
import Derived.Test.YtmhdgpmlconngaaKh
import Derived.Deep.RegionHeld3
namespace Go.Proofs.Ytmhdgpmlconngaa
open Go.RowKit Go.Proofs.Ytmhdgpmlconngaa.Cr

/-- A frame. -/
structure Fr where
  dst : Int
  src : Int
  tag : Bool
  prio : Int
  vid : Int
  red : Bool
  seq : Int
  typ : Int
  data : ByteArray

/-- A frame as a value. -/
def Fr.v (f : Fr) : Value := .agg #[.int .i64 f.dst, .int .i64 f.src, .bool f.tag, .int .i64 f.prio, .int .i64 f.vid, .bool f.red, .int .i64 f.seq, .int .i64 f.typ, .string f.data]
/-- The frame of zeros. -/
def noF : Fr := ⟨0, 0, false, 0, 0, false, 0, 0, noS⟩

/-- Is n from 0 to m? -/
def to (n m : Int) : Bool := decide (0 ≤ n ∧ n ≤ m)
theorem to_t {n m : Int} (h : 0 ≤ n ∧ n ≤ m) : to n m = true := decide_eq_true h
theorem to_f {n m : Int} (h : ¬ (0 ≤ n ∧ n ≤ m)) : to n m = false := decide_eq_false h
theorem to_iff {n m : Int} : to n m = true ↔ (0 ≤ n ∧ n ≤ m) := decide_eq_true_iff
def ifs (b : Bool) (m : Int) : Int := if b then m else 0
/-- Are the fields of the tags in their ranges? -/
def gB (f : Fr) : Bool := to f.prio (ifs f.tag 7) && to f.vid (ifs f.tag 4094) && to f.seq (ifs f.red 65535)
def tB (n : Int) : Bool := decide (n = 0 ∨ (1536 ≤ n ∧ n ≤ 65535 ∧ n ≠ 33024 ∧ n ≠ 61889))
theorem tB_t {n : Int} (h : n = 0 ∨ (1536 ≤ n ∧ n ≤ 65535 ∧ n ≠ 33024 ∧ n ≠ 61889)) : tB n = true := decide_eq_true h
theorem tB_f {n : Int} (h : ¬ (n = 0 ∨ (1536 ≤ n ∧ n ≤ 65535 ∧ n ≠ 33024 ∧ n ≠ 61889))) : tB n = false := decide_eq_false h
theorem tB_iff {n : Int} : tB n = true ↔ (n = 0 ∨ (1536 ≤ n ∧ n ≤ 65535 ∧ n ≠ 33024 ∧ n ≠ 61889)) := decide_eq_true_iff
def rm (b : Bool) : Int := if b then 1494 else 1500
/-- Is the frame valid? -/
def okB (f : Fr) : Bool := to f.dst 281474976710655 && to f.src 281474976710655 && gB f && tB f.typ && decide ((f.data.size : Int) ≤ rm f.red)
/-- Check's error. -/
def chE (f : Fr) : Int := if okB f then 0 else 170
theorem chE_t {f : Fr} (h : okB f = true) : chE f = 0 := by unfold chE; rw [if_pos h]
theorem chE_f {f : Fr} (h : okB f = false) : chE f = 170 := by unfold chE; rw [if_neg (by simp [h])]

theorem isTo_any (n m : Int) (w : World) :
    Calls Try.prog 32 #[.int .i64 n, .int .i64 m] w fun e w' => e = .returned (.bool (to n m)) ∧ w = w' := by
  by_cases h1 : 0 ≤ n
  · by_cases h2 : n ≤ m
    · go_enter Try.func32, Try.ntmps32
      go_wp2
      go_ret
      exact ⟨ret_bool (to_t ⟨h1, h2⟩).symm, rfl⟩
    · go_enter Try.func32, Try.ntmps32
      go_wp2
      go_ret
      exact ⟨ret_bool (to_f (by omega)).symm, rfl⟩
  · go_enter Try.func32, Try.ntmps32
    go_wp2
    go_ret
    exact ⟨ret_bool (to_f (by omega)).symm, rfl⟩
theorem isTo_v {n m : Int} {c : Bool} (h : to n m = c) (w : World) :
    Calls Try.prog 32 #[.int .i64 n, .int .i64 m] w fun e w' => e = .returned (.bool c) ∧ w = w' := by
  have := isTo_any n m w; rw [h] at this; exact this
theorem rin_any (n m : Int) (w : World) :
    Calls Try.prog 55 #[.int .i64 n, .int .i64 m] w fun e w' => e = .returned (.bool (to n m)) ∧ w = w' := by
  by_cases h1 : 0 ≤ n
  · by_cases h2 : n ≤ m
    · go_enter Try.func55, Try.ntmps55
      go_wp2
      go_ret
      exact ⟨ret_bool (to_t ⟨h1, h2⟩).symm, rfl⟩
    · go_enter Try.func55, Try.ntmps55
      go_wp2
      go_ret
      exact ⟨ret_bool (to_f (by omega)).symm, rfl⟩
  · go_enter Try.func55, Try.ntmps55
    go_wp2
    go_ret
    exact ⟨ret_bool (to_f (by omega)).symm, rfl⟩
theorem rin_v {n m : Int} {c : Bool} (h : to n m = c) (w : World) :
    Calls Try.prog 55 #[.int .i64 n, .int .i64 m] w fun e w' => e = .returned (.bool c) ∧ w = w' := by
  have := rin_any n m w; rw [h] at this; exact this
theorem ifSet_any (b : Bool) (m : Int) (w : World) :
    Calls Try.prog 56 #[.bool b, .int .i64 m] w fun e w' => e = .returned (.int .i64 (ifs b m)) ∧ w = w' := by
  cases b
  · go_enter Try.func56, Try.ntmps56
    go_wp2
    go_ret
    exact ⟨rfl, rfl⟩
  · go_enter Try.func56, Try.ntmps56
    go_wp2
    go_ret
    exact ⟨rfl, rfl⟩
theorem room_any (f : Fr) (w : World) :
    Calls Try.prog 35 #[f.v] w fun e w' => e = .returned (.int .i64 (rm f.red)) ∧ Bl w w' := by
  obtain ⟨d, s, t, p, v, r, q, y, x⟩ := f
  unfold Fr.v
  cases r
  · go_enter Try.func35, Try.ntmps35
    go_wp2
    go_ret
    exact ⟨rfl, (Bl.refl _).alloc _⟩
  · go_enter Try.func35, Try.ntmps35
    go_wp2
    go_ret
    exact ⟨rfl, (Bl.refl _).alloc _⟩
theorem isType_any (n : Int) (w : World) :
    Calls Try.prog 34 #[.int .i64 n] w fun e w' => e = .returned (.bool (tB n)) ∧ w = w' := by
  by_cases h0 : n = 0
  · subst h0
    go_enter Try.func34, Try.ntmps34
    go_wp2
    go_ret
    exact ⟨rfl, rfl⟩
  · have c0 : (n == 0) = false := beq_eq_false_iff_ne.2 h0
    by_cases h1 : 1536 ≤ n
    · by_cases h2 : n ≤ 65535
      · by_cases h3 : n = 33024
        · subst h3
          go_enter Try.func34, Try.ntmps34
          go_wp2
          go_ret
          exact ⟨rfl, rfl⟩
        · by_cases h4 : n = 61889
          · subst h4
            go_enter Try.func34, Try.ntmps34
            go_wp2
            go_ret
            exact ⟨rfl, rfl⟩
          · have c3 : (n != 33024) = true := bne_iff_ne.2 h3
            have c4 : (n != 61889) = true := bne_iff_ne.2 h4
            go_enter Try.func34, Try.ntmps34
            go_wp2
            go_ret
            exact ⟨ret_bool (tB_t (by omega)).symm, rfl⟩
      · go_enter Try.func34, Try.ntmps34
        go_wp2
        go_ret
        exact ⟨ret_bool (tB_f (by omega)).symm, rfl⟩
    · go_enter Try.func34, Try.ntmps34
      go_wp2
      go_ret
      exact ⟨ret_bool (tB_f (by omega)).symm, rfl⟩
theorem isType_v {n : Int} {c : Bool} (h : tB n = c) (w : World) :
    Calls Try.prog 34 #[.int .i64 n] w fun e w' => e = .returned (.bool c) ∧ w = w' := by
  have := isType_any n w; rw [h] at this; exact this

end Go.Proofs.Ytmhdgpmlconngaa
