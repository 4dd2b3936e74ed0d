/-
  What isResidue, isSize, isWhole of package merge and Whole of the reference return.
-/
import Derived.Test.YtnapelocjcoofaaVa
import Derived.Test.YtnapelocjcoofaaKi
namespace Go.Proofs.Ytnapelocjcoofaa
open Go.RowKit Go.Proofs.Ytnapelocjcoofaa.Cr

/-- Is n from 0 to 3? Is n a number of octets of a frame? Is s a whole frame? -/
def rsB (n : Int) : Bool := decide (0 ≤ n ∧ n ≤ 3)
def szB (n : Int) : Bool := decide (64 ≤ n ∧ n ≤ 1522)
def whB (s : ByteArray) : Bool := szB s.size && chk s 0
theorem whB_iff {s : ByteArray} : whB s = true ↔ (64 ≤ s.size ∧ s.size ≤ 1522) ∧ chk s 0 = true := by
  unfold whB szB
  rw [Bool.and_eq_true, decide_eq_true_iff]
  constructor <;> (rintro ⟨h1, h2⟩; exact ⟨by omega, h2⟩)

theorem isResidue_any (n : Int) (w : World) :
    Calls Try.prog 37 #[.int .i64 n] w fun e w' => e = .returned (.bool (rsB n)) ∧ w = w' := by
  by_cases h0 : 0 ≤ n
  · by_cases h1 : n < 4
    · go_enter Try.func37, Try.ntmps37
      go_wp2
      go_ret
      exact ⟨by rw [show rsB n = true from decide_eq_true (by omega)]; rfl, rfl⟩
    · go_enter Try.func37, Try.ntmps37
      go_wp2
      go_ret
      exact ⟨by rw [show rsB n = false from decide_eq_false (by omega)]; rfl, rfl⟩
  · go_enter Try.func37, Try.ntmps37
    go_wp2
    go_ret
    exact ⟨by rw [show rsB n = false from decide_eq_false (by omega)]; rfl, rfl⟩
theorem isSize_any (n : Int) (w : World) :
    Calls Try.prog 50 #[.int .i64 n] w fun e w' => e = .returned (.bool (szB n)) ∧ w = w' := by
  by_cases h0 : 64 ≤ n
  · by_cases h1 : n ≤ 1522
    · go_enter Try.func50, Try.ntmps50
      go_wp2
      go_ret
      exact ⟨by rw [show szB n = true from decide_eq_true (by omega)]; rfl, rfl⟩
    · go_enter Try.func50, Try.ntmps50
      go_wp2
      go_ret
      exact ⟨by rw [show szB n = false from decide_eq_false (by omega)]; rfl, rfl⟩
  · go_enter Try.func50, Try.ntmps50
    go_wp2
    go_ret
    exact ⟨by rw [show szB n = false from decide_eq_false (by omega)]; rfl, rfl⟩

theorem isSize_v {n : Int} {b : Bool} (h : szB n = b) (w : World) :
    Calls Try.prog 50 #[.int .i64 n] w fun e w' => e = .returned (.bool b) ∧ w = w' := by subst h; exact isSize_any n w
theorem isResidue_v {n : Int} {b : Bool} (h : rsB n = b) (w : World) :
    Calls Try.prog 37 #[.int .i64 n] w fun e w' => e = .returned (.bool b) ∧ w = w' := by subst h; exact isResidue_any n w

set_option maxHeartbeats 400000 in
theorem isWhole_any (s : ByteArray) (hs : (s.size : Int) ≤ 8000) (w : World) :
    Calls Try.prog 36 #[.string s] w fun e w' => e = .returned (.bool (whB s)) ∧ Bl w w' := by
  unfold whB
  have KG := Lib.hid (fun w => good_any s hs w)
  rcases hb : szB s.size with _ | _
  · have KS := Lib.hid (fun w => isSize_v hb w)
    clear hb
    generalize chk s 0 = r at *
    go_enter Try.func36, Try.ntmps36
    go_wp2_with fail
    refine (KS.out _).mono ?_; rintro e w1 ⟨rfl, rfl⟩
    go_wp2_with fail
    go_ret
    exact ⟨rfl, Bl.refl _⟩
  · have KS := Lib.hid (fun w => isSize_v hb w)
    clear hb
    generalize chk s 0 = r at *
    go_enter Try.func36, Try.ntmps36
    go_wp2_with fail
    refine (KS.out _).mono ?_; rintro e w1 ⟨rfl, rfl⟩
    go_wp2_with fail
    refine (KG.out _).mono ?_; rintro e w2 ⟨rfl, gr⟩
    have G := Lib.hid gr; clear gr
    go_wp2_with fail
    go_ret
    exact ⟨rfl, G.out⟩
set_option maxHeartbeats 400000 in
theorem rwhole_any (s : ByteArray) (hs : (s.size : Int) ≤ 8000) (w : World) :
    Calls Try.prog 41 #[.string s] w fun e w' => e = .returned (.bool (whB s)) ∧ Bl w w' := by
  unfold whB
  have KG := Lib.hid (fun w => rgood_any s hs w)
  by_cases h0 : (64 : Int) ≤ s.size
  · by_cases h1 : (s.size : Int) ≤ 1522
    · rw [show szB s.size = true from decide_eq_true ⟨h0, h1⟩]
      generalize chk s 0 = r at *
      go_enter Try.func41, Try.ntmps41
      go_wp2_with fail
      refine (KG.out _).mono ?_; rintro e w2 ⟨rfl, gr⟩
      have G := Lib.hid gr; clear gr
      go_wp2_with fail
      go_ret
      exact ⟨rfl, G.out⟩
    · rw [show szB s.size = false from decide_eq_false (fun h => h1 h.2)]
      go_enter Try.func41, Try.ntmps41
      go_wp2_with fail
      go_ret
      exact ⟨rfl, Bl.refl _⟩
  · rw [show szB s.size = false from decide_eq_false (fun h => h0 h.1)]
    go_enter Try.func41, Try.ntmps41
    go_wp2_with fail
    go_ret
    exact ⟨rfl, Bl.refl _⟩

end Go.Proofs.Ytnapelocjcoofaa
