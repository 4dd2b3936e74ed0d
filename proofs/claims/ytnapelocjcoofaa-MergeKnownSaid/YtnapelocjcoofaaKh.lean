/-
  What isChecked, Good and Marked return.
-/
import Derived.Test.YtnapelocjcoofaaKg
namespace Go.Proofs.Ytnapelocjcoofaa
open Go.RowKit Go.Proofs.Ytnapelocjcoofaa.Cr

/-- What stands before the last four octets. -/
def bef (s : ByteArray) : ByteArray := s.extract 0 (s.size - 4)
/-- Is s a string and its check octets? -/
def chk (s : ByteArray) (m : Nat) : Bool := decide (4 ≤ s.size ∧ sealB (bef s) m = s)
theorem chk_short {s : ByteArray} {m : Nat} (h : s.size < 4) : chk s m = false := decide_eq_false (by omega)
theorem split4 {s : ByteArray} (h : 4 ≤ s.size) : bef s ++ s.extract (s.size - 4) s.size = s := by
  apply ByteArray.ext
  unfold bef
  rw [ByteArray.data_append, ByteArray.data_extract, ByteArray.data_extract, Array.extract_append_extract, Nat.zero_min, Nat.max_eq_right (by omega)]
  simp
theorem chk_long {s y x : ByteArray} {m : Nat} (h : 4 ≤ s.size) (hy : s.extract (s.size - 4) s.size = y) (hx : bstr (le4 (ofN (bef s).data.toList ^^^ m)) = x) : decide (y = x) = chk s m := by
  have e := split4 h
  rw [hy] at e
  unfold chk sealB
  rw [hx]
  by_cases hxy : y = x
  · rw [decide_eq_true hxy, decide_eq_true ⟨h, by rw [← hxy]; exact e⟩]
  · rw [decide_eq_false hxy, decide_eq_false (fun hh => hxy ?_)]
    have h2 := hh.2
    rw [← e] at h2
    have h3 := congrArg (fun b => b.data.toList) h2
    simp only [ByteArray.data_append, Array.toList_append] at h3
    have h4 : bef (bef s ++ y) = bef s := by rw [e]
    rw [h4] at h3
    have h5 := List.append_cancel_left h3
    apply ByteArray.ext
    exact (Array.toList_inj.1 h5).symm

theorem beq_bytes (y x : ByteArray) : (y.toList == x.toList) = decide (y = x) := by
  rw [ByteArray.toList_eq, ByteArray.toList_eq]
  by_cases h : y = x
  · rw [decide_eq_true h, h]; simp
  · rw [decide_eq_false h]
    rw [beq_eq_false_iff_ne]
    intro hh
    exact h (ByteArray.ext (Array.toList_inj.1 hh))

set_option maxHeartbeats 400000 in
theorem isChecked_any (s : ByteArray) (m : Nat) (hm : m < 4294967296) (hs : (s.size : Int) ≤ 8000) (w : World) :
    Calls Try.prog 52 #[.string s, u32 m] w fun e w' => e = .returned (.bool (chk s m)) ∧ Bl w w' := by
  have KF := Lib.hid (fun w => field_any s ((s.size : Int) - 4) 4 hs (by omega) (by omega) w)
  by_cases h4 : s.size < 4
  · rw [chk_short h4]
    have hE : fdE s ((s.size : Int) - 4) 4 = 2 := fdE_arg (by omega)
    rw [hE, fdS_no (by rw [hE]; decide)] at KF
    unfold u32
    go_enter Try.func52, Try.ntmps52
    go_wp2_with fail
    refine (KF.out _).mono ?_; rintro e w1 ⟨rfl, rfl⟩
    go_wp2_with fail
    go_ret
    exact ⟨rfl, Bl.refl _⟩
  · have hE : fdE s ((s.size : Int) - 4) 4 = 0 := fdE_ok (by omega) (by omega)
    have hS : fdS s ((s.size : Int) - 4) 4 = s.extract (s.size - 4) s.size := by
      rw [fdS_ok (by omega) (by omega)]
      congr 1 <;> omega
    rw [hE, hS] at KF
    have hb : (bef s).size = s.size - 4 := by unfold bef; rw [ByteArray.size_extract]; omega
    have KC := Lib.hid (fun w => checks_any (bef s) m hm (by omega) w)
    have e4 : ((s.size : Int) - 4).toNat = s.size - 4 := by omega
    have E := Lib.hid (chk_long (m := m) (show 4 ≤ s.size by omega) rfl rfl)
    generalize s.extract (s.size - 4) s.size = y at *
    generalize bstr (le4 (ofN (bef s).data.toList ^^^ m)) = x at *
    unfold bef at *
    unfold u32 at *
    go_enter Try.func52, Try.ntmps52
    go_wp2_with fail
    refine (KF.out _).mono ?_; rintro e w1 ⟨rfl, rfl⟩
    go_wp2_with fail
    refine (KC.out _).mono ?_; rintro e w2 ⟨rfl, gr⟩
    have G := Lib.hid gr; clear gr
    go_wp2_with fail
    go_ret
    exact ⟨by rw [← E.out, ← beq_bytes]; rfl, G.out⟩
set_option maxHeartbeats 400000 in
theorem good_any (s : ByteArray) (hs : (s.size : Int) ≤ 8000) (w : World) :
    Calls Try.prog 28 #[.string s] w fun e w' => e = .returned (.bool (chk s 0)) ∧ Bl w w' := by
  have KC := Lib.hid (fun w => isChecked_any s 0 (by decide) hs w)
  unfold u32 at KC
  generalize chk s 0 = r at *
  go_enter Try.func28, Try.ntmps28
  go_wp2_with fail
  refine (KC.out _).mono ?_; rintro e w1 ⟨rfl, gr⟩
  have G := Lib.hid gr; clear gr
  go_wp2_with fail
  go_ret
  exact ⟨rfl, G.out⟩
set_option maxHeartbeats 400000 in
theorem marked_any (s : ByteArray) (hs : (s.size : Int) ≤ 8000) (w : World) :
    Calls Try.prog 73 #[.string s] w fun e w' => e = .returned (.bool (chk s 4294901760)) ∧ Bl w w' := by
  have KC := Lib.hid (fun w => isChecked_any s 4294901760 (by decide) hs w)
  unfold u32 at KC
  generalize chk s 4294901760 = r at *
  go_enter Try.func73, Try.ntmps73
  go_wp2_with fail
  refine (KC.out _).mono ?_; rintro e w1 ⟨rfl, gr⟩
  have G := Lib.hid gr; clear gr
  go_wp2_with fail
  go_ret
  exact ⟨rfl, G.out⟩

end Go.Proofs.Ytnapelocjcoofaa
