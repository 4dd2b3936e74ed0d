/-
  What malformed returns of a string that is decoded; strings with some of 32 consecutive bits changed.
-/
import Derived.Test.YtmhdgpmlconngaaFv
import Derived.Test.YtmhdgpmlconngaaFx
import Derived.Test.YtmhdgpmlconngaaKj
namespace Go.Proofs.Ytmhdgpmlconngaa
open Go.RowKit Go.Proofs.Ytmhdgpmlconngaa.Cr

set_option maxHeartbeats 1000000 in
theorem malformed_f (s : ByteArray) (hs : (s.size : Int) ≤ 8000) {f : Fr} (h : dec s = some f) (w : World) : Calls Try.prog 25 #[.string s] w fun e w' => e = .returned (.bool false) ∧ Bl w w' := by
  have KD := Lib.hid (fun w => deR_ok h ▸ fdecode_any s hs w)
  clear h
  obtain ⟨d, sr, t, p, v, r, q, y, x⟩ := f
  unfold Fr.v at KD
  go_enter Try.func25, Try.ntmps25
  go_wp2_with fail
  refine (KD.out _).mono ?_; rintro e wn ⟨rfl, hgr⟩
  have G := Lib.hid hgr; clear hgr
  go_wp2_with fail
  all_goals (go_ret; exact ⟨rfl, G.out.alloc _⟩)
theorem dec_good {s : ByteArray} {f : Fr} (h : dec s = some f) : chk s 0 = true := by
  rcases bcase (chk s 0) with hc | hc
  · exact hc
  · rw [dec_chk hc] at h; cases h

/-- Good, by the register. -/
theorem chk_good {s : ByteArray} (h : 4 ≤ s.size) : chk s 0 = decide (cr 4294967295 s.data.toList = kS) := by
  have hl : s.data.toList.length = s.size := by simp
  have hi := good_iff (s := s.data.toList) (by rw [hl]; exact h)
  have e : sealB (bef s) 0 = s ↔ cr 4294967295 s.data.toList = kS := by
    rw [← hi]
    have hb : (bef s).data.toList = s.data.toList.take (s.data.toList.length - 4) := by
      unfold bef
      rw [ByteArray.data_extract, Array.toList_extract, List.extract_eq_take_drop, List.drop_zero, Nat.sub_zero, hl]
    constructor
    · intro hh
      have h1 := congrArg (fun b => b.data.toList) hh
      unfold sealB at h1
      simp only [ByteArray.data_append, Array.toList_append, bstr_list, Nat.xor_zero] at h1
      rw [hb] at h1
      exact h1
    · intro hh
      apply ByteArray.ext
      apply Array.toList_inj.1
      unfold sealB
      simp only [ByteArray.data_append, Array.toList_append, bstr_list, Nat.xor_zero]
      rw [hb]
      exact hh
  unfold chk
  by_cases h2 : sealB (bef s) 0 = s
  · rw [decide_eq_true ⟨h, h2⟩, decide_eq_true (e.1 h2)]
  · rw [decide_eq_false (fun hh => h2 hh.2), decide_eq_false (fun hh => h2 (e.2 hh))]
/-- A string with some of its bits changed. -/
def fp (t : ByteArray) (k p : Nat) : ByteArray := bstr (Cr.flip t.data.toList k p 32)
theorem fp_size (t : ByteArray) (k p : Nat) : (fp t k p).size = t.size := by unfold fp; rw [bstr_size, flip_length]; simp
theorem fp_list (t : ByteArray) (k p : Nat) : (fp t k p).data.toList = Cr.flip t.data.toList k p 32 := by unfold fp; rw [bstr_list]
theorem fp_ne {t : ByteArray} {k p : Nat} (hk : k < 8 * t.size) (hp : p < 4294967296) (h : cr 4294967295 (fp t k p).data.toList = cr 4294967295 t.data.toList) : fp t k p = t := by
  rw [fp_list] at h
  have e := cr_flip_ne (l := t.data.toList) (k := k) (p := p) (c := 4294967295) (by have : t.data.toList.length = t.size := by simp
                                                                                    omega) hp h
  apply ByteArray.ext
  apply Array.toList_inj.1
  rw [fp_list, e]
theorem burst_good {t : ByteArray} {k p : Nat} (h4 : 4 ≤ t.size) (hk : k < 8 * t.size) (hp : p < 4294967296) (hne : fp t k p ≠ t) (hg : chk t 0 = true) : chk (fp t k p) 0 = false := by
  rw [chk_good h4, decide_eq_true_eq] at hg
  rw [chk_good (by rw [fp_size]; exact h4)]
  exact decide_eq_false fun h => hne (fp_ne hk hp (h.trans hg.symm))

end Go.Proofs.Ytmhdgpmlconngaa
