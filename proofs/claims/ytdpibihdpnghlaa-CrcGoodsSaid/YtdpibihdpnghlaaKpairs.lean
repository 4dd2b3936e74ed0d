/-
  CrcPairs: a sealed string of which exactly two bits are changed is not sealed.
-/
import Derived.Test.YtdpibihdpnghlaaKj
import Derived.Test.YtdpibihdpnghlaaKl
namespace Go.Proofs.Ytdpibihdpnghlaa
open Go.RowKit Go.Proofs.Ytdpibihdpnghlaa.Cr

/-- Good, by the register. -/
theorem chk_good {s : ByteArray} (h : 4 ≤ s.size) : chk s 0 = decide (cr 4294967295 s.data.toList = kS) := by
  have hl : s.data.toList.length = s.size := by simp
  have hi := good_iff (s := s.data.toList) (by rw [hl]; exact h)
  have e : sealB (bef s) 0 = s ↔ cr 4294967295 s.data.toList = kS := by
    rw [← hi]
    have hb : (bef s).data.toList = s.data.toList.take (s.data.toList.length - 4) := by
      unfold bef
      rw [ByteArray.data_extract, Array.toList_extract, List.extract_eq_take_drop, List.drop_zero, Nat.sub_zero, hl]
    constructor
    · intro hh
      have h1 := congrArg (fun b => b.data.toList) hh
      unfold sealB at h1
      simp only [ByteArray.data_append, Array.toList_append, bstr_list, Nat.xor_zero] at h1
      rw [hb] at h1
      exact h1
    · intro hh
      apply ByteArray.ext
      apply Array.toList_inj.1
      unfold sealB
      rw [ByteArray.data_append, Array.toList_append, bstr_list, Nat.xor_zero, hb]
      exact hh
  unfold chk
  by_cases hx : sealB (bef s) 0 = s
  · rw [decide_eq_true ⟨h, hx⟩, decide_eq_true (e.1 hx)]
  · rw [decide_eq_false (fun hh => hx hh.2), decide_eq_false (fun hh => hx (e.2 hh))]
theorem chk_marked {s : ByteArray} (h : 4 ≤ s.size) : chk s 4294901760 = decide (cr 4294967295 s.data.toList = kM) := by
  have hl : s.data.toList.length = s.size := by simp
  have hi := marked_iff (s := s.data.toList) (by rw [hl]; exact h)
  have e : sealB (bef s) 4294901760 = s ↔ cr 4294967295 s.data.toList = kM := by
    rw [← hi]
    have hb : (bef s).data.toList = s.data.toList.take (s.data.toList.length - 4) := by
      unfold bef
      rw [ByteArray.data_extract, Array.toList_extract, List.extract_eq_take_drop, List.drop_zero, Nat.sub_zero, hl]
    constructor
    · intro hh
      have h1 := congrArg (fun b => b.data.toList) hh
      unfold sealB at h1
      simp only [ByteArray.data_append, Array.toList_append, bstr_list] at h1
      rw [hb] at h1
      exact h1
    · intro hh
      apply ByteArray.ext
      apply Array.toList_inj.1
      unfold sealB
      rw [ByteArray.data_append, Array.toList_append, bstr_list, hb]
      exact hh
  unfold chk
  by_cases hx : sealB (bef s) 4294901760 = s
  · rw [decide_eq_true ⟨h, hx⟩, decide_eq_true (e.1 hx)]
  · rw [decide_eq_false (fun hh => hx hh.2), decide_eq_false (fun hh => hx (e.2 hh))]
/-- One bit changed. -/
def fb (t : ByteArray) (a : Nat) : ByteArray := bstr (fl1 t.data.toList a)
theorem flip_one {l : List UInt8} {a : Nat} (h : a < 8 * l.length) : Cr.flip l a 1 32 = fl1 l a := by
  have hn : ∀ i, 1 ≤ i → Cr.flip l a 1 i = fl1 l a := by
    intro i hi
    induction i with
    | zero => omega
    | succ i ih =>
      rcases Nat.eq_zero_or_pos i with rfl | hp
      · rw [Cr.flip, if_pos ⟨by decide, by omega⟩]; rfl
      · rw [Cr.flip, if_neg, ih hp]
        intro hh
        have h1 : 1 < 2 ^ i := Nat.one_lt_two_pow (by omega)
        rw [Nat.div_eq_of_lt h1] at hh
        exact absurd hh.1 (by decide)
  exact hn 32 (by decide)
theorem fb_size (t : ByteArray) (a : Nat) : (fb t a).size = t.size := by unfold fb; rw [bstr_size, fl1_length]; simp
theorem fb_list (t : ByteArray) (a : Nat) : (fb t a).data.toList = fl1 t.data.toList a := by unfold fb; rw [bstr_list]
theorem flip1_any (s : ByteArray) (a : Nat) (hs : (s.size : Int) ≤ 1000) (ha : a < 8 * s.size) (w : World) :
    Calls Try.prog 21 #[.string s, .int .i64 (a : Int), .int .u32 1] w fun e w' => e = .returned (.string (fb s a)) ∧ Bl w w' := by
  have h := flip_any s a 1 hs ha (by decide) w
  rw [flip_one (by simpa using ha)] at h
  exact h
theorem fl1_twice (l : List UInt8) (a : Nat) : fl1 (fl1 l a) a = l := by
  unfold fl1
  rw [List.modify_modify_eq]
  have e : ((fun b : UInt8 => b ^^^ UInt8.ofNat (2 ^ (a % 8))) ∘ fun b => b ^^^ UInt8.ofNat (2 ^ (a % 8))) = id := by
    funext b
    show (b ^^^ _) ^^^ _ = b
    rw [UInt8.xor_assoc, UInt8.xor_self, UInt8.xor_zero]
  rw [e, List.modify_id]
theorem reg_seal (s : ByteArray) : cr 4294967295 (sealB s 0).data.toList = kS := by
  unfold sealB
  rw [ByteArray.data_append, Array.toList_append, bstr_list, Nat.xor_zero]
  exact (seal_iff _ (ofN_lt _)).2 rfl
theorem one_bad {s : ByteArray} {a : Nat} (ha : a < 8 * (sealB s 0).size) : chk (fb (sealB s 0) a) 0 = false := by
  rw [chk_good (by rw [fb_size, sealB_size]; omega), fb_list]
  refine decide_eq_false fun h => ?_
  rw [← reg_seal s] at h
  exact cr_one_ne (by simpa using ha) h
theorem two_bad {s : ByteArray} {a b : Nat} (hs : s.size ≤ 200) (ha : a < 8 * (sealB s 0).size) (hb : b < 8 * (sealB s 0).size) : chk (fb (fb (sealB s 0) a) b) 0 = decide (a = b) := by
  by_cases hab : a = b
  · subst hab
    have e : fb (fb (sealB s 0) a) a = sealB s 0 := by
      apply ByteArray.ext
      apply Array.toList_inj.1
      rw [fb_list, fb_list, fl1_twice]
    rw [e, chk_seal, decide_eq_true rfl]
  · rw [chk_good (by rw [fb_size, fb_size, sealB_size]; omega), fb_list, fb_list, decide_eq_false hab]
    refine decide_eq_false fun h => ?_
    rw [← reg_seal s] at h
    have hsz := sealB_size s 0
    exact cr_pair_ne hab (by simpa using ha) (by simpa using hb) (by have : (sealB s 0).data.toList.length = (sealB s 0).size := by simp
                                                                     omega) h

theorem mod_at (a n : Nat) : ∃ A : Nat, (a : Int) % (8 * ((n : Int) + 4)) = (A : Int) ∧ A < 8 * (n + 4) := by
  refine ⟨a % (8 * (n + 4)), ?_, Nat.mod_lt _ (by omega)⟩
  rw [Int.natCast_emod, Int.natCast_mul, Int.natCast_add]
  rfl
set_option maxRecDepth 20000 in
set_option maxHeartbeats 1000000 in
theorem pairs_law (s : ByteArray) (a b : Nat) (hs : s.size ≤ maxLen) (ha : a < 65536) (hb : b < 65536) (w : World) :
    Calls Try.prog 6 #[.string s, .agg #[.int .u16 (a : Int), .int .u16 (b : Int)]] w fun e w' => e = .returned (.bool true) ∧ Bl w w' := by
  have KW := Lib.hid (fun w => works_any w)
  unfold maxLen at hs
  obtain ⟨p, hp1, hp2, hp3⟩ : ∃ p : Nat, (if (200 : Int) < s.size then 200 else (s.size : Int)) = (p : Int) ∧ p ≤ s.size ∧ p ≤ 200 := ⟨min s.size 200, by split <;> omega, by omega, by omega⟩
  have hsz : (s.extract 0 p).size = p := by rw [ByteArray.size_extract]; omega
  have KS := Lib.hid (fun w => seal_any (s.extract 0 p) (by omega) w)
  go_enter Try.func6, Try.ntmps6
  go_wp2_with fail
  refine (KW.out _).mono ?_; rintro e w1 ⟨rfl, gr⟩
  have k0 := (gr.cell (p := ⟨w.heap.size, 0, none⟩) (by simp <;> omega)).trans (show _ = some (Value.int .u16 (a : Int)) by simp [go_sem])
  have k1 := (gr.cell (p := ⟨w.heap.size, 1, none⟩) (by simp <;> omega)).trans (show _ = some (Value.int .u16 (b : Int)) by simp [go_sem])
  have hlt : w.heap.size < w1.heap.size := Nat.lt_of_lt_of_le (by simp <;> omega) gr.size
  have G := Lib.hid (Bl.trans ((Bl.refl w).alloc _) gr); clear gr
  generalize w.heap.size = h at *
  go_wp2_with fail
  refine (KS.out _).mono ?_; rintro e w2 ⟨rfl, gr⟩
  replace k0 := (gr.cell (p := ⟨h, 0, none⟩) hlt).trans k0
  replace k1 := (gr.cell (p := ⟨h, 1, none⟩) hlt).trans k1
  replace G := Lib.hid (Bl.trans G.out gr); clear gr
  generalize s.extract 0 p = s1 at *
  clear hp1 hs hp2
  subst hsz
  have hy := sealB_size s1 0
  have hq := reg_seal s1
  go_wp2_with fail
  have hw8 : IntKind.i64.wrap (8 * ((s1.size : Int) + 4)) = 8 * ((s1.size : Int) + 4) := IntWalk.i64_in _ (by omega)
  have hd0 : ¬ 8 * ((s1.size : Int) + 4) = 0 := by omega
  have hd1 : 0 < 8 * ((s1.size : Int) + 4) := by omega
  go_quiet (fail)
  replace G := Lib.hid (G.out.drewN nq)
  clear k0 k1 hw8 hd0 hd1 hlt
  generalize w2.drewN nq = wd at *
  obtain ⟨A, hA, hA1⟩ := mod_at a s1.size
  obtain ⟨B, hB, hB1⟩ := mod_at b s1.size
  rw [hA, hB]
  clear hA hB
  have F1 := Lib.hid (fun w => flip1_any (sealB s1 0) A (by omega) (by omega) w)
  have F2 := Lib.hid (fun w => flip1_any (fb (sealB s1 0) A) B (by rw [fb_size]; omega) (by rw [fb_size]; omega) w)
  have g1 := one_bad (s := s1) (a := A) (by omega)
  have g2 := two_bad (s := s1) (a := A) (b := B) hp3 (by omega) (by omega)
  have L1 := Lib.hid (fun w => g1 ▸ good_any (fb (sealB s1 0) A) (by rw [fb_size]; omega) w)
  have L2 := Lib.hid (fun w => g2 ▸ good_any (fb (fb (sealB s1 0) A) B) (by rw [fb_size, fb_size]; omega) w)
  clear g1 g2 hq
  have hAB : ((A : Int) == (B : Int)) = decide (A = B) := by
    by_cases e : A = B
    · rw [e, decide_eq_true rfl]; simp
    · rw [decide_eq_false e]; simp; omega
  generalize fb (fb (sealB s1 0) A) B = z at *
  generalize fb (sealB s1 0) A = x at *
  generalize sealB s1 0 = y at *
  generalize decide (A = B) = r at *
  go_wp2_with fail
  refine (F1.out _).mono ?_; rintro e w3 ⟨rfl, gr⟩
  replace G := Lib.hid (Bl.trans G.out gr); clear gr
  go_wp2_with fail
  refine (F2.out _).mono ?_; rintro e w4 ⟨rfl, gr⟩
  replace G := Lib.hid (Bl.trans G.out gr); clear gr
  go_wp2_with fail
  refine (L2.out _).mono ?_; rintro e w5 ⟨rfl, gr⟩
  replace G := Lib.hid (Bl.trans G.out gr); clear gr
  go_wp2_with fail
  refine (F1.out _).mono ?_; rintro e w6 ⟨rfl, gr⟩
  replace G := Lib.hid (Bl.trans G.out gr); clear gr
  go_wp2_with fail
  refine (L1.out _).mono ?_; rintro e w7 ⟨rfl, gr⟩
  replace G := Lib.hid (Bl.trans G.out gr); clear gr
  go_wp2_with fail
  go_ret
  exact ⟨rfl, G.out⟩

end Go.Proofs.Ytdpibihdpnghlaa
