/-
  What appended, Put and PutSigned of package wire return, and Put and PutSigned of its reference.
-/
import Derived.Test.YtnapelocjcoofaaWd
import Derived.Deep.RegionHeld3
namespace Go.Proofs.Ytnapelocjcoofaa
open Go.RowKit

theorem arr_cells {n : Int} {w : World} {b : Nat} (h : ∀ j, j < 8 → w.cell? ⟨b, j, none⟩ = some (oct n (7 - j))) (k : Nat) (hk : k ≤ 8) (cap : Nat) :
    (convert 23 9 (.slice (some ⟨b, 8 - k, none⟩) k cap)).run Try.prog w = .ok (.string (be n k)) w :=
  run_convert_bytes_arg w 23 5 Try.underlying23 Try.underlying5 b (8 - k) k cap (dgs n k) (dgs_length n k) (fun i hi => by
    rw [dgs_getD n k i hi, h (8 - k + i) (by omega)]
    unfold oct
    rw [show 7 - (8 - k + i) = k - 1 - i by omega]) 9 Try.underlying9

theorem eight_of {n : Int} (W : World) (t : TypeId) (v0 v1 v2 v3 v4 v5 v6 v7 : Value) (j : Nat) (hj : j < 8) (h0 : v0 = oct n 7 := by rfl) (h1 : v1 = oct n 6 := by rfl) (h2 : v2 = oct n 5 := by rfl) (h3 : v3 = oct n 4 := by rfl) (h4 : v4 = oct n 3 := by rfl) (h5 : v5 = oct n 2 := by rfl) (h6 : v6 = oct n 1 := by rfl) (h7 : v7 = oct n 0 := by rfl) :
    (W.alloc (.cells #[v0, v1, v2, v3, v4, v5, v6, v7] t)).cell? ⟨W.heap.size, j, none⟩ = some (oct n (7 - j)) := by
  subst h0 h1 h2 h3 h4 h5 h6 h7
  match j, hj with
  | 0, _ => simp [go_sem]
  | 1, _ => simp [go_sem]
  | 2, _ => simp [go_sem]
  | 3, _ => simp [go_sem]
  | 4, _ => simp [go_sem]
  | 5, _ => simp [go_sem]
  | 6, _ => simp [go_sem]
  | 7, _ => simp [go_sem]

theorem cut_eight (b k : Nat) (h1 : 1 ≤ k) (h8 : k ≤ 8) (W : World) :
    (Instr.sliceAt 123 (.pointer (some ⟨b, 0, none⟩)) (some (.int .i64 (8 - (k : Int)))) none none).run Try.prog W = .ok (.slice (some ⟨b, 8 - k, none⟩) k k) W := by
  match k, h1, h8 with
  | 1, _, _ => show (Instr.sliceAt 123 (.pointer (some ⟨b, 0, none⟩)) (some (.int .i64 7)) none none).run Try.prog W = .ok (.slice (some ⟨b, 7, none⟩) 1 1) W; kernel_rfl
  | 2, _, _ => show (Instr.sliceAt 123 (.pointer (some ⟨b, 0, none⟩)) (some (.int .i64 6)) none none).run Try.prog W = .ok (.slice (some ⟨b, 6, none⟩) 2 2) W; kernel_rfl
  | 3, _, _ => show (Instr.sliceAt 123 (.pointer (some ⟨b, 0, none⟩)) (some (.int .i64 5)) none none).run Try.prog W = .ok (.slice (some ⟨b, 5, none⟩) 3 3) W; kernel_rfl
  | 4, _, _ => show (Instr.sliceAt 123 (.pointer (some ⟨b, 0, none⟩)) (some (.int .i64 4)) none none).run Try.prog W = .ok (.slice (some ⟨b, 4, none⟩) 4 4) W; kernel_rfl
  | 5, _, _ => show (Instr.sliceAt 123 (.pointer (some ⟨b, 0, none⟩)) (some (.int .i64 3)) none none).run Try.prog W = .ok (.slice (some ⟨b, 3, none⟩) 5 5) W; kernel_rfl
  | 6, _, _ => show (Instr.sliceAt 123 (.pointer (some ⟨b, 0, none⟩)) (some (.int .i64 2)) none none).run Try.prog W = .ok (.slice (some ⟨b, 2, none⟩) 6 6) W; kernel_rfl
  | 7, _, _ => show (Instr.sliceAt 123 (.pointer (some ⟨b, 0, none⟩)) (some (.int .i64 1)) none none).run Try.prog W = .ok (.slice (some ⟨b, 1, none⟩) 7 7) W; kernel_rfl
  | 8, _, _ => show (Instr.sliceAt 123 (.pointer (some ⟨b, 0, none⟩)) (some (.int .i64 0)) none none).run Try.prog W = .ok (.slice (some ⟨b, 0, none⟩) 8 8) W; kernel_rfl

/-- What appended gives. -/
def apE (lo hi n : Int) : Int := if lo ≤ n ∧ n ≤ hi then 0 else 6
def apS (lo hi n : Int) (s : ByteArray) (k : Nat) : ByteArray := if lo ≤ n ∧ n ≤ hi then s ++ be n k else noS
set_option maxHeartbeats 1000000 in
theorem appended_any (s : ByteArray) (n lo hi : Int) (k : Nat) (a : Addr) (hs : (s.size : Int) ≤ 8000) (hn : -9223372036854775808 ≤ n ∧ n ≤ 9223372036854775807) (h1 : 1 ≤ k) (h8 : k ≤ 8) (w : World)
    (hK : Calls Try.prog 85 #[.int .i64 k, .pointer (some a)] w fun e w' => e = .returned (.tuple #[.int .i64 lo, .int .i64 hi]) ∧ w = w') :
    Calls Try.prog 79 #[.string s, .int .i64 n, .int .i64 k, .func (.func 85) #[] #[.pointer (some a)]] w fun e w' => e = .returned (.tuple #[.string (apS lo hi n s k), .int .i64 (apE lo hi n)]) ∧ Bl w w' := by
  have KL := Lib.hid hK; clear hK
  have KD := Lib.hid (fun w => digits_any n hn w)
  by_cases c1 : lo ≤ n
  · by_cases c2 : n ≤ hi
    · have E1 := Lib.hid (show apS lo hi n s k = s ++ be n k from if_pos ⟨c1, c2⟩)
      have E2 := Lib.hid (show apE lo hi n = 0 from if_pos ⟨c1, c2⟩)
      go_enter Try.func79, Try.ntmps79
      go_wp2_with fail
      refine KL.out.mono ?_; rintro e w1 ⟨rfl, rfl⟩
      go_wp2_with fail
      refine (KD.out _).mono ?_; rintro e w1 ⟨rfl, gr⟩
      have G := Lib.hid gr; clear gr
      unfold arr oct
      have kc := fun (W : World) => arr_cells (n := n) (w := W.alloc (.cells #[.int .u8 (n / pw 7 % 256), .int .u8 (n / pw 6 % 256), .int .u8 (n / pw 5 % 256), .int .u8 (n / pw 4 % 256), .int .u8 (n / pw 3 % 256), .int .u8 (n / pw 2 % 256), .int .u8 (n / pw 1 % 256), .int .u8 (n / pw 0 % 256)] 123)) (b := W.heap.size) (fun j hj => eight_of W _ _ _ _ _ _ _ _ _ j hj) k h8 k
      have hbe := be_size n k
      have ks := fun (b : Nat) (W : World) => cut_eight b k h1 h8 W
      generalize be n k = d at *
      generalize n / pw 0 % 256 = d0 at *
      generalize n / pw 1 % 256 = d1 at *
      generalize n / pw 2 % 256 = d2 at *
      generalize n / pw 3 % 256 = d3 at *
      generalize n / pw 4 % 256 = d4 at *
      generalize n / pw 5 % 256 = d5 at *
      generalize n / pw 6 % 256 = d6 at *
      generalize n / pw 7 % 256 = d7 at *
      go_wp2_with fail
      go_ret2
      exact ⟨by rw [E1.out, E2.out]; rfl, G.out.alloc _⟩
    · have E1 := Lib.hid (show apS lo hi n s k = noS from if_neg (by omega))
      have E2 := Lib.hid (show apE lo hi n = 6 from if_neg (by omega))
      go_enter Try.func79, Try.ntmps79
      go_wp2_with fail
      refine KL.out.mono ?_; rintro e w1 ⟨rfl, rfl⟩
      go_wp2_with fail
      go_ret2
      exact ⟨by rw [E1.out, E2.out]; rfl, Bl.refl _⟩
  · have E1 := Lib.hid (show apS lo hi n s k = noS from if_neg (by omega))
    have E2 := Lib.hid (show apE lo hi n = 6 from if_neg (by omega))
    go_enter Try.func79, Try.ntmps79
    go_wp2_with fail
    refine KL.out.mono ?_; rintro e w1 ⟨rfl, rfl⟩
    go_wp2_with fail
    go_ret2
    exact ⟨by rw [E1.out, E2.out]; rfl, Bl.refl _⟩
/-- What Put gives, for any limits of the octets. -/
def puE (n k : Int) : Int := if n < 0 ∨ k < 1 ∨ 7 < k then 2 else if pw k.toNat ≤ n then 6 else 0
def puS (s : ByteArray) (n k : Int) : ByteArray := if puE n k = 0 then s ++ be n k.toNat else noS
theorem puE_arg {n k : Int} (h : n < 0 ∨ k < 1 ∨ 7 < k) : puE n k = 2 := by unfold puE; rw [if_pos h]
theorem puE_big {n k : Int} (h : ¬ (n < 0 ∨ k < 1 ∨ 7 < k)) (h2 : pw k.toNat ≤ n) : puE n k = 6 := by unfold puE; rw [if_neg h, if_pos h2]
theorem puE_ok {n k : Int} (h : ¬ (n < 0 ∨ k < 1 ∨ 7 < k)) (h2 : ¬ pw k.toNat ≤ n) : puE n k = 0 := by unfold puE; rw [if_neg h, if_neg h2]
theorem puS_ok {s : ByteArray} {n k : Int} (h : puE n k = 0) : puS s n k = s ++ be n k.toNat := by unfold puS; rw [if_pos h]
theorem puS_no {s : ByteArray} {n k : Int} (h : puE n k ≠ 0) : puS s n k = noS := by unfold puS; rw [if_neg h]
def puR (s : ByteArray) (n k : Int) : Ending := .returned (.tuple #[.string (puS s n k), .int .i64 (puE n k)])
theorem puR_arg {s : ByteArray} {n k : Int} (h : n < 0 ∨ k < 1 ∨ 7 < k) : Ending.returned (.tuple #[.string ⟨#[]⟩, .int .i64 2]) = puR s n k := by
  unfold puR; rw [puS_no (by rw [puE_arg h]; decide), puE_arg h]; rfl
theorem puR_ap {s : ByteArray} {n : Int} {k : Nat} (h1 : 1 ≤ k) (h7 : k ≤ 7) (h0 : 0 ≤ n) : Ending.returned (.tuple #[.string (apS (loL 0 k) (hiL 0 k) n s k), .int .i64 (apE (loL 0 k) (hiL 0 k) n)]) = puR s n k := by
  unfold puR apS apE loL hiL
  rw [if_pos rfl, if_pos rfl, Int.toNat_natCast]
  by_cases h : pw k ≤ n
  · have e := puE_big (n := n) (k := (k : Int)) (by omega) (by rw [Int.toNat_natCast]; exact h)
    rw [if_neg (by omega), if_neg (by omega), puS_no (by rw [e]; decide), e]
  · have e := puE_ok (n := n) (k := (k : Int)) (by omega) (by rw [Int.toNat_natCast]; exact h)
    rw [if_pos (by omega), if_pos (by omega), puS_ok e, e, Int.toNat_natCast]

set_option maxHeartbeats 400000 in
theorem put_any (s : ByteArray) (n k : Int) (hs : (s.size : Int) ≤ 8000) (hn : -9223372036854775808 ≤ n ∧ n ≤ 9223372036854775807) (w : World) :
    Calls Try.prog 74 #[.string s, .int .i64 n, .int .i64 k] w fun e w' => e = puR s n k ∧ Bl w w' := by
  by_cases c1 : n < 0
  · have E := Lib.hid (puR_arg (s := s) (n := n) (k := k) (.inl c1))
    go_enter Try.func74, Try.ntmps74
    go_wp2
    go_ret2
    exact ⟨E.out, Bl.refl _⟩
  · by_cases c2 : k < 1
    · have E := Lib.hid (puR_arg (s := s) (n := n) (k := k) (.inr (.inl c2)))
      go_enter Try.func74, Try.ntmps74
      go_wp2
      go_ret2
      exact ⟨E.out, Bl.refl _⟩
    · by_cases c3 : 7 < k
      · have E := Lib.hid (puR_arg (s := s) (n := n) (k := k) (.inr (.inr c3)))
        go_enter Try.func74, Try.ntmps74
        go_wp2
        go_ret2
        exact ⟨E.out, Bl.refl _⟩
      · obtain ⟨m, rfl⟩ := Int.eq_ofNat_of_zero_le (show 0 ≤ k by omega)
        have E := Lib.hid (puR_ap (s := s) (n := n) (k := m) (by omega) (by omega) (by omega))
        have KA := Lib.hid (fun (w : World) (a : Addr) (hc : w.cell? a = some (.int .i64 0)) => appended_any s n (loL 0 m) (hiL 0 m) m a hs hn (by omega) (by omega) w (limit0_any m (by omega) (by omega) a w hc))
        have KM := Lib.hid (fun w => limits_any 0 w)
        go_enter Try.func74, Try.ntmps74
        go_wp2_with fail
        refine (KM.out _).mono ?_; rintro e w1 ⟨rfl, rfl⟩
        go_wp2_with fail
        refine (KA.out _ _ (by simp [go_sem])).mono ?_; rintro e w1 ⟨rfl, gr⟩
        have G := Lib.hid (Bl.trans ((Bl.refl w).alloc _) gr); clear gr
        go_wp2_with fail
        go_ret2
        exact ⟨E.out, G.out⟩

end Go.Proofs.Ytnapelocjcoofaa
