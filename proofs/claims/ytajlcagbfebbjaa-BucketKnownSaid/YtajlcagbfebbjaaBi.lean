/-
  What Least of package bucket returns.
-/
import Derived.Test.YtajlcagbfebbjaaBh
namespace Go.Proofs.Ytajlcagbfebbjaa
open Go.RowKit

/-- The least burst for the first n arrivals. -/
def lst (xs : List (Int × Int)) (R : Int) : Nat → Int
  | 0 => 1
  | k + 1 => max (lst xs R k) (-(-(Bk.dem (fs xs) (sn xs) R 1048576 k) / 1048576))
def lea (xs : List (Int × Int)) (R : Int) : Int := lst xs R xs.length
theorem lst_le (xs : List (Int × Int)) (R B : Int) (n : Nat) : lst xs R n ≤ B ↔ 1 ≤ B ∧ ∀ j, j < n → Bk.dem (fs xs) (sn xs) R 1048576 j ≤ B * 1048576 := by
  induction n with
  | zero => exact ⟨fun h => ⟨h, fun j hj => absurd hj (by omega)⟩, fun h => h.1⟩
  | succ n ih =>
    show max (lst xs R n) (-(-(Bk.dem (fs xs) (sn xs) R 1048576 n) / 1048576)) ≤ B ↔ _
    constructor
    · intro h
      obtain ⟨h1, h2⟩ := ih.1 (by omega)
      refine ⟨h1, fun j hj => ?_⟩
      rcases Nat.lt_or_ge j n with hj' | hj'
      · exact h2 j hj'
      · obtain rfl : j = n := by omega
        omega
    · rintro ⟨h1, h2⟩
      have h3 := ih.2 ⟨h1, fun j hj => h2 j (by omega)⟩
      have h4 := h2 n (by omega)
      omega
theorem lea_le (xs : List (Int × Int)) (R B : Int) : lea xs R ≤ B ↔ 1 ≤ B ∧ ∀ i m, i + m < xs.length → inI xs B R i m := by
  unfold lea
  rw [lst_le]
  exact and_congr Iff.rfl (Bk.confTo_dem (fs xs) (sn xs) R 1048576 (B * 1048576) xs.length).symm
theorem lea_pos (xs : List (Int × Int)) (R : Int) : 1 ≤ lea xs R := ((lea_le xs R (lea xs R)).1 (Int.le_refl _)).1
theorem lea_fi (xs : List (Int × Int)) (R B : Int) (h : 1 ≤ B) : fi xs B R < 0 ↔ lea xs R ≤ B := by
  rw [fi_neg, lea_le]; exact ⟨fun g => ⟨h, g⟩, fun g => g.2⟩
/-- What has the property of the least burst is it. -/
theorem lea_eq {xs : List (Int × Int)} {R M : Int} (h : ∀ B, M ≤ B ↔ 1 ≤ B ∧ ∀ i m, i + m < xs.length → inI xs B R i m) : lea xs R = M := by
  have h1 := (lea_le xs R M).2 ((h M).1 (Int.le_refl _))
  have h2 := (h (lea xs R)).2 ((lea_le xs R _).1 (Int.le_refl _))
  omega

set_option maxHeartbeats 1000000 in
theorem least1_any (R : Int) (xs : List (Int × Int)) (A : Option Addr) (cap : Nat) (t : Int) (Br Bs : Nat) (w : World) (h0 : 0 ≤ t) (h1 : t < 1048576) (hR : btB 1 R 2097152 = true) (ht : rtB xs = true) (hT : Tr w A xs)
    (c0 : w.cell? ⟨Br, 0, none⟩ = some (.int .i64 R)) (c1 : w.cell? ⟨Bs, 0, none⟩ = some (.slice A xs.length cap)) :
    Calls Try.prog 24 #[.int .i64 t, .pointer (some ⟨Br, 0, none⟩), .pointer (some ⟨Bs, 0, none⟩)] w fun e w' => e = .returned (.bool (decide (lea xs R ≤ t + 1))) ∧ Bl w w' := by
  obtain ⟨v, hv⟩ : ∃ v, fi xs (t + 1) R = v := ⟨_, rfl⟩
  have hb : bkB (t + 1) R = true := by unfold bkB; rw [hR, btB_t (by omega)]; rfl
  have K := Lib.hid (fun w (h : Tr w A xs) => overdrawn_v hv A cap hb ht w h)
  have F := lea_fi xs R (t + 1) (by omega)
  rw [hv] at F
  have HF := Lib.hid F
  have T0 := Lib.hid hT
  clear hv F hb hR ht hT
  by_cases hn : v < 0
  · go_enter Try.func24, Try.ntmps24
    go_wp2_with fail
    refine (K.out _ T0.out).mono ?_; rintro e w1 ⟨rfl, gr⟩
    have G := Lib.hid gr; clear gr
    go_wp2_with fail
    go_ret
    exact ⟨ret_bool (decide_eq_true (HF.out.1 hn)).symm, G.out⟩
  · go_enter Try.func24, Try.ntmps24
    go_wp2_with fail
    refine (K.out _ T0.out).mono ?_; rintro e w1 ⟨rfl, gr⟩
    have G := Lib.hid gr; clear gr
    go_wp2_with fail
    go_ret
    exact ⟨ret_bool ((decide_eq_false (by omega)).trans (decide_eq_false (fun h => absurd (HF.out.2 h) (by omega))).symm), G.out⟩

set_option maxHeartbeats 1000000 in
theorem search_any (R : Int) (xs : List (Int × Int)) (A : Option Addr) (cap : Nat) (M : Int) (Br Bs : Nat) (w : World) (hM : M = min (lea xs R - 1) 1048576) (hR : btB 1 R 2097152 = true) (ht : rtB xs = true) (hT : Tr w A xs)
    (hBr : Br < w.heap.size) (hBs : Bs < w.heap.size)
    (c0 : w.cell? ⟨Br, 0, none⟩ = some (.int .i64 R)) (c1 : w.cell? ⟨Bs, 0, none⟩ = some (.slice A xs.length cap)) :
    Calls Try.prog 23 #[.int .i64 1048576, .func (.func 24) #[] #[.pointer (some ⟨Br, 0, none⟩), .pointer (some ⟨Bs, 0, none⟩)]] w fun e w' => e = .returned (.int .i64 M) ∧ Bl w w' := by
  have K := Lib.hid (fun (t : Int) (h0 : 0 ≤ t) (h1 : t < 1048576) (w' : World) (g : Bl w w') => least1_any R xs A cap t Br Bs w' h0 h1 hR ht (hT.go g) ((g.cell (p := ⟨Br, 0, none⟩) hBr).trans c0) ((g.cell (p := ⟨Bs, 0, none⟩) hBs).trans c1))
  have hp := lea_pos xs R
  obtain ⟨L, hL⟩ : ∃ L, lea xs R = L := ⟨_, rfl⟩
  rw [hL] at hM hp
  have HL := Lib.hid hL
  have HM := Lib.hid hM
  have HP := Lib.hid hp
  clear hR ht hT hBr hBs c0 c1 hp hL hM
  go_enter Try.func23, Try.ntmps23
  go_wp2_with fail
  go_loopw [5, 6] (fun iv jv wr => ∃ i j : Nat, i ≤ j ∧ j ≤ 1048576 ∧ iv = .int .i64 i ∧ jv = .int .i64 j ∧ Hid (i ≤ M ∧ M ≤ j) ∧ Hid (Bl w wr)) (fun iv jv _ => (intOf jv).toNat - (intOf iv).toNat)
  case atStart => exact ⟨0, 1048576, by omega, by omega, rfl, rfl, by have h1 := HM.out; have h2 := HP.out; exact ⟨by omega, by omega⟩, Bl.refl _⟩
  case round =>
    obtain ⟨i, j, hij, hj, rfl, rfl, hI, hw⟩ := hrel
    by_cases hlt : i < j
    · obtain ⟨h, hh⟩ : ∃ h : Nat, (i + j) / 2 = h := ⟨_, rfl⟩
      have hh1 : i ≤ h := by omega
      have hh2 : h < j := by omega
      have hhI : ((i : Int) + (j : Int)) / 2 = (h : Int) := by omega
      have q0 : IntKind.i64.wrap ((i : Int) + (j : Int)) = (i : Int) + (j : Int) := IntWalk.i64_in _ (by omega)
      have q1 : IntKind.u64.wrap ((i : Int) + (j : Int)) = (i : Int) + (j : Int) := IntWalk.u64_in _ (by omega)
      have q2 : IntKind.i64.wrap (h : Int) = (h : Int) := IntWalk.i64_in _ (by omega)
      clear hh
      by_cases hc : L ≤ (h : Int) + 1
      · have K1 := Lib.hid (show Calls Try.prog 24 #[.int .i64 (h : Int), .pointer (some ⟨Br, 0, none⟩), .pointer (some ⟨Bs, 0, none⟩)] wr fun e w' => e = .returned (.bool true) ∧ Bl wr w' by
          have := K.out h (by omega) (by omega) wr hw.out
          rw [decide_eq_true (by rw [HL.out]; exact hc)] at this; exact this)
        have HC := Lib.hid hc
        clear hc
        go_wp2_with fail
        refine K1.out.mono ?_; rintro e w1 ⟨rfl, gr⟩
        have G := Lib.hid (hw.out.trans gr); clear gr
        go_wp2_with fail
        go_roundw
        case rel => exact ⟨i, h, by omega, by omega, rfl, rfl, by have h1 := HM.out; have h2 := hI.out; have h3 := HC.out; exact ⟨by omega, by omega⟩, G.out⟩
        case measure => simp [intOf]; omega
      · have K1 := Lib.hid (show Calls Try.prog 24 #[.int .i64 (h : Int), .pointer (some ⟨Br, 0, none⟩), .pointer (some ⟨Bs, 0, none⟩)] wr fun e w' => e = .returned (.bool false) ∧ Bl wr w' by
          have := K.out h (by omega) (by omega) wr hw.out
          rw [decide_eq_false (by rw [HL.out]; exact hc)] at this; exact this)
        have HC := Lib.hid hc
        clear hc
        go_wp2_with fail
        refine K1.out.mono ?_; rintro e w1 ⟨rfl, gr⟩
        have G := Lib.hid (hw.out.trans gr); clear gr
        go_wp2_with fail
        go_roundw
        case rel => exact ⟨h + 1, j, by omega, by omega, by go_num, rfl, by have h1 := HM.out; have h2 := hI.out; have h3 := HC.out; exact ⟨by omega, by omega⟩, G.out⟩
        case measure => simp [intOf]; omega
    · go_wp2_with fail
      go_ret
      exact ⟨ret_int (by have := hI.out; omega), hw.out⟩

end Go.Proofs.Ytajlcagbfebbjaa
