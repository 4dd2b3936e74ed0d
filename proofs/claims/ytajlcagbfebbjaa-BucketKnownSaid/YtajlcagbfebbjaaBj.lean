/-
  What Least of package bucket and of its reference return.
-/
import Derived.Test.YtajlcagbfebbjaaBi
namespace Go.Proofs.Ytajlcagbfebbjaa
open Go.RowKit

/-- What Least gives. -/
def leV (R : Int) (xs : List (Int × Int)) : Int × Int := if btB 1 R 2097152 then (if rtB xs then (if lea xs R ≤ 1048576 then (lea xs R, 0) else (0, 6)) else (0, 131)) else (0, 2)
theorem leV_ok {R : Int} {xs : List (Int × Int)} (h : btB 1 R 2097152 = true) (k : rtB xs = true) (l : lea xs R ≤ 1048576) : leV R xs = (lea xs R, 0) := by unfold leV; rw [if_pos h, if_pos k, if_pos l]
theorem leV_big {R : Int} {xs : List (Int × Int)} (h : btB 1 R 2097152 = true) (k : rtB xs = true) (l : ¬ lea xs R ≤ 1048576) : leV R xs = (0, 6) := by unfold leV; rw [if_pos h, if_pos k, if_neg l]
theorem leV_tr {R : Int} {xs : List (Int × Int)} (h : btB 1 R 2097152 = true) (k : rtB xs = false) : leV R xs = (0, 131) := by unfold leV; rw [if_pos h, if_neg (by simp [k])]
theorem leV_arg {R : Int} {xs : List (Int × Int)} (h : btB 1 R 2097152 = false) : leV R xs = (0, 2) := by unfold leV; rw [if_neg (by simp [h])]

set_option maxHeartbeats 1000000 in
theorem least_any (R : Int) (xs : List (Int × Int)) (A : Option Addr) (cap : Nat) (w : World) (hl : (xs.length : Int) ≤ 9223372036854775807) (hT : Tr w A xs) :
    Calls Try.prog 15 #[.int .i64 R, .slice A xs.length cap] w fun e w' => e = ires (leV R xs) ∧ Bl w w' := by
  have HL := Lib.hid hl; clear hl
  have T0 := Lib.hid hT
  rcases bcase (btB 1 R 2097152) with hR | hR
  · have K1 := Lib.hid (fun w => between_v hR w)
    rcases bcase (rtB xs) with ht | ht
    · have K2 := Lib.hid (fun w (h : Tr w A xs) => checkTrace_v (rtE_t ht) A cap w HL.out h)
      obtain ⟨M, hM⟩ : ∃ M, M = min (lea xs R - 1) 1048576 := ⟨_, rfl⟩
      have K3 := Lib.hid (fun w (h : Tr w A xs) Br Bs => search_any R xs A cap M Br Bs w hM hR ht h)
      have hp := lea_pos xs R
      obtain ⟨v, E, hvE⟩ : ∃ v E, leV R xs = (v, E) := ⟨_, _, rfl⟩
      by_cases hb : lea xs R ≤ 1048576
      · have E1 := Lib.hid ((leV_ok hR ht hb).trans (show (lea xs R, (0 : Int)) = (M + 1, 0) by rw [show lea xs R = M + 1 by omega]))
        have m0 : 0 ≤ M := by omega
        have m1 : M < 1048576 := by omega
        clear hb hp hM hR ht hT hvE
        go_enter Try.func15, Try.ntmps15
        go_wp2_with fail
        refine (K1.out _).mono ?_; rintro e w1 ⟨rfl, rfl⟩
        go_wp2_with fail
        refine (K2.out _ (T0.out.go (((Bl.refl w).alloc _).alloc _))).mono ?_; rintro e w1 ⟨rfl, gr⟩
        have c0 := (gr.cell (p := ⟨w.heap.size, 0, none⟩) (by simp; omega)).trans (show _ = some (.int .i64 R) by simp [go_sem])
        have c1 := (gr.cell (p := ⟨w.heap.size + 1, 0, none⟩) (by simp)).trans (show _ = some (.slice A xs.length cap) by simp [go_sem])
        have z1 : w.heap.size + 1 < w1.heap.size := by have := gr.size; simp at this; omega
        have G1 := Lib.hid ((((Bl.refl w).alloc _).alloc _).trans gr); clear gr
        go_wp2_with fail
        refine (K3.out _ (T0.out.go G1.out) _ _ (by omega) z1 c0 c1).mono ?_; rintro e w2 ⟨rfl, gr⟩
        have G2 := Lib.hid (G1.out.trans gr); clear gr c0 c1 z1
        go_wp2_with fail
        go_ret2
        exact ⟨ires_mk E1.out, G2.out⟩
      · have E1 := Lib.hid (leV_big hR ht hb)
        have m0 : M = 1048576 := by omega
        subst m0
        clear hb hp hM hR ht hT hvE
        go_enter Try.func15, Try.ntmps15
        go_wp2_with fail
        refine (K1.out _).mono ?_; rintro e w1 ⟨rfl, rfl⟩
        go_wp2_with fail
        refine (K2.out _ (T0.out.go (((Bl.refl w).alloc _).alloc _))).mono ?_; rintro e w1 ⟨rfl, gr⟩
        have c0 := (gr.cell (p := ⟨w.heap.size, 0, none⟩) (by simp; omega)).trans (show _ = some (.int .i64 R) by simp [go_sem])
        have c1 := (gr.cell (p := ⟨w.heap.size + 1, 0, none⟩) (by simp)).trans (show _ = some (.slice A xs.length cap) by simp [go_sem])
        have z1 : w.heap.size + 1 < w1.heap.size := by have := gr.size; simp at this; omega
        have G1 := Lib.hid ((((Bl.refl w).alloc _).alloc _).trans gr); clear gr
        go_wp2_with fail
        refine (K3.out _ (T0.out.go G1.out) _ _ (by omega) z1 c0 c1).mono ?_; rintro e w2 ⟨rfl, gr⟩
        have G2 := Lib.hid (G1.out.trans gr); clear gr c0 c1 z1
        go_wp2_with fail
        go_ret2
        exact ⟨ires_mk E1.out, G2.out⟩
    · have K2 := Lib.hid (fun w (h : Tr w A xs) => checkTrace_v (rtE_f ht) A cap w HL.out h)
      have E1 := Lib.hid (leV_tr hR ht)
      clear hR ht hT
      go_enter Try.func15, Try.ntmps15
      go_wp2_with fail
      refine (K1.out _).mono ?_; rintro e w1 ⟨rfl, rfl⟩
      go_wp2_with fail
      refine (K2.out _ (T0.out.go (((Bl.refl w).alloc _).alloc _))).mono ?_; rintro e w1 ⟨rfl, gr⟩
      have G1 := Lib.hid ((((Bl.refl w).alloc _).alloc _).trans gr); clear gr
      go_wp2_with fail
      go_ret2
      exact ⟨ires_mk E1.out, G1.out⟩
  · have K1 := Lib.hid (fun w => between_v hR w)
    have E1 := Lib.hid (leV_arg (xs := xs) hR)
    clear hR hT
    go_enter Try.func15, Try.ntmps15
    go_wp2_with fail
    refine (K1.out _).mono ?_; rintro e w1 ⟨rfl, rfl⟩
    go_wp2_with fail
    go_ret2
    exact ⟨ires_mk E1.out, ((Bl.refl w).alloc _).alloc _⟩
theorem least_v {R v E : Int} {xs : List (Int × Int)} (h : leV R xs = (v, E)) (A : Option Addr) (cap : Nat) (w : World) (hl : (xs.length : Int) ≤ 9223372036854775807) (hT : Tr w A xs) :
    Calls Try.prog 15 #[.int .i64 R, .slice A xs.length cap] w fun e w' => e = .returned (.tuple #[.int .i64 v, .int .i64 E]) ∧ Bl w w' := by
  have := least_any R xs A cap w hl hT; rw [h] at this; exact this

end Go.Proofs.Ytajlcagbfebbjaa
