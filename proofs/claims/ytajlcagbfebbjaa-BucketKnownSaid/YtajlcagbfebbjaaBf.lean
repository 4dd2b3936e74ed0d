/-
  What First and Conforms of package bucket return.
-/
import Derived.Test.YtajlcagbfebbjaaBe
namespace Go.Proofs.Ytajlcagbfebbjaa
open Go.RowKit

/-- The first index with a negative level. -/
def fi (xs : List (Int × Int)) (u R : Int) : Int := fneg (lv xs R (u * 1048576)) xs.length
/-- What First gives. -/
def fiV (u R : Int) (xs : List (Int × Int)) : Int × Int := if bkB u R then (if rtB xs then (fi xs u R, 0) else (0, 131)) else (0, 130)
theorem fiV_ok {u R : Int} {xs : List (Int × Int)} (h : bkB u R = true) (k : rtB xs = true) : fiV u R xs = (fi xs u R, 0) := by unfold fiV; rw [if_pos h, if_pos k]
theorem fiV_tr {u R : Int} {xs : List (Int × Int)} (h : bkB u R = true) (k : rtB xs = false) : fiV u R xs = (0, 131) := by unfold fiV; rw [if_pos h, if_neg (by simp [k])]
theorem fiV_bk {u R : Int} {xs : List (Int × Int)} (h : bkB u R = false) : fiV u R xs = (0, 130) := by unfold fiV; rw [if_neg (by simp [h])]
/-- A pair of integers as a result. -/
def ires (r : Int × Int) : Ending := .returned (.tuple #[.int .i64 r.1, .int .i64 r.2])
theorem ires_mk {r : Int × Int} {a b : Int} (h : r = (a, b)) : Ending.returned (.tuple #[.int .i64 a, .int .i64 b]) = ires r := by rw [h]; rfl
theorem fi_bd {xs : List (Int × Int)} {u R : Int} (k : rtB xs = true) : -1 ≤ fi xs u R ∧ fi xs u R ≤ 200 := by
  have h1 := (rtB_iff.1 k).1
  unfold fi
  rcases fneg_bd (lv xs R (u * 1048576)) xs.length with h | ⟨_, h⟩ <;> omega

set_option maxHeartbeats 1000000 in
theorem first_any (u R : Int) (xs : List (Int × Int)) (A : Option Addr) (cap : Nat) (w : World) (hl : (xs.length : Int) ≤ 9223372036854775807) (hT : Tr w A xs) :
    Calls Try.prog 12 #[.agg #[.int .i64 u, .int .i64 R], .slice A xs.length cap] w fun e w' => e = ires (fiV u R xs) ∧ Bl w w' := by
  have HL := Lib.hid hl; clear hl
  rcases bcase (bkB u R) with hb | hb
  · have K1 := Lib.hid (fun w => check_v (bkE_t hb) w)
    rcases bcase (rtB xs) with ht | ht
    · have K2 := Lib.hid (fun w (h : Tr w A xs) => checkTrace_v (rtE_t ht) A cap w HL.out h)
      obtain ⟨v, hv⟩ : ∃ v, fi xs u R = v := ⟨_, rfl⟩
      have K3 := Lib.hid (fun w (h : Tr w A xs) => overdrawn_v hv A cap hb ht w h)
      have E := Lib.hid ((fiV_ok hb ht).trans (by rw [hv]))
      have T0 := Lib.hid hT
      clear hv hb ht hT
      go_enter Try.func12, Try.ntmps12
      go_wp2_with fail
      refine (K1.out _).mono ?_; rintro e w1 ⟨rfl, gr⟩
      have c0 := (gr.cell (p := ⟨w.heap.size, 0, none⟩) (by simp)).trans (show _ = some (.int .i64 u) by simp [go_sem])
      have c1 := (gr.cell (p := ⟨w.heap.size, 1, none⟩) (by simp)).trans (show _ = some (.int .i64 R) by simp [go_sem])
      have z1 : w.heap.size < w1.heap.size := by have := gr.size; simp at this; omega
      have G1 := Lib.hid (((Bl.refl w).alloc _).trans gr); clear gr
      go_wp2_with fail
      refine (K2.out _ (T0.out.go G1.out)).mono ?_; rintro e w2 ⟨rfl, gr⟩
      have d0 := (gr.cell (p := ⟨w.heap.size, 0, none⟩) z1).trans c0
      have d1 := (gr.cell (p := ⟨w.heap.size, 1, none⟩) z1).trans c1
      have G2 := Lib.hid (G1.out.trans gr); clear gr c0 c1 z1
      go_wp2_with fail
      refine (K3.out _ (T0.out.go G2.out)).mono ?_; rintro e w3 ⟨rfl, gr⟩
      have G3 := Lib.hid (G2.out.trans gr); clear gr d0 d1
      go_wp2_with fail
      go_ret2
      exact ⟨ires_mk E.out, G3.out⟩
    · have K2 := Lib.hid (fun w (h : Tr w A xs) => checkTrace_v (rtE_f ht) A cap w HL.out h)
      have E := Lib.hid (fiV_tr (xs := xs) hb ht)
      have T0 := Lib.hid hT
      clear hb ht hT
      go_enter Try.func12, Try.ntmps12
      go_wp2_with fail
      refine (K1.out _).mono ?_; rintro e w1 ⟨rfl, gr⟩
      have G1 := Lib.hid (((Bl.refl w).alloc _).trans gr); clear gr
      go_wp2_with fail
      refine (K2.out _ (T0.out.go G1.out)).mono ?_; rintro e w2 ⟨rfl, gr⟩
      have G2 := Lib.hid (G1.out.trans gr); clear gr
      go_wp2_with fail
      go_ret2
      exact ⟨ires_mk E.out, G2.out⟩
  · have K1 := Lib.hid (fun w => check_v (bkE_f hb) w)
    have E := Lib.hid (fiV_bk (xs := xs) hb)
    clear hb hT
    go_enter Try.func12, Try.ntmps12
    go_wp2_with fail
    refine (K1.out _).mono ?_; rintro e w1 ⟨rfl, gr⟩
    have G1 := Lib.hid (((Bl.refl w).alloc _).trans gr); clear gr
    go_wp2_with fail
    go_ret2
    exact ⟨ires_mk E.out, G1.out⟩
theorem first_v {u R v E : Int} {xs : List (Int × Int)} (h : fiV u R xs = (v, E)) (A : Option Addr) (cap : Nat) (w : World) (hl : (xs.length : Int) ≤ 9223372036854775807) (hT : Tr w A xs) :
    Calls Try.prog 12 #[.agg #[.int .i64 u, .int .i64 R], .slice A xs.length cap] w fun e w' => e = .returned (.tuple #[.int .i64 v, .int .i64 E]) ∧ Bl w w' := by
  have := first_any u R xs A cap w hl hT; rw [h] at this; exact this

/-- What Conforms gives. -/
def coV (u R : Int) (xs : List (Int × Int)) : Bool × Int := (decide ((fiV u R xs).1 < 0), (fiV u R xs).2)
def bres (r : Bool × Int) : Ending := .returned (.tuple #[.bool r.1, .int .i64 r.2])
theorem bres_mk {r : Bool × Int} {a : Bool} {b : Int} (h : r = (a, b)) : Ending.returned (.tuple #[.bool a, .int .i64 b]) = bres r := by rw [h]; rfl

set_option maxHeartbeats 1000000 in
theorem conforms_any (u R : Int) (xs : List (Int × Int)) (A : Option Addr) (cap : Nat) (w : World) (hl : (xs.length : Int) ≤ 9223372036854775807) (hT : Tr w A xs) :
    Calls Try.prog 10 #[.agg #[.int .i64 u, .int .i64 R], .slice A xs.length cap] w fun e w' => e = bres (coV u R xs) ∧ Bl w w' := by
  obtain ⟨⟨v, E⟩, hv⟩ : ∃ r, fiV u R xs = r := ⟨_, rfl⟩
  have K := Lib.hid (fun w (h : Tr w A xs) => first_v hv A cap w hl h)
  have T0 := Lib.hid hT
  have hE : coV u R xs = (decide (v < 0), E) := by unfold coV; rw [hv]
  have HE := Lib.hid hE
  clear hv hT hl hE
  by_cases hn : v < 0
  · go_enter Try.func10, Try.ntmps10
    go_wp2_with fail
    refine (K.out _ (T0.out.go ((Bl.refl w).alloc _))).mono ?_; rintro e w1 ⟨rfl, gr⟩
    have G1 := Lib.hid (((Bl.refl w).alloc _).trans gr); clear gr
    go_wp2_with fail
    go_ret2
    exact ⟨bres_mk (HE.out.trans (by simp <;> omega)), G1.out⟩
  · go_enter Try.func10, Try.ntmps10
    go_wp2_with fail
    refine (K.out _ (T0.out.go ((Bl.refl w).alloc _))).mono ?_; rintro e w1 ⟨rfl, gr⟩
    have G1 := Lib.hid (((Bl.refl w).alloc _).trans gr); clear gr
    go_wp2_with fail
    go_ret2
    exact ⟨bres_mk (HE.out.trans (by simp <;> omega)), G1.out⟩
theorem conforms_v {u R E : Int} {c : Bool} {xs : List (Int × Int)} (h : coV u R xs = (c, E)) (A : Option Addr) (cap : Nat) (w : World) (hl : (xs.length : Int) ≤ 9223372036854775807) (hT : Tr w A xs) :
    Calls Try.prog 10 #[.agg #[.int .i64 u, .int .i64 R], .slice A xs.length cap] w fun e w' => e = .returned (.tuple #[.bool c, .int .i64 E]) ∧ Bl w w' := by
  have := conforms_any u R xs A cap w hl hT; rw [h] at this; exact this

end Go.Proofs.Ytajlcagbfebbjaa
