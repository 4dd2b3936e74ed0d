/-
  What Sum of package bucket and of its reference return.
-/
import Derived.Test.YtajlcagbfebbjaaBc
import Derived.BigRegion
namespace Go.Proofs.Ytajlcagbfebbjaa
open Go.RowKit

/-- The sum of the first k values. -/
def acc (f : Nat → Int) : Nat → Int
  | 0 => 0
  | k + 1 => acc f k + f k
/-- All buckets are valid. -/
def allK (ys : List (Int × Int)) : Bool := decide (∀ k, k < ys.length → bkB (fs ys k) (sn ys k) = true)
theorem allK_iff {ys : List (Int × Int)} : allK ys = true ↔ ∀ k, k < ys.length → bkB (fs ys k) (sn ys k) = true := by unfold allK; exact decide_eq_true_iff
theorem allK_bad {ys : List (Int × Int)} {k : Nat} (h : k < ys.length) (hb : bkB (fs ys k) (sn ys k) = false) : allK ys = false := by
  unfold allK; exact decide_eq_false (fun g => by rw [g k h] at hb; cases hb)
theorem acc_bd {ys : List (Int × Int)} {k : Nat} (h : ∀ j, j < k → bkB (fs ys j) (sn ys j) = true) : (0 ≤ acc (fs ys) k ∧ acc (fs ys) k ≤ (k : Int) * 1048576) ∧ 0 ≤ acc (sn ys) k ∧ acc (sn ys) k ≤ (k : Int) * 2097152 := by
  induction k with
  | zero => exact ⟨⟨Int.le_refl 0, by show (0 : Int) ≤ _; omega⟩, Int.le_refl 0, by show (0 : Int) ≤ _; omega⟩
  | succ k ih =>
    have h1 := ih (fun j hj => h j (by omega))
    have h2 := bkB_iff.1 (h k (by omega))
    show (0 ≤ acc (fs ys) k + fs ys k ∧ acc (fs ys) k + fs ys k ≤ _) ∧ 0 ≤ acc (sn ys) k + sn ys k ∧ acc (sn ys) k + sn ys k ≤ _
    omega
/-- What Sum gives. -/
def suV (ys : List (Int × Int)) : Int × Int × Int :=
  if ys.length = 0 then (0, 0, 2) else if 12 < ys.length then (0, 0, 3) else if allK ys then
    (if bkB (acc (fs ys) ys.length) (acc (sn ys) ys.length) then (acc (fs ys) ys.length, acc (sn ys) ys.length, 0) else (0, 0, 6)) else (0, 0, 130)
theorem suV_nil {ys : List (Int × Int)} (h : ys.length = 0) : suV ys = (0, 0, 2) := by unfold suV; rw [if_pos h]
theorem suV_long {ys : List (Int × Int)} (h : 12 < ys.length) : suV ys = (0, 0, 3) := by unfold suV; rw [if_neg (by omega), if_pos h]
theorem suV_bad {ys : List (Int × Int)} (h : ¬ ys.length = 0) (h2 : ¬ 12 < ys.length) (h3 : allK ys = false) : suV ys = (0, 0, 130) := by unfold suV; rw [if_neg h, if_neg h2, if_neg (by simp [h3])]
theorem suV_ok {ys : List (Int × Int)} (h : ¬ ys.length = 0) (h2 : ¬ 12 < ys.length) (h3 : allK ys = true) (h4 : bkB (acc (fs ys) ys.length) (acc (sn ys) ys.length) = true) : suV ys = (acc (fs ys) ys.length, acc (sn ys) ys.length, 0) := by unfold suV; rw [if_neg h, if_neg h2, if_pos h3, if_pos h4]
theorem suV_big {ys : List (Int × Int)} (h : ¬ ys.length = 0) (h2 : ¬ 12 < ys.length) (h3 : allK ys = true) (h4 : bkB (acc (fs ys) ys.length) (acc (sn ys) ys.length) = false) : suV ys = (0, 0, 6) := by unfold suV; rw [if_neg h, if_neg h2, if_pos h3, if_neg (by simp [h4])]
def sres (r : Int × Int × Int) : Ending := .returned (.tuple #[.agg #[.int .i64 r.1, .int .i64 r.2.1], .int .i64 r.2.2])
theorem sres_mk {r : Int × Int × Int} {a b c : Int} (h : r = (a, b, c)) : Ending.returned (.tuple #[.agg #[.int .i64 a, .int .i64 b], .int .i64 c]) = sres r := by rw [h]; rfl

/-- A block of two integers of the call's own. -/
structure Sl (a : Nat) (x y : Int) (w : World) : Prop where
  c0 : w.cell? ⟨a, 0, none⟩ = some (.int .i64 x)
  c1 : w.cell? ⟨a, 1, none⟩ = some (.int .i64 y)
  f0 : w.frozen? ⟨a, 0, none⟩ = false
  f1 : w.frozen? ⟨a, 1, none⟩ = false
  lt : a < w.heap.size
theorem Sl.new (w : World) (x y : Int) (t : TypeId) : Sl w.heap.size x y (w.alloc (.cells #[.int .i64 x, .int .i64 y] t)) :=
  ⟨by simp [go_sem], by simp [go_sem], by simp [go_sem], by simp [go_sem], by simp⟩
theorem Sl.go {a : Nat} {x y : Int} {w w' : World} (h : Sl a x y w) (g : Bl w w') : Sl a x y w' :=
  ⟨(g.cell (p := ⟨a, 0, none⟩) h.lt).trans h.c0, (g.cell (p := ⟨a, 1, none⟩) h.lt).trans h.c1, (g.frozen (p := ⟨a, 0, none⟩) h.lt).trans h.f0, (g.frozen (p := ⟨a, 1, none⟩) h.lt).trans h.f1, Nat.lt_of_lt_of_le h.lt g.size⟩
theorem Sl.far {a b : Nat} {x y : Int} {w : World} (h : Sl a x y w) (hne : a ≠ b) (i : Nat) (v : Value) : Sl a x y (w.setCell ⟨b, i, none⟩ v) :=
  ⟨(World.cell?_setCell_other w ⟨b, i, none⟩ ⟨a, 0, none⟩ v (by simp <;> omega)).trans h.c0, (World.cell?_setCell_other w ⟨b, i, none⟩ ⟨a, 1, none⟩ v (by simp <;> omega)).trans h.c1, by rw [World.frozen?_setCell]; exact h.f0, by rw [World.frozen?_setCell]; exact h.f1, by simpa [World.setCell] using h.lt⟩
theorem Sl.set0 {a : Nat} {x y : Int} {w : World} (h : Sl a x y w) (z : Int) : Sl a z y (w.setCell ⟨a, 0, none⟩ (.int .i64 z)) :=
  ⟨World.cell?_setCell_same' _ _ _ (by rw [h.c0]; rfl), (World.cell?_setCell_other w ⟨a, 0, none⟩ ⟨a, 1, none⟩ _ (by simp)).trans h.c1, by rw [World.frozen?_setCell]; exact h.f0, by rw [World.frozen?_setCell]; exact h.f1, by simpa [World.setCell] using h.lt⟩
theorem Sl.set1 {a : Nat} {x y : Int} {w : World} (h : Sl a x y w) (z : Int) : Sl a x z (w.setCell ⟨a, 1, none⟩ (.int .i64 z)) :=
  ⟨(World.cell?_setCell_other w ⟨a, 1, none⟩ ⟨a, 0, none⟩ _ (by simp)).trans h.c0, World.cell?_setCell_same' _ _ _ (by rw [h.c1]; rfl), by rw [World.frozen?_setCell]; exact h.f0, by rw [World.frozen?_setCell]; exact h.f1, by simpa [World.setCell] using h.lt⟩


theorem Bl.of {w a b : World} (h : Hid (Bl w a)) (g : Bl a b) : Bl w b := h.out.trans g
set_option maxHeartbeats 1000000 in
theorem sum_any (ys : List (Int × Int)) (A : Option Addr) (cap : Nat) (w : World) (hl : (ys.length : Int) ≤ 9223372036854775807) (hT : Tr w A ys) :
    Calls Try.prog 8 #[.slice A ys.length cap] w fun e w' => e = sres (suV ys) ∧ Bl w w' := by
  have T0 := Lib.hid hT
  clear hT
  by_cases h0 : ys.length = 0
  · have E := Lib.hid (suV_nil h0)
    have hI : ((ys.length : Nat) : Int) = 0 := by omega
    clear h0 hl
    go_enter Try.func8, Try.ntmps8
    go_wp2_with fail
    refine bodyPost_ret (v := .tuple #[.agg #[.int .i64 0, .int .i64 0], .int .i64 2]) (by simp [results, Try.results8, go_sem]) rfl ⟨sres_mk E.out, ?_⟩
    (repeat (first | with_reducible exact Bl.refl _ | with_reducible assumption | with_reducible refine Bl.setCell ?_ (by simp <;> omega) _ | with_reducible refine Bl.alloc ?_ _ | with_reducible refine Bl.drewN ?_ _ | with_reducible refine Bl.drew ?_))
  · by_cases h1 : 12 < ys.length
    · have E := Lib.hid (suV_long h1)
      have hI : (12 : Int) < (ys.length : Int) := by omega
      have hJ : (((ys.length : Nat) : Int) == 0) = false := beq_false_of_ne (by omega)
      go_enter Try.func8, Try.ntmps8
      go_wp2_with fail
      refine bodyPost_ret (v := .tuple #[.agg #[.int .i64 0, .int .i64 0], .int .i64 3]) (by simp [results, Try.results8, go_sem]) rfl ⟨sres_mk E.out, ?_⟩
      (repeat (first | with_reducible exact Bl.refl _ | with_reducible assumption | with_reducible refine Bl.setCell ?_ (by simp <;> omega) _ | with_reducible refine Bl.alloc ?_ _ | with_reducible refine Bl.drewN ?_ _ | with_reducible refine Bl.drew ?_))
    · have hJ : (((ys.length : Nat) : Int) == 0) = false := beq_false_of_ne (by omega)
      have hI : ¬ (12 : Int) < (ys.length : Int) := by omega
      have H0 := Lib.hid h0
      have H1 := Lib.hid h1
      clear h0
      go_enter Try.func8, Try.ntmps8
      go_wp2_with fail
      go_loopw [18] (fun iv wr => ∃ k : Nat, k ≤ ys.length ∧ iv = .int .i64 k ∧ Hid (∀ j, j < k → bkB (fs ys j) (sn ys j) = true) ∧ Hid (Sl w.heap.size 0 0 wr) ∧ Hid (Sl (w.heap.size + 1) (acc (fs ys) k) (acc (sn ys) k) wr) ∧ Hid (Bl w wr)) (fun iv _ => ys.length - (intOf iv).toNat)
      case atStart => exact ⟨0, Nat.zero_le _, rfl, fun j hj => absurd hj (by omega), (Sl.new w 0 0 _).go ((Bl.refl _).alloc _), (by have := Sl.new (w.alloc (.cells #[.int .i64 0, .int .i64 0] 30)) 0 0 30; rw [World.size_alloc] at this; exact this), ((Bl.refl w).alloc _).alloc _⟩
      case round =>
        obtain ⟨k, hk, rfl, ha, hr, hs, hw⟩ := hrel
        by_cases hlt : k < ys.length
        · obtain ⟨b, off, ea, hb, c0, c1⟩ := T0.out.go hw.out k hlt
          have bd := acc_bd ha.out
          have nx0 : acc (fs ys) (k + 1) = acc (fs ys) k + fs ys k := rfl
          have nx1 : acc (sn ys) (k + 1) = acc (sn ys) k + sn ys k := rfl
          obtain ⟨x, hx⟩ : ∃ x, fs ys k = x := ⟨_, rfl⟩
          obtain ⟨y, hy⟩ : ∃ y, sn ys k = y := ⟨_, rfl⟩
          obtain ⟨X, hX⟩ : ∃ X, acc (fs ys) k = X := ⟨_, rfl⟩
          obtain ⟨Y, hY⟩ : ∃ Y, acc (sn ys) k = Y := ⟨_, rfl⟩
          rw [hx] at c0 nx0
          rw [hy] at c1 nx1
          rw [hX] at nx0 bd hs
          rw [hY] at nx1 bd hs
          obtain ⟨⟨bd1, bd2⟩, bd3, bd4⟩ := bd
          have NX0 := Lib.hid nx0
          have NX1 := Lib.hid nx1
          have HX := Lib.hid hx
          have HY := Lib.hid hy
          clear nx0 nx1 hx hy hX hY
          subst ea
          have z0 : w.heap.size + 1 < wr.heap.size := hs.out.lt
          rcases bcase (bkB x y) with hv | hv
          · have K := Lib.hid (fun w => check_v (bkE_t hv) w)
            obtain ⟨⟨v1, v2⟩, v3, v4⟩ := bkB_iff.1 hv
            have HV := Lib.hid hv
            clear hv
            go_wp2_with fail
            refine (K.out _).mono ?_; rintro e w1 ⟨rfl, gr⟩
            have SN := Lib.hid ((Sl.new wr x y 30).go gr)
            have SS := Lib.hid ((hs.out.go ((Bl.refl _).alloc _)).go gr)
            have SR := Lib.hid ((hr.out.go ((Bl.refl _).alloc _)).go gr)
            have G1 := Lib.hid ((hw.out.alloc _).trans gr)
            clear gr c0 c1
            have n0 := SN.out.c0
            have n1 := SN.out.c1
            have s0 := SS.out.c0
            have s1 := SS.out.c1
            have f0 := SS.out.f0
            have f1 := SS.out.f1
            have w0 : IntKind.i64.wrap (X + x) = X + x := IntWalk.i64_in _ (by omega)
            have w1' : IntKind.i64.wrap (Y + y) = Y + y := IntWalk.i64_in _ (by omega)
            go_wp2_with fail
            go_roundw
            case rel =>
              refine ⟨k + 1, by omega, by go_num, fun j hj => ?_, (SR.out.far (by omega) _ _).far (by omega) _ _, by rw [NX0.out, NX1.out]; exact (SS.out.set0 _).set1 _, (G1.out.setCell (by simp) _).setCell (by simp) _⟩
              rcases Nat.lt_or_ge j k with h' | h'
              · exact ha.out j h'
              · obtain rfl : j = k := by omega
                rw [HX.out, HY.out]; exact HV.out
            case measure => simp [intOf]; omega
          · have K := Lib.hid (fun w => check_v (bkE_f hv) w)
            have E := Lib.hid (suV_bad H0.out H1.out (allK_bad hlt (by rw [HX.out, HY.out]; exact hv)))
            clear hv
            go_wp2_with fail
            refine (K.out _).mono ?_; rintro e w1 ⟨rfl, gr⟩
            have SR := Lib.hid ((hr.out.go ((Bl.refl _).alloc _)).go gr)
            have G1 := Lib.hid ((hw.out.alloc _).trans gr)
            clear gr c0 c1
            have r0 := SR.out.c0
            have r1 := SR.out.c1
            have f0 := SR.out.f0
            have f1 := SR.out.f1
            have GG := G1.out
            go_wp2_with fail
            refine bodyPost_ret (v := .tuple #[.agg #[.int .i64 0, .int .i64 0], .int .i64 130]) (by simp [results, Try.results8, go_sem, r0, r1]) rfl ⟨sres_mk E.out, ?_⟩
            (repeat (first | with_reducible exact Bl.refl _ | with_reducible assumption | with_reducible refine Bl.setCell ?_ (by simp <;> omega) _ | with_reducible refine Bl.alloc ?_ _ | with_reducible refine Bl.drewN ?_ _ | with_reducible refine Bl.drew ?_))
        · have hall : allK ys = true := allK_iff.2 (fun j hj => ha.out j (by omega))
          obtain rfl : k = ys.length := by omega
          obtain ⟨X, hX⟩ : ∃ X, acc (fs ys) ys.length = X := ⟨_, rfl⟩
          obtain ⟨Y, hY⟩ : ∃ Y, acc (sn ys) ys.length = Y := ⟨_, rfl⟩
          have eB := suV_big H0.out H1.out hall
          have eO := suV_ok H0.out H1.out hall
          rw [hX, hY] at hs eB eO
          have EB := Lib.hid eB
          have EO := Lib.hid eO
          clear eB eO hX hY hall
          have z0 : w.heap.size + 1 < wr.heap.size := hs.out.lt
          have s0 := hs.out.c0
          have s1 := hs.out.c1
          rcases bcase (bkB X Y) with hv | hv
          · have K := Lib.hid (fun w => check_v (bkE_t hv) w)
            have E := Lib.hid (EO.out hv)
            clear hv
            go_wp2_with fail
            refine (K.out _).mono ?_; rintro e w1 ⟨rfl, gr⟩
            have SS := Lib.hid (hs.out.go gr)
            have SR := Lib.hid (hr.out.go gr)
            have G1 := Lib.hid (hw.out.trans gr)
            clear gr s0 s1
            have s0 := SS.out.c0
            have s1 := SS.out.c1
            have r0 := SR.out.c0
            have r1 := SR.out.c1
            have f0 := SR.out.f0
            have f1 := SR.out.f1
            have GG := G1.out
            go_wp2_with fail
            refine bodyPost_ret (v := .tuple #[.agg #[.int .i64 X, .int .i64 Y], .int .i64 0]) (by simp [results, Try.results8, go_sem, r0, r1]) rfl ⟨sres_mk E.out, ?_⟩
            (repeat (first | with_reducible exact Bl.refl _ | with_reducible assumption | with_reducible refine Bl.setCell ?_ (by simp <;> omega) _ | with_reducible refine Bl.alloc ?_ _ | with_reducible refine Bl.drewN ?_ _ | with_reducible refine Bl.drew ?_))
          · have K := Lib.hid (fun w => check_v (bkE_f hv) w)
            have E := Lib.hid (EB.out hv)
            clear hv
            go_wp2_with fail
            refine (K.out _).mono ?_; rintro e w1 ⟨rfl, gr⟩
            have SR := Lib.hid (hr.out.go gr)
            have G1 := Lib.hid (hw.out.trans gr)
            clear gr s0 s1
            have r0 := SR.out.c0
            have r1 := SR.out.c1
            have f0 := SR.out.f0
            have f1 := SR.out.f1
            have GG := G1.out
            go_wp2_with fail
            refine bodyPost_ret (v := .tuple #[.agg #[.int .i64 0, .int .i64 0], .int .i64 6]) (by simp [results, Try.results8, go_sem, r0, r1]) rfl ⟨sres_mk E.out, ?_⟩
            (repeat (first | with_reducible exact Bl.refl _ | with_reducible assumption | with_reducible refine Bl.setCell ?_ (by simp <;> omega) _ | with_reducible refine Bl.alloc ?_ _ | with_reducible refine Bl.drewN ?_ _ | with_reducible refine Bl.drew ?_))
theorem sum_v {ys : List (Int × Int)} {u v E : Int} (h : suV ys = (u, v, E)) (A : Option Addr) (cap : Nat) (w : World) (hl : (ys.length : Int) ≤ 9223372036854775807) (hT : Tr w A ys) :
    Calls Try.prog 8 #[.slice A ys.length cap] w fun e w' => e = .returned (.tuple #[.agg #[.int .i64 u, .int .i64 v], .int .i64 E]) ∧ Bl w w' := by
  have := sum_any ys A cap w hl hT; rw [h] at this; exact this

end Go.Proofs.Ytajlcagbfebbjaa
