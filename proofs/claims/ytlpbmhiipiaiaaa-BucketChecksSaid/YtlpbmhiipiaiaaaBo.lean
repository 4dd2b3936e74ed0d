/-
  What Sum of the reference of package bucket returns.
-/
import Derived.Test.YtlpbmhiipiaiaaaBn
import Derived.BigRegion
namespace Go.Proofs.Ytlpbmhiipiaiaaa
open Go.RowKit

theorem Sl.drew {a : Nat} {x y : Int} {w : World} (h : Sl a x y w) : Sl a x y w.drew := ⟨h.c0, h.c1, h.f0, h.f1, h.lt⟩

set_option maxHeartbeats 1000000 in
theorem rsum_any (ys : List (Int × Int)) (A : Option Addr) (cap : Nat) (w : World) (hl : (ys.length : Int) ≤ 9223372036854775807) (hT : Tr w A ys) :
    Calls Try.prog 12 #[.slice A ys.length cap] w fun e w' => e = sres (suV ys) ∧ Bl w w' := by
  have T0 := Lib.hid hT
  clear hT
  by_cases h0 : ys.length = 0
  · have E := Lib.hid (suV_nil h0)
    have hI : ((ys.length : Nat) : Int) = 0 := by omega
    clear h0 hl
    go_enter Try.func12, Try.ntmps12
    go_wp2_with fail
    refine bodyPost_ret (v := .tuple #[.agg #[.int .i64 0, .int .i64 0], .int .i64 2]) (by simp [results, Try.results12, go_sem]) rfl ⟨sres_mk E.out, ?_⟩
    (repeat (first | with_reducible exact Bl.refl _ | with_reducible assumption | with_reducible refine Bl.setCell ?_ (by simp <;> omega) _ | with_reducible refine Bl.alloc ?_ _ | with_reducible refine Bl.drewN ?_ _ | with_reducible refine Bl.drew ?_))
  · by_cases h1 : 12 < ys.length
    · have E := Lib.hid (suV_long h1)
      have hI : (12 : Int) < (ys.length : Int) := by omega
      have hJ : (((ys.length : Nat) : Int) == 0) = false := beq_false_of_ne (by omega)
      go_enter Try.func12, Try.ntmps12
      go_wp2_with fail
      refine bodyPost_ret (v := .tuple #[.agg #[.int .i64 0, .int .i64 0], .int .i64 3]) (by simp [results, Try.results12, go_sem]) rfl ⟨sres_mk E.out, ?_⟩
      (repeat (first | with_reducible exact Bl.refl _ | with_reducible assumption | with_reducible refine Bl.setCell ?_ (by simp <;> omega) _ | with_reducible refine Bl.alloc ?_ _ | with_reducible refine Bl.drewN ?_ _ | with_reducible refine Bl.drew ?_))
    · have hJ : (((ys.length : Nat) : Int) == 0) = false := beq_false_of_ne (by omega)
      have hI : ¬ (12 : Int) < (ys.length : Int) := by omega
      have H0 := Lib.hid h0
      have H1 := Lib.hid h1
      clear h0
      go_enter Try.func12, Try.ntmps12
      go_wp2_with fail
      go_loopw [5] (fun iv wr => ∃ k : Nat, k ≤ ys.length ∧ iv = .int .i64 k ∧ Hid (∀ j, j < k → bkB (fs ys j) (sn ys j) = true) ∧ Hid (Sl w.heap.size 0 0 wr) ∧ Hid (Sl (w.heap.size + 1) (acc (fs ys) k) (acc (sn ys) k) wr) ∧ Hid (Bl w wr)) (fun iv _ => ys.length - (intOf iv).toNat)
      case atStart => exact ⟨0, Nat.zero_le _, rfl, fun j hj => absurd hj (by omega), (Sl.new w 0 0 _).go ((Bl.refl _).alloc _), (by have := Sl.new (w.alloc (.cells #[.int .i64 0, .int .i64 0] 23)) 0 0 23; rw [World.size_alloc] at this; exact this), ((Bl.refl w).alloc _).alloc _⟩
      case round =>
        obtain ⟨k, hk, rfl, ha, hr, hs, hw⟩ := hrel
        by_cases hlt : k < ys.length
        · obtain ⟨b, off, ea, hb, c0, c1⟩ := T0.out.go hw.out k hlt
          have bd := acc_bd ha.out
          have nx0 : acc (fs ys) (k + 1) = acc (fs ys) k + fs ys k := rfl
          have nx1 : acc (sn ys) (k + 1) = acc (sn ys) k + sn ys k := rfl
          obtain ⟨x, hx⟩ : ∃ x, fs ys k = x := ⟨_, rfl⟩
          obtain ⟨y, hy⟩ : ∃ y, sn ys k = y := ⟨_, rfl⟩
          obtain ⟨X, hX⟩ : ∃ X, acc (fs ys) k = X := ⟨_, rfl⟩
          obtain ⟨Y, hY⟩ : ∃ Y, acc (sn ys) k = Y := ⟨_, rfl⟩
          rw [hx] at c0 nx0
          rw [hy] at c1 nx1
          rw [hX] at nx0 bd hs
          rw [hY] at nx1 bd hs
          obtain ⟨⟨bd1, bd2⟩, bd3, bd4⟩ := bd
          have NX0 := Lib.hid nx0
          have NX1 := Lib.hid nx1
          have HX := Lib.hid hx
          have HY := Lib.hid hy
          clear nx0 nx1 hx hy hX hY
          subst ea
          have z0 : w.heap.size + 1 < wr.heap.size := hs.out.lt
          rcases bcase (bkB x y) with hv | hv
          · have K := Lib.hid (fun w => right_v hv w)
            obtain ⟨⟨v1, v2⟩, v3, v4⟩ := bkB_iff.1 hv
            have HV := Lib.hid hv
            clear hv
            go_wp2_with fail
            refine (K.out _).mono ?_; rintro e w1 ⟨rfl, gr⟩
            have SS := Lib.hid (hs.out.go gr)
            have SR := Lib.hid (hr.out.go gr)
            have G1 := Lib.hid (hw.out.trans gr)
            have e0 := (gr.cell (p := ⟨b, off + k * 2, none⟩) hb).trans c0
            have e1 := (gr.cell (p := ⟨b, off + k * 2 + 1, none⟩) hb).trans c1
            have hb1 : b < w1.heap.size := Nat.lt_of_lt_of_le hb gr.size
            clear gr c0 c1
            have s0 := SS.out.c0
            have s1 := SS.out.c1
            have f0 := SS.out.f0
            have f1 := SS.out.f1
            have w0 : IntKind.i64.wrap (X + x) = X + x := IntWalk.i64_in _ (by omega)
            have w1' : IntKind.i64.wrap (Y + y) = Y + y := IntWalk.i64_in _ (by omega)
            have i0 : (0 : Int) ≤ (k : Int) := by omega
            have i1 : (k : Int) < (ys.length : Int) := by omega
            go_wp2_with fail
            go_region
            all_goals go_wp2_with fail
            all_goals go_roundw
            case rel =>
              refine ⟨k + 1, by omega, by go_num, fun j hj => ?_, ?_, ?_, ?_⟩
              · rcases Nat.lt_or_ge j k with h' | h'
                · exact ha.out j h'
                · obtain rfl : j = k := by omega
                  rw [HX.out, HY.out]; exact HV.out
              · exact ((SR.out.far (by omega) _ _).far (by omega) _ _).drew
              · rw [NX0.out, NX1.out]; exact ((SS.out.set0 _).set1 _).drew
              · exact ((G1.out.setCell (by simp) _).setCell (by simp) _).drew
            case measure => simp [intOf]; omega
          · have K := Lib.hid (fun w => right_v hv w)
            have E := Lib.hid (suV_bad H0.out H1.out (allK_bad hlt (by rw [HX.out, HY.out]; exact hv)))
            clear hv
            go_wp2_with fail
            refine (K.out _).mono ?_; rintro e w1 ⟨rfl, gr⟩
            have SR := Lib.hid (hr.out.go gr)
            have G1 := Lib.hid (hw.out.trans gr)
            clear gr c0 c1
            have r0 := SR.out.c0
            have r1 := SR.out.c1
            have f0 := SR.out.f0
            have f1 := SR.out.f1
            have GG := G1.out
            go_wp2_with fail
            refine bodyPost_ret (v := .tuple #[.agg #[.int .i64 0, .int .i64 0], .int .i64 130]) (by simp [results, Try.results12, go_sem, r0, r1]) rfl ⟨sres_mk E.out, ?_⟩
            (repeat (first | with_reducible exact Bl.refl _ | with_reducible assumption | with_reducible refine Bl.setCell ?_ (by simp <;> omega) _ | with_reducible refine Bl.alloc ?_ _ | with_reducible refine Bl.drewN ?_ _ | with_reducible refine Bl.drew ?_))
        · have hall : allK ys = true := allK_iff.2 (fun j hj => ha.out j (by omega))
          obtain rfl : k = ys.length := by omega
          obtain ⟨X, hX⟩ : ∃ X, acc (fs ys) ys.length = X := ⟨_, rfl⟩
          obtain ⟨Y, hY⟩ : ∃ Y, acc (sn ys) ys.length = Y := ⟨_, rfl⟩
          have eB := suV_big H0.out H1.out hall
          have eO := suV_ok H0.out H1.out hall
          rw [hX, hY] at hs eB eO
          have EB := Lib.hid eB
          have EO := Lib.hid eO
          clear eB eO hX hY hall
          have z0 : w.heap.size + 1 < wr.heap.size := hs.out.lt
          have s0 := hs.out.c0
          have s1 := hs.out.c1
          rcases bcase (bkB X Y) with hv | hv
          · have K := Lib.hid (fun w => right_v hv w)
            have E := Lib.hid (EO.out hv)
            clear hv
            go_wp2_with fail
            refine (K.out _).mono ?_; rintro e w1 ⟨rfl, gr⟩
            have SS := Lib.hid (hs.out.go gr)
            have SR := Lib.hid (hr.out.go gr)
            have G1 := Lib.hid (hw.out.trans gr)
            clear gr s0 s1
            have s0 := SS.out.c0
            have s1 := SS.out.c1
            have r0 := SR.out.c0
            have r1 := SR.out.c1
            have f0 := SR.out.f0
            have f1 := SR.out.f1
            have GG := G1.out
            go_wp2_with fail
            refine bodyPost_ret (v := .tuple #[.agg #[.int .i64 X, .int .i64 Y], .int .i64 0]) (by simp [results, Try.results12, go_sem, r0, r1]) rfl ⟨sres_mk E.out, ?_⟩
            (repeat (first | with_reducible exact Bl.refl _ | with_reducible assumption | with_reducible refine Bl.setCell ?_ (by simp <;> omega) _ | with_reducible refine Bl.alloc ?_ _ | with_reducible refine Bl.drewN ?_ _ | with_reducible refine Bl.drew ?_))
          · have K := Lib.hid (fun w => right_v hv w)
            have E := Lib.hid (EB.out hv)
            clear hv
            go_wp2_with fail
            refine (K.out _).mono ?_; rintro e w1 ⟨rfl, gr⟩
            have SR := Lib.hid (hr.out.go gr)
            have G1 := Lib.hid (hw.out.trans gr)
            clear gr s0 s1
            have r0 := SR.out.c0
            have r1 := SR.out.c1
            have f0 := SR.out.f0
            have f1 := SR.out.f1
            have GG := G1.out
            go_wp2_with fail
            refine bodyPost_ret (v := .tuple #[.agg #[.int .i64 0, .int .i64 0], .int .i64 6]) (by simp [results, Try.results12, go_sem, r0, r1]) rfl ⟨sres_mk E.out, ?_⟩
            (repeat (first | with_reducible exact Bl.refl _ | with_reducible assumption | with_reducible refine Bl.setCell ?_ (by simp <;> omega) _ | with_reducible refine Bl.alloc ?_ _ | with_reducible refine Bl.drewN ?_ _ | with_reducible refine Bl.drew ?_))
theorem rsum_v {ys : List (Int × Int)} {u v E : Int} (h : suV ys = (u, v, E)) (A : Option Addr) (cap : Nat) (w : World) (hl : (ys.length : Int) ≤ 9223372036854775807) (hT : Tr w A ys) :
    Calls Try.prog 12 #[.slice A ys.length cap] w fun e w' => e = .returned (.tuple #[.agg #[.int .i64 u, .int .i64 v], .int .i64 E]) ∧ Bl w w' := by
  have := rsum_any ys A cap w hl hT; rw [h] at this; exact this

end Go.Proofs.Ytlpbmhiipiaiaaa
