/-
  What Local and True of package clock and of its reference return.
-/
import Derived.Test.YtaekofoonekkkaaTc
namespace Go.Proofs.Ytaekofoonekkkaa
open Go.RowKit

attribute [local go_sem] Oper.semAt_some

theorem ret2 {a b c d : Int} (h : a = c) (k : b = d) : Ending.returned (.tuple #[.int .i64 a, .int .i64 b]) = .returned (.tuple #[.int .i64 c, .int .i64 d]) := by rw [h, k]
/-- What Local gives. -/
def loE (o p t : Int) : Int := if ckB o p then (if tmB t then 0 else 2) else 190
def loV (o p t : Int) : Int := if ckB o p then (if tmB t then atV o p t else 0) else 0
/-- What True gives. -/
def tuE (o p l : Int) : Int := if ckB o p then trE o p l else 190
def tuV (o p l : Int) : Int := if ckB o p then trV o p l else 0

set_option maxHeartbeats 1000000 in
theorem clocal_any (o p t : Int) (w : World) :
    Calls Try.prog 12 #[.agg #[.int .i64 o, .int .i64 p], .int .i64 t] w fun e w' => e = .returned (.tuple #[.int .i64 (loV o p t), .int .i64 (loE o p t)]) ∧ Bl w w' := by
  rcases bcase (ckB o p) with hc | hc
  · have KC := Lib.hid (fun w => ccheck_v (ckE_t hc) w)
    rcases bcase (tmB t) with ht | ht
    · have KT := Lib.hid (fun w => isTime_v ht w)
      have KL := Lib.hid (fun w => local_any o p t w hc ht)
      rw [show loV o p t = atV o p t by simp [loV, hc, ht], show loE o p t = 0 by simp [loE, hc, ht]]
      generalize atV o p t = v at *
      clear hc ht
      go_enter Try.func12, Try.ntmps12
      go_wp2_with fail
      refine (KC.out _).mono ?_; rintro e w1 ⟨rfl, gr⟩
      have k0 := (gr.cell (p := ⟨w.heap.size, 0, none⟩) (by simp)).trans (show _ = some (Value.int .i64 o) by simp [go_sem])
      have k1 := (gr.cell (p := ⟨w.heap.size, 1, none⟩) (by simp)).trans (show _ = some (Value.int .i64 p) by simp [go_sem])
      have G := Lib.hid (Bl.trans ((Bl.refl w).alloc _) gr)
      clear gr
      go_wp2_with fail
      refine (KT.out _).mono ?_; rintro e w2 ⟨rfl, rfl⟩
      go_wp2_with fail
      refine (KL.out _).mono ?_; rintro e w2 ⟨rfl, gr⟩
      go_wp2_with fail
      go_ret2
      exact ⟨rfl, G.out.trans gr⟩
    · have KT := Lib.hid (fun w => isTime_v ht w)
      rw [show loV o p t = 0 by simp [loV, hc, ht], show loE o p t = 2 by simp [loE, hc, ht]]
      clear hc ht
      go_enter Try.func12, Try.ntmps12
      go_wp2_with fail
      refine (KC.out _).mono ?_; rintro e w1 ⟨rfl, gr⟩
      have G := Lib.hid (Bl.trans ((Bl.refl w).alloc _) gr)
      clear gr
      go_wp2_with fail
      refine (KT.out _).mono ?_; rintro e w2 ⟨rfl, rfl⟩
      go_wp2_with fail
      go_ret2
      exact ⟨rfl, G.out⟩
  · have KC := Lib.hid (fun w => ccheck_v (ckE_f hc) w)
    rw [show loV o p t = 0 by simp [loV, hc], show loE o p t = 190 by simp [loE, hc]]
    clear hc
    go_enter Try.func12, Try.ntmps12
    go_wp2_with fail
    refine (KC.out _).mono ?_; rintro e w1 ⟨rfl, gr⟩
    have G := Lib.hid (Bl.trans ((Bl.refl w).alloc _) gr)
    clear gr
    go_wp2_with fail
    go_ret2
    exact ⟨rfl, G.out⟩

set_option maxHeartbeats 1000000 in
theorem rlocal_any (o p t : Int) (w : World) :
    Calls Try.prog 13 #[.agg #[.int .i64 o, .int .i64 p], .int .i64 t] w fun e w' => e = .returned (.tuple #[.int .i64 (loV o p t), .int .i64 (loE o p t)]) ∧ Bl w w' := by
  rcases bcase (ckB o p) with hc | hc
  · have KC := Lib.hid (fun w => cright_v hc w)
    rcases bcase (tmB t) with ht | ht
    · have KL := Lib.hid (fun w => at_any o p t w hc ht)
      rw [show loV o p t = atV o p t by simp [loV, hc, ht], show loE o p t = 0 by simp [loE, hc, ht]]
      obtain ⟨t1, t2⟩ := tmB_iff.1 ht
      generalize atV o p t = v at *
      clear hc ht
      go_enter Try.func13, Try.ntmps13
      go_wp2_with fail
      refine (KC.out _).mono ?_; rintro e w1 ⟨rfl, gr⟩
      have k0 := (gr.cell (p := ⟨w.heap.size, 0, none⟩) (by simp)).trans (show _ = some (Value.int .i64 o) by simp [go_sem])
      have k1 := (gr.cell (p := ⟨w.heap.size, 1, none⟩) (by simp)).trans (show _ = some (Value.int .i64 p) by simp [go_sem])
      have G := Lib.hid (Bl.trans ((Bl.refl w).alloc _) gr)
      clear gr
      go_wp2_with fail
      refine (KL.out _).mono ?_; rintro e w2 ⟨rfl, gr⟩
      go_wp2_with fail
      go_ret2
      exact ⟨rfl, G.out.trans gr⟩
    · rw [show loV o p t = 0 by simp [loV, hc, ht], show loE o p t = 2 by simp [loE, hc, ht]]
      have t0 := tmB_not.1 ht
      clear hc ht
      by_cases t1 : t < 0
      · clear t0
        go_enter Try.func13, Try.ntmps13
        go_wp2_with fail
        refine (KC.out _).mono ?_; rintro e w1 ⟨rfl, gr⟩
        have G := Lib.hid (Bl.trans ((Bl.refl w).alloc _) gr)
        clear gr
        go_wp2_with fail
        go_ret2
        exact ⟨rfl, G.out⟩
      · have t2 : 1099511627776 < t := by omega
        clear t0
        go_enter Try.func13, Try.ntmps13
        go_wp2_with fail
        refine (KC.out _).mono ?_; rintro e w1 ⟨rfl, gr⟩
        have G := Lib.hid (Bl.trans ((Bl.refl w).alloc _) gr)
        clear gr
        go_wp2_with fail
        go_ret2
        exact ⟨rfl, G.out⟩
  · have KC := Lib.hid (fun w => cright_v hc w)
    rw [show loV o p t = 0 by simp [loV, hc], show loE o p t = 190 by simp [loE, hc]]
    clear hc
    go_enter Try.func13, Try.ntmps13
    go_wp2_with fail
    refine (KC.out _).mono ?_; rintro e w1 ⟨rfl, gr⟩
    have G := Lib.hid (Bl.trans ((Bl.refl w).alloc _) gr)
    clear gr
    go_wp2_with fail
    go_ret2
    exact ⟨rfl, G.out⟩

set_option maxHeartbeats 1000000 in
theorem ctrue_any (o p l : Int) (w : World) :
    Calls Try.prog 16 #[.agg #[.int .i64 o, .int .i64 p], .int .i64 l] w fun e w' => e = .returned (.tuple #[.int .i64 (tuV o p l), .int .i64 (tuE o p l)]) ∧ Bl w w' := by
  rcases bcase (ckB o p) with hc | hc
  · have KC := Lib.hid (fun w => ccheck_v (ckE_t hc) w)
    by_cases hf : fst o p l ≤ 1099511627776
    · have f0 : 0 ≤ fst o p l := by unfold fst; omega
      have KE := Lib.hid (fun w => earliest_any o p l (fst o p l) w hc (by omega))
      rw [show tuV o p l = fst o p l by simp [tuV, trV, hc, hf], show tuE o p l = 0 by simp [tuE, trE, hc, hf]]
      generalize fst o p l = v at *
      have KT := Lib.hid (fun w => isTime_v (tmB_iff.2 ⟨f0, hf⟩) w)
      clear hc hf f0
      go_enter Try.func16, Try.ntmps16
      go_wp2_with fail
      refine (KC.out _).mono ?_; rintro e w1 ⟨rfl, gr⟩
      have k0 := (gr.cell (p := ⟨w.heap.size, 0, none⟩) (by simp)).trans (show _ = some (Value.int .i64 o) by simp [go_sem])
      have k1 := (gr.cell (p := ⟨w.heap.size, 1, none⟩) (by simp)).trans (show _ = some (Value.int .i64 p) by simp [go_sem])
      have G := Lib.hid (Bl.trans ((Bl.refl w).alloc _) gr)
      clear gr
      go_wp2_with fail
      refine (KE.out _).mono ?_; rintro e w2 ⟨rfl, gr⟩
      go_wp2_with fail
      refine (KT.out _).mono ?_; rintro e w2 ⟨rfl, rfl⟩
      go_wp2_with fail
      go_ret2
      exact ⟨rfl, G.out.trans gr⟩
    · have KE := Lib.hid (fun w => earliest_any o p l 1099511627777 w hc (by omega))
      rw [show tuV o p l = 0 by simp [tuV, trV, hc, hf], show tuE o p l = 4 by simp [tuE, trE, hc, hf]]
      have KT := Lib.hid (fun w => isTime_v (tmB_not.2 (show ¬ (0 ≤ (1099511627777 : Int) ∧ (1099511627777 : Int) ≤ 1099511627776) by omega)) w)
      clear hc hf
      go_enter Try.func16, Try.ntmps16
      go_wp2_with fail
      refine (KC.out _).mono ?_; rintro e w1 ⟨rfl, gr⟩
      have k0 := (gr.cell (p := ⟨w.heap.size, 0, none⟩) (by simp)).trans (show _ = some (Value.int .i64 o) by simp [go_sem])
      have k1 := (gr.cell (p := ⟨w.heap.size, 1, none⟩) (by simp)).trans (show _ = some (Value.int .i64 p) by simp [go_sem])
      have G := Lib.hid (Bl.trans ((Bl.refl w).alloc _) gr)
      clear gr
      go_wp2_with fail
      refine (KE.out _).mono ?_; rintro e w2 ⟨rfl, gr⟩
      go_wp2_with fail
      refine (KT.out _).mono ?_; rintro e w2 ⟨rfl, rfl⟩
      go_wp2_with fail
      go_ret2
      exact ⟨rfl, G.out.trans gr⟩
  · have KC := Lib.hid (fun w => ccheck_v (ckE_f hc) w)
    rw [show tuV o p l = 0 by simp [tuV, hc], show tuE o p l = 190 by simp [tuE, hc]]
    clear hc
    go_enter Try.func16, Try.ntmps16
    go_wp2_with fail
    refine (KC.out _).mono ?_; rintro e w1 ⟨rfl, gr⟩
    have G := Lib.hid (Bl.trans ((Bl.refl w).alloc _) gr)
    clear gr
    go_wp2_with fail
    go_ret2
    exact ⟨rfl, G.out⟩

theorem rtrue_step (o p l : Int) (hp : -200000 ≤ p) (t : Int) (ht : 0 ≤ t) : (l ≤ atV o p t ↔ fst o p l ≤ t) := by
  rw [← cel_iff hp]; unfold fst; omega

set_option maxHeartbeats 1000000 in
theorem rtrue_any (o p l : Int) (w : World) :
    Calls Try.prog 17 #[.agg #[.int .i64 o, .int .i64 p], .int .i64 l] w fun e w' => e = .returned (.tuple #[.int .i64 (tuV o p l), .int .i64 (tuE o p l)]) ∧ Bl w w' := by
  rcases bcase (ckB o p) with hc | hc
  · have KC := Lib.hid (fun w => cright_v hc w)
    have KA := Lib.hid (fun t w (ht : tmB t = true) => at_any o p t w hc ht)
    have hcc := Lib.hid hc
    have hs := Lib.hid (fun t (ht : 0 ≤ t) => rtrue_step o p l (ckB_iff.1 hc).2.1 t ht)
    have K0 := Lib.hid (fun w => at_any o p 1099511627776 w hc (tmB_iff.2 (by omega)))
    by_cases hf : fst o p l ≤ 1099511627776
    · have f0 : 0 ≤ fst o p l := by unfold fst; omega
      have h0 := (hs.out 1099511627776 (by omega)).2 hf
      rw [show tuV o p l = fst o p l by simp [tuV, trV, hc, hf], show tuE o p l = 0 by simp [tuE, trE, hc, hf]]
      generalize atV o p 1099511627776 = v at *
      generalize fst o p l = M at *
      clear hc
      go_enter Try.func17, Try.ntmps17
      go_wp2_with fail
      refine (KC.out _).mono ?_; rintro e w1 ⟨rfl, gr⟩
      have k0 := (gr.cell (p := ⟨w.heap.size, 0, none⟩) (by simp)).trans (show _ = some (Value.int .i64 o) by simp [go_sem])
      have k1 := (gr.cell (p := ⟨w.heap.size, 1, none⟩) (by simp)).trans (show _ = some (Value.int .i64 p) by simp [go_sem])
      have G := Lib.hid (Bl.trans ((Bl.refl w).alloc _) gr)
      clear gr
      go_wp2_with fail
      refine (K0.out _).mono ?_; rintro e w2 ⟨rfl, gr⟩
      replace k0 := (gr.cell (p := ⟨w.heap.size, 0, none⟩) (cell_lt k0)).trans k0
      replace k1 := (gr.cell (p := ⟨w.heap.size, 1, none⟩) (cell_lt k1)).trans k1
      have G2 := Lib.hid (G.out.trans gr)
      clear gr G
      have ha := cell_lt k0
      generalize w.heap.size = a at *
      have C0 := Lib.hid (show ∀ w', Bl w2 w' → w'.cell? ⟨a, 0, none⟩ = some (.int .i64 o) from fun w' g => (g.cell (p := ⟨a, 0, none⟩) ha).trans k0)
      have C1 := Lib.hid (show ∀ w', Bl w2 w' → w'.cell? ⟨a, 1, none⟩ = some (.int .i64 p) from fun w' g => (g.cell (p := ⟨a, 1, none⟩) ha).trans k1)
      clear ha k0 k1
      go_wp2_with fail
      go_loopw [6, 7] (fun iv jv wr => ∃ i j : Int, -1 ≤ i ∧ i < j ∧ j ≤ 1099511627776 ∧ iv = .int .i64 i ∧ jv = .int .i64 j ∧ Hid (i < M ∧ M ≤ j) ∧ Hid (Bl w2 wr)) (fun iv jv _ => (intOf jv - intOf iv).toNat)
      case atStart => exact ⟨-1, 1099511627776, by omega, by omega, by omega, rfl, rfl, ⟨by omega, hf⟩, Bl.refl _⟩
      case round =>
        obtain ⟨i, j, hi, hij, hj, rfl, rfl, hI, hw⟩ := hrel
        have k0 := C0.out _ hw.out
        have k1 := C1.out _ hw.out
        by_cases hlt : 1 < j - i
        · obtain ⟨h, hh⟩ : ∃ h : Int, i + (j - i) / 2 = h := ⟨_, rfl⟩
          have hh1 : i < h := by omega
          have hh2 : h < j := by omega
          have q0 : IntKind.i64.wrap (j - i) = j - i := IntWalk.i64_in _ (by omega)
          have q1 : IntKind.i64.wrap (i + (j - i) / 2) = h := by rw [IntWalk.i64_in _ (by omega)]; exact hh
          have KA1 := Lib.hid (fun w => KA.out h w (tmB_iff.2 (by omega)))
          have hs1 := hs.out h (by omega)
          have hvb := atV_bd hcc.out (tmB_iff.2 (show 0 ≤ h ∧ h ≤ 1099511627776 by omega))
          generalize atV o p h = y at *
          clear hh
          by_cases hy : l ≤ y
          · have hM2 := hs1.1 hy
            clear hs1
            go_wp2_with fail
            refine (KA1.out _).mono ?_; rintro e w4 ⟨rfl, gr⟩
            have G4 := Lib.hid (hw.out.trans gr); clear gr
            go_wp2_with fail
            go_roundw
            case rel => exact ⟨i, h, by omega, by omega, by omega, rfl, rfl, by have h2 := hI.out; exact ⟨by omega, by omega⟩, G4.out⟩
            case measure => simp [intOf]; omega
          · have hM2 : h < M := by have := fun x => hy (hs1.2 x); omega
            clear hs1
            go_wp2_with fail
            refine (KA1.out _).mono ?_; rintro e w4 ⟨rfl, gr⟩
            have G4 := Lib.hid (hw.out.trans gr); clear gr
            go_wp2_with fail
            go_roundw
            case rel => exact ⟨h, j, by omega, by omega, by omega, rfl, rfl, by have h2 := hI.out; exact ⟨by omega, by omega⟩, G4.out⟩
            case measure => simp [intOf]; omega
        · have q0 : IntKind.i64.wrap (j - i) = j - i := IntWalk.i64_in _ (by omega)
          go_wp2_with fail
          go_ret2
          exact ⟨ret2 (by have h2 := hI.out; omega) rfl, G2.out.trans hw.out⟩
    · have h0 : ¬ (l ≤ atV o p 1099511627776) := fun h => hf ((hs.out 1099511627776 (by omega)).1 h)
      rw [show tuV o p l = 0 by simp [tuV, trV, hc, hf], show tuE o p l = 4 by simp [tuE, trE, hc, hf]]
      generalize atV o p 1099511627776 = v at *
      clear hc hf hs KA hcc
      go_enter Try.func17, Try.ntmps17
      go_wp2_with fail
      refine (KC.out _).mono ?_; rintro e w1 ⟨rfl, gr⟩
      have k0 := (gr.cell (p := ⟨w.heap.size, 0, none⟩) (by simp)).trans (show _ = some (Value.int .i64 o) by simp [go_sem])
      have k1 := (gr.cell (p := ⟨w.heap.size, 1, none⟩) (by simp)).trans (show _ = some (Value.int .i64 p) by simp [go_sem])
      have G := Lib.hid (Bl.trans ((Bl.refl w).alloc _) gr)
      clear gr
      go_wp2_with fail
      refine (K0.out _).mono ?_; rintro e w2 ⟨rfl, gr⟩
      have G2 := Lib.hid (G.out.trans gr)
      clear gr G k0 k1
      go_wp2_with fail
      go_ret2
      exact ⟨rfl, G2.out⟩
  · have KC := Lib.hid (fun w => cright_v hc w)
    rw [show tuV o p l = 0 by simp [tuV, hc], show tuE o p l = 190 by simp [tuE, hc]]
    clear hc
    go_enter Try.func17, Try.ntmps17
    go_wp2_with fail
    refine (KC.out _).mono ?_; rintro e w1 ⟨rfl, gr⟩
    have G := Lib.hid (Bl.trans ((Bl.refl w).alloc _) gr)
    clear gr
    go_wp2_with fail
    go_ret2
    exact ⟨rfl, G.out⟩

end Go.Proofs.Ytaekofoonekkkaa
