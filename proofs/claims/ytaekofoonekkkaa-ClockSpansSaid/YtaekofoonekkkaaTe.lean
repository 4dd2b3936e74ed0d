/-
  What Elapsed, Offset and Bound of package clock and of its reference return.
-/
import Derived.Test.YtaekofoonekkkaaTd
namespace Go.Proofs.Ytaekofoonekkkaa
open Go.RowKit

attribute [local go_sem] Oper.semAt_some

/-- What Elapsed gives. -/
def elB (t d : Int) : Bool := tmB t && tmB d && tmB (t + d)
def elE (o p t d : Int) : Int := if ckB o p then (if elB t d then 0 else 2) else 190
def elV (o p t d : Int) : Int := if ckB o p then (if elB t d then atV o p (t + d) - atV o p t else 0) else 0
/-- What Offset gives. -/
def ofE (o p o' p' t : Int) : Int := if ckB o p then (if ckB o' p' then (if tmB t then 0 else 2) else 190) else 190
def ofV (o p o' p' t : Int) : Int := if ckB o p then (if ckB o' p' then (if tmB t then atV o p t - atV o' p' t else 0) else 0) else 0
/-- What Bound gives. -/
def boB (p d : Int) : Bool := btB 0 p 200000 && tmB d
def boE (p d : Int) : Int := if boB p d then 0 else 2
def boV (p d : Int) : Int := if boB p d then -(d * -p / 1000000000) else 0

set_option maxHeartbeats 1000000 in
theorem celapsed_any (o p t d : Int) (w : World) :
    Calls Try.prog 18 #[.agg #[.int .i64 o, .int .i64 p], .int .i64 t, .int .i64 d] w fun e w' => e = .returned (.tuple #[.int .i64 (elV o p t d), .int .i64 (elE o p t d)]) ∧ Bl w w' := by
  rcases bcase (ckB o p) with hc | hc
  · have KC := Lib.hid (fun w => ccheck_v (ckE_t hc) w)
    rcases bcase (tmB t) with ht | ht
    · have KT := Lib.hid (fun w => isTime_v ht w)
      rcases bcase (tmB d) with hd | hd
      · have KD := Lib.hid (fun w => isTime_v hd w)
        obtain ⟨s, hse, q0⟩ : ∃ s, t + d = s ∧ IntKind.i64.wrap (t + d) = s := ⟨_, rfl, IntWalk.i64_in _ (by have := tmB_iff.1 ht; have := tmB_iff.1 hd; omega)⟩
        rcases bcase (tmB s) with hs | hs
        · have KS := Lib.hid (fun w => isTime_v hs w)
          have KL := Lib.hid (fun w => local_any o p t w hc ht)
          have KM := Lib.hid (fun w => local_any o p s w hc hs)
          rw [show elV o p t d = atV o p s - atV o p t by simp [elV, elB, hc, ht, hd, hs, hse], show elE o p t d = 0 by simp [elE, elB, hc, ht, hd, hs, hse]]
          have b1 := atV_bd hc ht
          have b2 := atV_bd hc hs
          generalize atV o p t = v at *
          generalize atV o p s = u at *
          have q1 : IntKind.i64.wrap (u - v) = u - v := IntWalk.i64_in _ (by omega)
          clear hc ht hd hs hse b1 b2
          go_enter Try.func18, Try.ntmps18
          go_wp2_with fail
          refine (KC.out _).mono ?_; rintro e w1 ⟨rfl, gr⟩
          have k0 := (gr.cell (p := ⟨w.heap.size, 0, none⟩) (by simp; try omega)).trans (show _ = some (Value.int .i64 o) by simp [go_sem])
          have k1 := (gr.cell (p := ⟨w.heap.size, 1, none⟩) (by simp; try omega)).trans (show _ = some (Value.int .i64 p) by simp [go_sem])
          have G := Lib.hid (Bl.trans ((Bl.refl w).alloc _) gr)
          clear gr
          go_wp2_with fail
          refine (KT.out _).mono ?_; rintro e w2 ⟨rfl, rfl⟩
          go_wp2_with fail
          refine (KD.out _).mono ?_; rintro e w2 ⟨rfl, rfl⟩
          go_wp2_with fail
          refine (KS.out _).mono ?_; rintro e w2 ⟨rfl, rfl⟩
          go_wp2_with fail
          refine (KM.out _).mono ?_; rintro e w2 ⟨rfl, gr⟩
          replace k0 := (gr.cell (p := ⟨w.heap.size, 0, none⟩) (cell_lt k0)).trans k0
          replace k1 := (gr.cell (p := ⟨w.heap.size, 1, none⟩) (cell_lt k1)).trans k1
          have G2 := Lib.hid (G.out.trans gr)
          clear gr
          go_wp2_with fail
          refine (KL.out _).mono ?_; rintro e w3 ⟨rfl, gr⟩
          go_wp2_with fail
          go_ret2
          exact ⟨rfl, G2.out.trans gr⟩
        · have KS := Lib.hid (fun w => isTime_v hs w)
          rw [show elV o p t d = 0 by simp [elV, elB, hc, ht, hd, hs, hse], show elE o p t d = 2 by simp [elE, elB, hc, ht, hd, hs, hse]]
          clear hc ht hd hs hse
          go_enter Try.func18, Try.ntmps18
          go_wp2_with fail
          refine (KC.out _).mono ?_; rintro e w1 ⟨rfl, gr⟩
          have G := Lib.hid (Bl.trans ((Bl.refl w).alloc _) gr)
          clear gr
          go_wp2_with fail
          refine (KT.out _).mono ?_; rintro e w2 ⟨rfl, rfl⟩
          go_wp2_with fail
          refine (KD.out _).mono ?_; rintro e w2 ⟨rfl, rfl⟩
          go_wp2_with fail
          refine (KS.out _).mono ?_; rintro e w2 ⟨rfl, rfl⟩
          go_wp2_with fail
          go_ret2
          exact ⟨rfl, G.out⟩
      · have KD := Lib.hid (fun w => isTime_v hd w)
        rw [show elV o p t d = 0 by simp [elV, elB, hc, ht, hd], show elE o p t d = 2 by simp [elE, elB, hc, ht, hd]]
        clear hc ht hd
        go_enter Try.func18, Try.ntmps18
        go_wp2_with fail
        refine (KC.out _).mono ?_; rintro e w1 ⟨rfl, gr⟩
        have G := Lib.hid (Bl.trans ((Bl.refl w).alloc _) gr)
        clear gr
        go_wp2_with fail
        refine (KT.out _).mono ?_; rintro e w2 ⟨rfl, rfl⟩
        go_wp2_with fail
        refine (KD.out _).mono ?_; rintro e w2 ⟨rfl, rfl⟩
        go_wp2_with fail
        go_ret2
        exact ⟨rfl, G.out⟩
    · have KT := Lib.hid (fun w => isTime_v ht w)
      rw [show elV o p t d = 0 by simp [elV, elB, hc, ht], show elE o p t d = 2 by simp [elE, elB, hc, ht]]
      clear hc ht
      go_enter Try.func18, Try.ntmps18
      go_wp2_with fail
      refine (KC.out _).mono ?_; rintro e w1 ⟨rfl, gr⟩
      have G := Lib.hid (Bl.trans ((Bl.refl w).alloc _) gr)
      clear gr
      go_wp2_with fail
      refine (KT.out _).mono ?_; rintro e w2 ⟨rfl, rfl⟩
      go_wp2_with fail
      go_ret2
      exact ⟨rfl, G.out⟩
  · have KC := Lib.hid (fun w => ccheck_v (ckE_f hc) w)
    rw [show elV o p t d = 0 by simp [elV, hc], show elE o p t d = 190 by simp [elE, hc]]
    clear hc
    go_enter Try.func18, Try.ntmps18
    go_wp2_with fail
    refine (KC.out _).mono ?_; rintro e w1 ⟨rfl, gr⟩
    have G := Lib.hid (Bl.trans ((Bl.refl w).alloc _) gr)
    clear gr
    go_wp2_with fail
    go_ret2
    exact ⟨rfl, G.out⟩

set_option maxHeartbeats 1000000 in
theorem relapsed_any (o p t d : Int) (w : World) :
    Calls Try.prog 19 #[.agg #[.int .i64 o, .int .i64 p], .int .i64 t, .int .i64 d] w fun e w' => e = .returned (.tuple #[.int .i64 (elV o p t d), .int .i64 (elE o p t d)]) ∧ Bl w w' := by
  rcases bcase (ckB o p) with hc | hc
  · have KC := Lib.hid (fun w => cright_v hc w)
    rcases bcase (elB t d) with hs | hs
    · have hs' := hs
      unfold elB at hs'
      rw [Bool.and_eq_true, Bool.and_eq_true, tmB_iff, tmB_iff, tmB_iff] at hs'
      obtain ⟨⟨⟨t1, t2⟩, d1, d2⟩, s1, s2⟩ := hs'
      obtain ⟨s, hse, q0⟩ : ∃ s, t + d = s ∧ IntKind.i64.wrap (t + d) = s := ⟨_, rfl, IntWalk.i64_in _ (by omega)⟩
      obtain ⟨r, hre, q2⟩ : ∃ r, 1099511627776 - t = r ∧ IntKind.i64.wrap (1099511627776 - t) = r := ⟨_, rfl, IntWalk.i64_in _ (by omega)⟩
      have q3 : d ≤ r := by omega
      rw [hse] at s1 s2
      have KL := Lib.hid (fun w => at_any o p t w hc (tmB_iff.2 ⟨t1, t2⟩))
      have KM := Lib.hid (fun w => at_any o p s w hc (tmB_iff.2 ⟨s1, s2⟩))
      rw [show elV o p t d = atV o p s - atV o p t by simp [elV, hc, hs, hse], show elE o p t d = 0 by simp [elE, hc, hs]]
      have b1 := atV_bd hc (tmB_iff.2 ⟨t1, t2⟩)
      have b2 := atV_bd hc (tmB_iff.2 ⟨s1, s2⟩)
      generalize atV o p t = v at *
      generalize atV o p s = u at *
      have q1 : IntKind.i64.wrap (u - v) = u - v := IntWalk.i64_in _ (by omega)
      clear hc hs hse hre b1 b2 s1 s2 d2
      go_enter Try.func19, Try.ntmps19
      go_wp2_with fail
      refine (KC.out _).mono ?_; rintro e w1 ⟨rfl, gr⟩
      have k0 := (gr.cell (p := ⟨w.heap.size, 0, none⟩) (by simp; try omega)).trans (show _ = some (Value.int .i64 o) by simp [go_sem])
      have k1 := (gr.cell (p := ⟨w.heap.size, 1, none⟩) (by simp; try omega)).trans (show _ = some (Value.int .i64 p) by simp [go_sem])
      have G := Lib.hid (Bl.trans ((Bl.refl w).alloc _) gr)
      clear gr
      have ha := cell_lt k0
      generalize w.heap.size = a at *
      have HD := Lib.hid (show ∀ w', Bl w1 w' → (w'.cell? ⟨a, 0, none⟩ = some (.int .i64 o) ∧ w'.cell? ⟨a, 1, none⟩ = some (.int .i64 p) ∧ Hid (Bl w1 w')) from fun w' g => ⟨(g.cell (p := ⟨a, 0, none⟩) ha).trans k0, (g.cell (p := ⟨a, 1, none⟩) ha).trans k1, g⟩)
      clear ha
      go_upto_region 5 with fail
      go_region_held3 (fun w' => w'.cell? ⟨a, 0, none⟩ = some (.int .i64 o) ∧ w'.cell? ⟨a, 1, none⟩ = some (.int .i64 p) ∧ Hid (Bl w1 w'))
        (first | with_reducible assumption | (refine HD.out _ ?_; (repeat (first | exact BA.out | exact Bl.refl _ | with_reducible refine Bl.drew ?_)); done) | fail)
        (first | (go_at_call 27; rename _ ∧ _ ∧ Hid (Bl w1 _) => hq; (with_reducible first | refine (KM.out _).mono ?_ | refine (KL.out _).mono ?_); rintro e w2 ⟨rfl, hgr⟩; have BA := Lib.hid (Bl.trans (Hid.out hq.2.2) hgr)) | fail)
      all_goals go_wp2_with fail
      all_goals go_ret2
      all_goals exact ⟨rfl, G.out.trans (And.right (And.right (by assumption : _ ∧ _ ∧ Hid (Bl w1 _)))).out⟩
    · rw [show elV o p t d = 0 by simp [elV, hc, hs], show elE o p t d = 2 by simp [elE, hc, hs]]
      have hs' : ¬ ((0 ≤ t ∧ t ≤ 1099511627776) ∧ (0 ≤ d ∧ d ≤ 1099511627776 - t)) := by
        intro h
        have : elB t d = true := by unfold elB; rw [tmB_iff.2 h.1, (tmB_iff (t := d)).2 (by omega), (tmB_iff (t := t + d)).2 (by omega)]; rfl
        rw [hs] at this; cases this
      clear hc hs
      by_cases t1 : t < 0
      · clear hs'
        go_enter Try.func19, Try.ntmps19
        go_wp2_with fail
        refine (KC.out _).mono ?_; rintro e w1 ⟨rfl, gr⟩
        have G := Lib.hid (Bl.trans ((Bl.refl w).alloc _) gr)
        clear gr
        go_wp2_with fail
        go_ret2
        exact ⟨rfl, G.out⟩
      by_cases t2 : 1099511627776 < t
      · clear hs'
        go_enter Try.func19, Try.ntmps19
        go_wp2_with fail
        refine (KC.out _).mono ?_; rintro e w1 ⟨rfl, gr⟩
        have G := Lib.hid (Bl.trans ((Bl.refl w).alloc _) gr)
        clear gr
        go_wp2_with fail
        go_ret2
        exact ⟨rfl, G.out⟩
      by_cases d1 : d < 0
      · clear hs'
        go_enter Try.func19, Try.ntmps19
        go_wp2_with fail
        refine (KC.out _).mono ?_; rintro e w1 ⟨rfl, gr⟩
        have G := Lib.hid (Bl.trans ((Bl.refl w).alloc _) gr)
        clear gr
        go_wp2_with fail
        go_ret2
        exact ⟨rfl, G.out⟩
      obtain ⟨r, hre, q2⟩ : ∃ r, 1099511627776 - t = r ∧ IntKind.i64.wrap (1099511627776 - t) = r := ⟨_, rfl, IntWalk.i64_in _ (by omega)⟩
      have d2 : r < d := by omega
      clear hs' hre
      go_enter Try.func19, Try.ntmps19
      go_wp2_with fail
      refine (KC.out _).mono ?_; rintro e w1 ⟨rfl, gr⟩
      have G := Lib.hid (Bl.trans ((Bl.refl w).alloc _) gr)
      clear gr
      go_wp2_with fail
      go_ret2
      exact ⟨rfl, G.out⟩
  · have KC := Lib.hid (fun w => cright_v hc w)
    rw [show elV o p t d = 0 by simp [elV, hc], show elE o p t d = 190 by simp [elE, hc]]
    clear hc
    go_enter Try.func19, Try.ntmps19
    go_wp2_with fail
    refine (KC.out _).mono ?_; rintro e w1 ⟨rfl, gr⟩
    have G := Lib.hid (Bl.trans ((Bl.refl w).alloc _) gr)
    clear gr
    go_wp2_with fail
    go_ret2
    exact ⟨rfl, G.out⟩

end Go.Proofs.Ytaekofoonekkkaa
