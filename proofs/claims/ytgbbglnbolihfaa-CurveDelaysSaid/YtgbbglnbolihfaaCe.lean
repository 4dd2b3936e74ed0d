/-
  What distances of package curve yields, for every loop body that turns one block alone.
-/
import Derived.Test.YtgbbglnbolihfaaCd
namespace Go.Proofs.Ytgbbglnbolihfaa
open Go.RowKit Go.Shelf

attribute [local go_sem] Oper.semAt_some

set_option maxRecDepth 100000 in
set_option maxHeartbeats 4000000 in
theorem dist1_in (n : Nat) (hn : 1 ≤ n) (l Bs Br c : Nat) (A : Option Addr) (cap : Nat) (xs : List (Int × Int)) (r : Int) (hr : 1 ≤ r ∧ r ≤ 2097152) (hlen : xs.length ≤ 12)
    (hx : ∀ k, k < xs.length → (1 ≤ fs xs k ∧ fs xs k ≤ 1048576) ∧ (1 ≤ sn xs k ∧ sn xs k ≤ 2097152)) (J Jx : List Int → World → Prop)
    (hY : ∀ pre x W, J pre W → pre.length < xs.length * (xs.length + 1) → YieldAt Fence.wide (n - 1) Try.prog l #[.int .i64 x] W fun e W' =>
      (e = .returned (.bool true) ∧ J (pre ++ [x]) W' ∧ KpC c W W') ∨ (e = .returned (.bool false) ∧ Jx (pre ++ [x]) W'))
    (W : World) (hJal : ∀ pre (W1 W2 : World), J pre W1 → Bl W1 W2 → J pre W2) (hcW : c < W.heap.size)
    (hBs : W.cell? ⟨Bs, 0, none⟩ = some (.slice A xs.length cap)) (hBr : W.cell? ⟨Br, 0, none⟩ = some (.int .i64 r)) (hBsc : Bs ≠ c) (hBrc : Br ≠ c)
    (hc : ∀ k, k < xs.length → ∃ b off, A = some ⟨b, off, none⟩ ∧ b ≠ c ∧ W.cell? ⟨b, off + k * 2, none⟩ = some (.int .i64 (fs xs k)) ∧ W.cell? ⟨b, off + k * 2 + 1, none⟩ = some (.int .i64 (sn xs k))) (h0 : J [] W) :
    CallsIn Fence.wide n Try.prog 87 #[.func (.yield l) #[] #[], .pointer (some ⟨Bs, 0, none⟩), .pointer (some ⟨Br, 0, none⟩)] W fun e W' => (∃ v, e = .returned v) ∧
      ((∃ ys, ys = dis xs r ∧ J ys W') ∨ (∃ pre : List Int, True ∧ Jx pre W')) := by
  obtain ⟨hr1, hr2⟩ := hr
  have HX := Lib.hid hx; clear hx
  have HC := Lib.hid hc; clear hc
  have HJ := Lib.hid hJal; clear hJal
  have HY := Lib.hid hY; clear hY
  have HW := Lib.hid (show ∀ wr, KpC c W wr → wr.cell? ⟨Bs, 0, none⟩ = some (.slice A xs.length cap) ∧ wr.cell? ⟨Br, 0, none⟩ = some (.int .i64 r) from fun wr g => ⟨g.cell hBsc hBs, g.cell hBrc hBr⟩)
  refine callsIn_of_wp Try.func87 rfl trivial ?_ rfl
  simp only [Try.ntmps87, List.size_toArray, List.length_cons, List.length_nil, Nat.reduceAdd, Nat.reduceSub, Array.replicate_succ, Array.replicate_zero, List.push_toArray, List.append_toArray, List.nil_append, List.cons_append]
  gi_wp2
  gi_loopw [10] (fun i wr => ∃ k : Nat, k ≤ xs.length ∧ i = .int .i64 k ∧ Hid (J (dsp xs r k) wr) ∧ Hid (KpC c W wr))
    (fun i _ => xs.length - (intOf i).toNat)
  case atStart => exact ⟨0, Nat.zero_le _, rfl, h0, KpC.refl _ _⟩
  case round =>
    obtain ⟨k, hk, rfl, hJs, hKp⟩ := hrel
    by_cases hlt : k < xs.length
    · obtain ⟨b, off, ea, hbc, c1, c2⟩ := HC.out k hlt
      have c1' := hKp.out.cell hbc c1
      have c2' := hKp.out.cell hbc c2
      have r1 := (HW.out wr hKp.out).1
      have r2 := (HW.out wr hKp.out).2
      have rb1 := cell_lt r1
      have rb2 := cell_lt r2
      obtain ⟨⟨ok1, ok2⟩, ok3, ok4⟩ := HX.out k hlt
      subst ea
      obtain ⟨u, hu⟩ : ∃ u, fs xs k = u := ⟨_, rfl⟩
      obtain ⟨R, hR⟩ : ∃ R, sn xs k = R := ⟨_, rfl⟩
      rw [hu] at c1' ok1 ok2
      rw [hR] at c2' ok3 ok4
      clear c1 c2 hBs hBr
      by_cases hc : r < R
      · have E := Lib.hid (show dsp xs r (k + 1) = dsp xs r k by show dsp xs r k ++ dsb xs r k = _; unfold dsb; rw [hR, if_neg (by omega), List.append_nil])
        gi_wp2
        go_roundw
        case rel => exact ⟨k + 1, by omega, by simp, by rw [E.out]; exact HJ.out _ _ _ hJs.out ((Bl.refl _).alloc _), hKp.out.trans (KpC.of_bl ((Bl.refl _).alloc _))⟩
        case measure => simp [intOf]; omega
      · have E := Lib.hid (show dsp xs r (k + 1) = dsp xs r k ++ cl (u * 1048576) r :: crs xs r k xs.length by show dsp xs r k ++ dsb xs r k = _; unfold dsb; rw [hR, hu, if_pos (by omega)])
        obtain ⟨q, hq⟩ : ∃ q, cl (u * 1048576) r = q := ⟨_, rfl⟩
        have hq1 : q ≤ 1099511627776 := by rw [← hq]; exact Int.le_trans (cl_self_le (by omega) (by omega)) (by omega)
        have KC := Lib.hid (fun w => ceil_v hq (by omega) (by omega) (by omega) (by omega) w)
        rw [hq] at E
        clear hq hq1
        gi_wp2_with fail
        refine ⟨trivial, (callsIn_wide.2 (KC.out _)).mono ?_⟩; rintro e w1 ⟨rfl, gr⟩
        have G := Lib.hid (Bl.trans ((Bl.refl wr).alloc _) gr)
        have GK := Lib.hid (hKp.out.trans (KpC.of_bl G.out))
        have m0 := (gr.cell (p := ⟨wr.heap.size, 0, none⟩) (by simp)).trans (show _ = some (Value.int .i64 u) by simp [go_sem])
        have m1 := (gr.cell (p := ⟨wr.heap.size, 1, none⟩) (by simp)).trans (show _ = some (Value.int .i64 R) by simp [go_sem])
        have hnb : wr.heap.size ≠ c := by have := hKp.out.size; omega
        obtain ⟨fn, tmps, assign, body, hy, hRd⟩ := HY.out _ q w1 (HJ.out _ _ _ hJs.out G.out) (dsp_room (m := 0) hlt (Nat.zero_le _))
        clear gr c1' c2' r1 r2 rb1 rb2
        generalize wr.heap.size = nb at *
        gi_wp2_with fail
        refine hRd.mono ?_
        rintro e W3 (⟨rfl, hJ3, hk3⟩ | ⟨rfl, hJx3⟩)
        · have n0 := hk3.cell hnb m0
          have n1 := hk3.cell hnb m1
          have G3 := Lib.hid (GK.out.trans hk3)
          have r1 := (HW.out W3 G3.out).1
          have r2 := (HW.out W3 G3.out).2
          have HN := Lib.hid (show ∀ wi, KpC c W3 wi → wi.cell? ⟨nb, 0, none⟩ = some (.int .i64 u) ∧ wi.cell? ⟨nb, 1, none⟩ = some (.int .i64 R) from fun wi g => ⟨g.cell hnb n0, g.cell hnb n1⟩)
          clear m0 m1 hy hRd hk3 G GK hKp hJs
          gi_wp2_with fail
          gi_loopw [27] (fun i wi => ∃ j : Nat, j ≤ xs.length ∧ i = .int .i64 j ∧ Hid (J (dsp xs r k ++ q :: crs xs r k j) wi) ∧ Hid (KpC c W3 wi))
            (fun i _ => xs.length - (intOf i).toNat)
          case atStart => exact ⟨0, Nat.zero_le _, rfl, hJ3, KpC.refl _ _⟩
          case round =>
            obtain ⟨j, hj, rfl, hJi, hKi⟩ := hrel
            have G4 := Lib.hid (G3.out.trans hKi.out)
            by_cases hltj : j < xs.length
            · obtain ⟨b2, off2, ea2, hbc2, d1, d2⟩ := HC.out j hltj
              obtain ⟨rfl, rfl⟩ : b = b2 ∧ off = off2 := by cases ea2; exact ⟨rfl, rfl⟩
              clear ea2
              have d1' := G4.out.cell hbc2 d1
              have d2' := G4.out.cell hbc2 d2
              obtain ⟨⟨oj1, oj2⟩, oj3, oj4⟩ := HX.out j hltj
              obtain ⟨u', hu'⟩ : ∃ u', fs xs j = u' := ⟨_, rfl⟩
              obtain ⟨R', hR'⟩ : ∃ R', sn xs j = R' := ⟨_, rfl⟩
              rw [hu'] at d1' oj1 oj2
              rw [hR'] at d2' oj3 oj4
              have i1 := (HW.out wr G4.out).1
              have i2 := (HW.out wr G4.out).2
              have i3 := (HN.out wr hKi.out).1
              have i4 := (HN.out wr hKi.out).2
              have q1 := cell_lt i1
              have q2 := cell_lt i2
              have q3 := cell_lt i3
              clear d1 d2 n0 n1 r1 r2
              by_cases t1 : r < R'
              · by_cases t2 : u' < u
                · have E2 := Lib.hid (show crs xs r k (j + 1) = crs xs r k j ++ [cr u' R' u R r] by show crs xs r k j ++ _ = _; rw [hR', hu', hu, hR, if_pos ⟨t1, t2⟩])
                  have KX := Lib.hid (fun w => crossing_any u' R' u R r ⟨oj1, oj2⟩ ⟨ok1, ok2⟩ oj4 ok3 hr1 (by omega) t1 w)
                  obtain ⟨x, hx⟩ : ∃ x, cr u' R' u R r = x := ⟨_, rfl⟩
                  rw [hx] at KX E2
                  clear hx
                  gi_wp2_with fail
                  refine ⟨trivial, (callsIn_wide.2 (KX.out _)).mono ?_⟩; rintro e w4 ⟨rfl, gr⟩
                  have G5 := Lib.hid (Bl.trans ((Bl.refl wr).alloc _) gr)
                  have hroom : (dsp xs r k ++ q :: crs xs r k j).length < xs.length * (xs.length + 1) := by
                    have h1 := dsp_room (r := r) (m := j + 1) hlt (by omega)
                    have h2 := crs_length xs r k j
                    rw [List.length_append, List.length_cons]; omega
                  obtain ⟨fn2, tmps2, assign2, body2, hy2, hRd2⟩ := HY.out _ x w4 (HJ.out _ _ _ hJi.out G5.out) hroom
                  clear gr hroom d1' d2' i1 i2 i3 i4 q1 q2 q3
                  gi_wp2_with fail
                  refine hRd2.mono ?_
                  rintro e W5 (⟨rfl, hJ5, hk5⟩ | ⟨rfl, hJx5⟩)
                  · have HJ5 := Lib.hid hJ5
                    have HK5 := Lib.hid (hKi.out.trans ((KpC.of_bl G5.out).trans hk5))
                    clear hJ5 hk5 hy2 hRd2
                    gi_wp2_with fail
                    go_roundw
                    case rel => exact ⟨j + 1, by omega, by go_num, Lib.hid (by rw [E2.out]; have := HJ5.out; rw [List.append_assoc, List.cons_append] at this; exact this), HK5⟩
                    case measure => simp [intOf]; omega
                  · gi_wp2
                    refine bodyPost_ret (results_none rfl _ _ _) rfl ?_
                    exact ⟨⟨_, rfl⟩, .inr ⟨_, trivial, hJx5⟩⟩
                · have E2 := Lib.hid (show crs xs r k (j + 1) = crs xs r k j by show crs xs r k j ++ _ = _; rw [hR', hu', hu, if_neg (by omega), List.append_nil])
                  gi_wp2_with fail
                  refine ⟨trivial, ?_⟩
                  gi_wp2_with fail
                  refine ⟨fun _ _ => trivial, ?_⟩
                  gi_wp2_with fail
                  go_roundw
                  case rel => exact ⟨j + 1, by omega, by go_num, Lib.hid (by rw [E2.out]; exact HJ.out _ _ _ hJi.out ((Bl.refl _).alloc _)), Lib.hid (hKi.out.trans (KpC.of_bl ((Bl.refl _).alloc _)))⟩
                  case measure => simp [intOf]; omega
              · have E2 := Lib.hid (show crs xs r k (j + 1) = crs xs r k j by show crs xs r k j ++ _ = _; rw [hR', if_neg (by omega), List.append_nil])
                gi_wp2_with fail
                refine ⟨trivial, ?_⟩
                gi_wp2_with fail
                refine ⟨fun _ _ => trivial, ?_⟩
                gi_wp2_with fail
                go_roundw
                case rel => exact ⟨j + 1, by omega, by go_num, Lib.hid (by rw [E2.out]; exact HJ.out _ _ _ hJi.out ((Bl.refl _).alloc _)), Lib.hid (hKi.out.trans (KpC.of_bl ((Bl.refl _).alloc _)))⟩
                case measure => simp [intOf]; omega
            · obtain rfl : j = xs.length := by omega
              gi_wp2_with fail
              go_roundw
              case rel => exact ⟨k + 1, by omega, by go_num, Lib.hid (by rw [E.out]; exact hJi.out), G4⟩
              case measure => simp [intOf]; omega
        · gi_wp2
          refine bodyPost_ret (results_none rfl _ _ _) rfl ?_
          exact ⟨⟨_, rfl⟩, .inr ⟨_, trivial, hJx3⟩⟩
    · obtain rfl : k = xs.length := by omega
      gi_wp2
      go_end0
      exact ⟨⟨_, rfl⟩, .inl ⟨_, rfl, hJs.out⟩⟩

end Go.Proofs.Ytgbbglnbolihfaa
