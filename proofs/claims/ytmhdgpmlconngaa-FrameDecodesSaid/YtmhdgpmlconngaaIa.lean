/-
  The reference's candidate: the only frame that can have an encoding.
-/
import Derived.Test.YtmhdgpmlconngaaFy
import Derived.Test.YtmhdgpmlconngaaFq
import Derived.Deep.RegionWith
import Derived.Deep.RegionHeld3
import Derived.Deep.CutRange
import Derived.Deep.DeepCutAuto
namespace Go.Proofs.Ytmhdgpmlconngaa
open Go.RowKit Go.Proofs.Ytmhdgpmlconngaa.Cr

theorem beq_lit (y : ByteArray) (l : List UInt8) : (y.toList == l) = decide (y = bstr l) := by
  have h := beq_bytes y (bstr l)
  rw [ByteArray.toList_eq (bs := bstr l), bstr_list] at h
  exact h
/-- A zero frame and a frame under way, each in a block of its own. -/
structure Cw (V w : World) (a c : Nat) (f : Fr) : Prop where
  zero : Fb w a zoF
  own : Fb w c f
  bl : Bl V w
theorem Cw.put {V w : World} {a c : Nat} {f g : Fr} (d : Cw V w a c f) (hac : c ≠ a) (hv : V.heap.size ≤ c) {i : Nat} (hi : i < 9) (v : Value) (e : ∀ j, j < 9 → (if j = i then v else frC f j) = frC g j) : Cw V (w.setCell ⟨c, i, none⟩ v) a c g :=
  ⟨d.zero.far (p := ⟨c, i, none⟩) hac v, d.own.put hi v e, d.bl.setCell (p := ⟨c, i, none⟩) hv v⟩
theorem Cw.drew {V w : World} {a c : Nat} {f : Fr} (d : Cw V w a c f) : Cw V w.drew a c f := ⟨d.zero, d.own, d.bl.drew⟩
theorem Cw.step {V w w' : World} {a c : Nat} {f : Fr} (d : Cw V w a c f) (g : Bl w w') : Cw V w' a c f := ⟨d.zero.bl g, d.own.bl g, Bl.trans d.bl g⟩
theorem cand_new (w : World) (t1 t2 : TypeId) (d sr : Int) : Fb ((w.alloc (.cells (fc zoF) t1)).alloc (.cells (fc { dst := d, src := sr, tag := false, prio := 0, vid := 0, red := false, seq := 0, typ := 0, data := noS }) t2)).drew w.heap.size zoF ∧ Fb ((w.alloc (.cells (fc zoF) t1)).alloc (.cells (fc { dst := d, src := sr, tag := false, prio := 0, vid := 0, red := false, seq := 0, typ := 0, data := noS }) t2)).drew (w.heap.size + 1) { dst := d, src := sr, tag := false, prio := 0, vid := 0, red := false, seq := 0, typ := 0, data := noS } ∧ Bl w ((w.alloc (.cells (fc zoF) t1)).alloc (.cells (fc { dst := d, src := sr, tag := false, prio := 0, vid := 0, red := false, seq := 0, typ := 0, data := noS }) t2)).drew := by
  have f1 : Fb (w.alloc (.cells (fc zoF) t1)) w.heap.size zoF := Fb.new w t1 zoF
  have f2 : Fb ((w.alloc (.cells (fc zoF) t1)).alloc (.cells (fc { dst := d, src := sr, tag := false, prio := 0, vid := 0, red := false, seq := 0, typ := 0, data := noS }) t2)) (w.alloc (.cells (fc zoF) t1)).heap.size { dst := d, src := sr, tag := false, prio := 0, vid := 0, red := false, seq := 0, typ := 0, data := noS } := Fb.new _ t2 _
  rw [World.size_alloc] at f2
  exact ⟨f1.alloc _, f2, (((Bl.refl w).alloc _).alloc _).drew⟩
set_option maxRecDepth 20000 in
set_option maxHeartbeats 4000000 in
theorem cand_any (s : ByteArray) (h64 : 64 ≤ s.size) (hs : (s.size : Int) ≤ 8000) (w : World) :
    Calls Try.prog 44 #[.string s] w fun e w' => e = .returned (cnd s).v ∧ Bl w w' := by
  have hsI : (64 : Int) ≤ (s.size : Int) := by omega
  have KD := Lib.hid (fun w => value_any (s.extract 0 6) (by rw [ByteArray.size_extract]; omega) w)
  have KS := Lib.hid (fun w => value_any (s.extract 6 12) (by rw [ByteArray.size_extract]; omega) w)
  have hcn0 : cnd s = cn1 (s.extract 12 (s.size - 4)) (vl 0 (s.extract 0 6).data.toList) (vl 0 (s.extract 6 12).data.toList) := rfl
  have hcn := Lib.hid hcn0
  clear hcn0
  generalize cnd s = R at *
  generalize vl 0 (s.extract 0 6).data.toList = d at *
  generalize vl 0 (s.extract 6 12).data.toList = sr at *
  go_enter Try.func44, Try.ntmps44
  go_upto_region 1 with fail
  have h6 : (6 : Int) ≤ (s.size : Int) := by omega
  have h12 : (12 : Int) ≤ (s.size : Int) := by omega
  go_cut [3] from 5 to 11 (fun s3 wx => s3 = .pointer (some ⟨w.heap.size + 1, 0, none⟩) ∧ Hid (Fb wx w.heap.size zoF ∧ Fb wx (w.heap.size + 1) { dst := d, src := sr, tag := false, prio := 0, vid := 0, red := false, seq := 0, typ := 0, data := noS } ∧ Bl w wx))
  case first =>
    go_region_held3 (fun _ => True) (trivial) (first | (go_at_call 61; (with_reducible refine (KD.out _).mono ?_); rintro e w9 ⟨rfl, rfl⟩) | (go_at_call 61; (with_reducible refine (KS.out _).mono ?_); rintro e w9 ⟨rfl, rfl⟩) | fail)
    all_goals (go_wp2_with fail; go_meet; exact ⟨rfl, Lib.hid (cand_new w _ _ d sr)⟩)
  obtain ⟨rfl, hh⟩ := hcut
  rename World => wn
  have D : Hid (Cw w wn w.heap.size (w.heap.size + 1) { dst := d, src := sr, tag := false, prio := 0, vid := 0, red := false, seq := 0, typ := 0, data := noS }) := Lib.hid ⟨hh.out.1, hh.out.2.1, hh.out.2.2⟩
  clear hh h6 h12 KD KS
  have hac : w.heap.size + 1 ≠ w.heap.size := by omega
  have hle : w.heap.size ≤ w.heap.size + 1 := by omega
  have hla : w.heap.size ≤ w.heap.size := Nat.le_refl _
  generalize w.heap.size + 1 = c at *
  generalize hA : w.heap.size = a at *
  have hlw : w.heap.size ≤ c := by rw [hA]; exact hle
  have hla2 : w.heap.size ≤ a := by rw [hA]; exact hla
  clear hA hla hle
  obtain ⟨M, hM, hM1, hM2⟩ : ∃ M : Nat, (s.size : Int) = (M : Int) + 4 ∧ (60 : Int) ≤ (M : Int) ∧ s.size - 4 = M := ⟨s.size - 4, by omega, by omega, rfl⟩
  rw [hM2] at hcn
  have hw4 : IntKind.i64.wrap ((s.size : Int) - 4) = (M : Int) := by rw [IntWalk.i64_in _ (by omega)]; omega
  have hw5 : (s.size : Int) - 4 = (M : Int) := by omega
  have hw6 : (12 : Int) ≤ (M : Int) := by omega
  have hw7 : (M : Int) ≤ (s.size : Int) := by omega
  have hzs : (s.extract 12 M).size = M - 12 := by rw [ByteArray.size_extract]; omega
  go_upto_region 3 with fail
  generalize s.extract 12 M = z at *
  have hzl : (48 : Int) ≤ (z.size : Int) := by omega
  have hzh : (z.size : Int) ≤ 8000 := by omega
  clear hsI h64 hs hM hM1 hM2 hw4 hw5 hw6 hw7 hzs
  have hz2 : (2 : Int) ≤ (z.size : Int) := by omega
  go_upto_if 19 with fail
  generalize hb : ((z.extract 0 2).toList == [129, 0]) = tb
  have HB := Lib.hid (hb.symm.trans (beq_lit (z.extract 0 2) [129, 0]))
  clear hb
  go_cut [0] from 5 to 32 (fun s0 wx => ∃ (z2 : ByteArray) (t : Bool) (p v : Int), s0 = .string z2 ∧ Hid (R = cn2 z2 t d sr p v) ∧ Hid ((44 : Int) ≤ (z2.size : Int) ∧ (z2.size : Int) ≤ 8000) ∧ Hid (Cw w wx a c { dst := d, src := sr, tag := t, prio := p, vid := v, red := false, seq := 0, typ := 0, data := noS }))
  case first =>
    cases tb
    · have hne : ¬ z.extract 0 2 = ⟨#[129, 0]⟩ := of_decide_eq_false HB.out.symm
      have HR := Lib.hid (hcn.out.trans (if_neg hne))
      clear hne HB hcn
      go_wp2_with fail
      go_meet
      exact ⟨z, false, 0, 0, rfl, HR, Lib.hid ⟨by omega, hzh⟩, D⟩
    · have heq : z.extract 0 2 = ⟨#[129, 0]⟩ := of_decide_eq_true HB.out.symm
      have HR := Lib.hid (hcn.out.trans (if_pos heq))
      clear heq HB hcn
      have h24 : (4 : Int) ≤ (z.size : Int) := by omega
      have hex : (z.extract 2 4).size = 2 := by rw [ByteArray.size_extract]; omega
      have KV := Lib.hid (fun w => value_any (z.extract 2 4) (by omega) w)
      have hvl : 0 ≤ vl 0 (z.extract 2 4).data.toList ∧ vl 0 (z.extract 2 4).data.toList ≤ 281474976710655 := vl_small (by rw [list_size, hex]; decide)
      have hv1 := hvl.1
      have hv2 := hvl.2
      have hsz4 : (z.extract 4 z.size).size = z.size - 4 := by rw [ByteArray.size_extract]; omega
      have HZ : Hid ((44 : Int) ≤ ((z.extract 4 z.size).size : Int) ∧ ((z.extract 4 z.size).size : Int) ≤ 8000) := Lib.hid ⟨by omega, by omega⟩
      clear hvl hex hsz4
      generalize vl 0 (z.extract 2 4).data.toList = u at *
      have hq1 : IntKind.i64.wrap (u / 8192) = u / 8192 := IntWalk.i64_in _ (by omega)
      have hq2 : IntKind.i64.wrap (u % 8192) = u % 8192 := IntWalk.i64_in _ (by omega)
      have hq3 : u.tdiv 8192 = u / 8192 := Int.tdiv_eq_ediv_of_nonneg hv1
      have hq4 : u.tmod 8192 = u % 8192 := Int.tmod_eq_emod_of_nonneg hv1
      go_upto_region 4 with fail
      obtain ⟨-, -, q2, -, -, -, -, -, -⟩ := D.out.drew.own.cells
      obtain ⟨-, -, qf2, -, -, -, -, -, -⟩ := D.out.drew.own.frozen
      have E2 := D.out.put (i := 2) (g := { dst := d, src := sr, tag := true, prio := 0, vid := 0, red := false, seq := 0, typ := 0, data := noS }) hac hlw (by decide) (.bool true) (nine_cases rfl rfl rfl rfl rfl rfl rfl rfl rfl)
      have E3 := E2.put (i := 3) (g := { dst := d, src := sr, tag := true, prio := u / 8192, vid := 0, red := false, seq := 0, typ := 0, data := noS }) hac hlw (by decide) (.int .i64 (u / 8192)) (nine_cases rfl rfl rfl rfl rfl rfl rfl rfl rfl)
      have D2 := Lib.hid E2.drew
      have D3 := Lib.hid E3.drew
      have D4 := Lib.hid (E3.put (i := 4) (g := { dst := d, src := sr, tag := true, prio := u / 8192, vid := u % 8192, red := false, seq := 0, typ := 0, data := noS }) hac hlw (by decide) (.int .i64 (u % 8192)) (nine_cases rfl rfl rfl rfl rfl rfl rfl rfl rfl)).drew
      clear E2 E3
      obtain ⟨-, -, -, e3, -, -, -, -, -⟩ := D2.out.own.cells
      obtain ⟨-, -, -, e3f, -, -, -, -, -⟩ := D2.out.own.frozen
      obtain ⟨-, -, -, -, e4, -, -, -, -⟩ := D3.out.own.cells
      obtain ⟨-, -, -, -, e4f, -, -, -, -⟩ := D3.out.own.frozen
      go_region_with (first | (go_at_call 61; (with_reducible refine (KV.out _).mono ?_); rintro e w9 ⟨rfl, rfl⟩) | fail)
      all_goals (clear q2 qf2 e3 e3f e4 e4f; go_wp2_with fail; go_meet; exact ⟨z.extract 4 z.size, true, u / 8192, u % 8192, rfl, HR, HZ, D4⟩)
  obtain ⟨z2, t, p, v, rfl, HR, HZ, D⟩ := hcut
  clear HB hcn hzl hzh hz2
  rename World => wn
  have hzl := HZ.out.1
  have hzh := HZ.out.2
  clear HZ
  have hz4 : (4 : Int) ≤ (z2.size : Int) := by omega
  go_upto_if 35 with fail
  generalize hb : ((z2.extract 0 4).toList == [241, 193, 0, 0]) = rb
  have HB := Lib.hid (hb.symm.trans (beq_lit (z2.extract 0 4) [241, 193, 0, 0]))
  clear hb
  go_cut [0] from 5 to 42 (fun s0 wx => ∃ (z3 : ByteArray) (r : Bool) (q : Int), s0 = .string z3 ∧ Hid (R = cn3 z3 t r d sr p v q) ∧ Hid ((38 : Int) ≤ (z3.size : Int) ∧ (z3.size : Int) ≤ 8000) ∧ Hid (Cw w wx a c { dst := d, src := sr, tag := t, prio := p, vid := v, red := r, seq := q, typ := 0, data := noS }))
  case first =>
    cases rb
    · have hne : ¬ z2.extract 0 4 = ⟨#[241, 193, 0, 0]⟩ := of_decide_eq_false HB.out.symm
      have HR2 := Lib.hid (HR.out.trans (if_neg hne))
      clear hne HB HR
      go_wp2_with fail
      go_meet
      exact ⟨z2, false, 0, rfl, HR2, Lib.hid ⟨by omega, hzh⟩, D⟩
    · have heq : z2.extract 0 4 = ⟨#[241, 193, 0, 0]⟩ := of_decide_eq_true HB.out.symm
      have HR2 := Lib.hid (HR.out.trans (if_pos heq))
      clear heq HB HR
      have h26 : (6 : Int) ≤ (z2.size : Int) := by omega
      have hex : (z2.extract 4 6).size = 2 := by rw [ByteArray.size_extract]; omega
      have KV := Lib.hid (fun w => value_any (z2.extract 4 6) (by omega) w)
      have hsz4 : (z2.extract 6 z2.size).size = z2.size - 6 := by rw [ByteArray.size_extract]; omega
      have HZ : Hid ((38 : Int) ≤ ((z2.extract 6 z2.size).size : Int) ∧ ((z2.extract 6 z2.size).size : Int) ≤ 8000) := Lib.hid ⟨by omega, by omega⟩
      clear hex hsz4
      generalize vl 0 (z2.extract 4 6).data.toList = u at *
      have E2 := D.out.put (i := 5) (g := { dst := d, src := sr, tag := t, prio := p, vid := v, red := true, seq := 0, typ := 0, data := noS }) hac hlw (by decide) (.bool true) (nine_cases rfl rfl rfl rfl rfl rfl rfl rfl rfl)
      have D3 := Lib.hid (E2.put (i := 6) (g := { dst := d, src := sr, tag := t, prio := p, vid := v, red := true, seq := u, typ := 0, data := noS }) hac hlw (by decide) (.int .i64 u) (nine_cases rfl rfl rfl rfl rfl rfl rfl rfl rfl))
      have D2 := Lib.hid E2
      clear E2
      obtain ⟨-, -, -, -, -, q5, -, -, -⟩ := D.out.own.cells
      obtain ⟨-, -, -, -, -, q5f, -, -, -⟩ := D.out.own.frozen
      obtain ⟨-, -, -, -, -, -, e6, -, -⟩ := D2.out.own.cells
      obtain ⟨-, -, -, -, -, -, e6f, -, -⟩ := D2.out.own.frozen
      go_wp2_with fail
      refine (KV.out _).mono ?_; rintro e w9 ⟨rfl, rfl⟩
      clear KV
      go_wp2_with fail
      go_meet
      exact ⟨z2.extract 6 z2.size, true, u, rfl, HR2, HZ, D3⟩
  obtain ⟨z3, r, q, rfl, HR3, HZ, D⟩ := hcut
  rename World => wn
  clear HB HR hzl hzh hz4
  have hzl := HZ.out.1
  have hzh := HZ.out.2
  have hz2 : (2 : Int) ≤ (z3.size : Int) := by omega
  have KV := Lib.hid (fun w => value_any (z3.extract 0 2) (by rw [ByteArray.size_extract]; omega) w)
  have hvl : 0 ≤ vl 0 (z3.extract 0 2).data.toList ∧ vl 0 (z3.extract 0 2).data.toList ≤ 281474976710655 := vl_small (by rw [list_size, ByteArray.size_extract]; omega)
  have hv1 := hvl.1
  have hv2 := hvl.2
  clear hvl HZ
  have hR3 : R = _ := HR3.out
  unfold cn3 at hR3
  have HR := Lib.hid hR3
  clear hR3 HR3
  have hzq : (z3.extract 2 z3.size).size = z3.size - 2 := by rw [ByteArray.size_extract]; omega
  have HZQ := Lib.hid hzq
  clear hzq
  generalize vl 0 (z3.extract 0 2).data.toList = n at *
  go_wp2_with fail
  refine (KV.out _).mono ?_; rintro e w9 ⟨rfl, rfl⟩
  clear KV
  obtain ⟨-, -, -, -, -, -, -, -, q8⟩ := D.out.own.cells
  obtain ⟨-, -, -, -, -, -, -, -, q8f⟩ := D.out.own.frozen
  go_upto_if 50 with fail
  generalize z3.extract 2 z3.size = z4 at *
  replace D := Lib.hid (D.out.put (i := 8) (g := { dst := d, src := sr, tag := t, prio := p, vid := v, red := r, seq := q, typ := 0, data := z4 }) hac hlw (by decide) (.string z4) (nine_cases rfl rfl rfl rfl rfl rfl rfl rfl rfl))
  clear q8 q8f
  generalize wn.setCell ⟨c, 8, none⟩ (.string z4) = wn at *
  by_cases hn : 1536 ≤ n
  · rw [if_pos hn] at HR
    have hnb : decide (1536 ≤ n) = true := decide_eq_true hn
    obtain ⟨-, -, -, -, -, -, -, q7, -⟩ := D.out.own.cells
    obtain ⟨-, -, -, -, -, -, -, q7f, -⟩ := D.out.own.frozen
    go_upto_region 14 with fail
    replace D := Lib.hid (D.out.put (i := 7) (g := { dst := d, src := sr, tag := t, prio := p, vid := v, red := r, seq := q, typ := n, data := z4 }) hac hlw (by decide) (.int .i64 n) (nine_cases rfl rfl rfl rfl rfl rfl rfl rfl rfl))
    clear q7 q7f
    generalize wn.setCell ⟨c, 7, none⟩ (.int .i64 n) = wn at *
    go_upto_region 14 with fail
    refine frame_copy (f := { dst := d, src := sr, tag := t, prio := p, vid := v, red := r, seq := q, typ := n, data := z4 }) (g := zoF) rfl rfl rfl D.out.own D.out.zero ?_
    have hz := st9_fb D.out.zero { dst := d, src := sr, tag := t, prio := p, vid := v, red := r, seq := q, typ := n, data := z4 }
    have hbz := st9_bl D.out.bl hla2 { dst := d, src := sr, tag := t, prio := p, vid := v, red := r, seq := q, typ := n, data := z4 }
    generalize st9 wn a _ = wz at *
    clear D
    simp only [Act.put, List.setIfInBounds_toArray, List.set_cons_zero, List.set_cons_succ]
    go_wp2_with fail
    exact bodyPost_ret (results_frame rfl _ _ a { dst := d, src := sr, tag := t, prio := p, vid := v, red := r, seq := q, typ := n, data := z4 } rfl hz) rfl ⟨by rw [HR.out], hbz⟩
  · rw [if_neg hn] at HR
    have hnb : decide (1536 ≤ n) = false := decide_eq_false hn
    obtain ⟨m, hm1, hm2, hm3⟩ : ∃ m : Nat, min n (z4.size : Int) = (m : Int) ∧ min n.toNat z4.size = m ∧ (m : Int) ≤ (z4.size : Int) := ⟨min n.toNat z4.size, by omega, rfl, by omega⟩
    have hm4 : (if (z4.size : Int) < n then (z4.size : Int) else n) = (m : Int) := by split <;> omega
    rw [hm2] at HR
    obtain ⟨-, -, -, -, -, -, -, -, q8⟩ := D.out.own.cells
    obtain ⟨-, -, -, -, -, -, -, -, q8f⟩ := D.out.own.frozen
    go_upto_region 14 with fail
    replace D := Lib.hid (D.out.put (i := 8) (g := { dst := d, src := sr, tag := t, prio := p, vid := v, red := r, seq := q, typ := 0, data := z4.extract 0 m }) hac hlw (by decide) (.string (z4.extract 0 m)) (nine_cases rfl rfl rfl rfl rfl rfl rfl rfl rfl))
    clear q8 q8f
    generalize wn.setCell ⟨c, 8, none⟩ (.string (z4.extract 0 m)) = wn at *
    go_upto_region 14 with fail
    refine frame_copy (f := { dst := d, src := sr, tag := t, prio := p, vid := v, red := r, seq := q, typ := 0, data := z4.extract 0 m }) (g := zoF) rfl rfl rfl D.out.own D.out.zero ?_
    have hz := st9_fb D.out.zero { dst := d, src := sr, tag := t, prio := p, vid := v, red := r, seq := q, typ := 0, data := z4.extract 0 m }
    have hbz := st9_bl D.out.bl hla2 { dst := d, src := sr, tag := t, prio := p, vid := v, red := r, seq := q, typ := 0, data := z4.extract 0 m }
    generalize st9 wn a _ = wz at *
    clear D
    simp only [Act.put, List.setIfInBounds_toArray, List.set_cons_zero, List.set_cons_succ]
    go_wp2_with fail
    exact bodyPost_ret (results_frame rfl _ _ a { dst := d, src := sr, tag := t, prio := p, vid := v, red := r, seq := q, typ := 0, data := z4.extract 0 m } rfl hz) rfl ⟨by rw [HR.out], hbz⟩
end Go.Proofs.Ytmhdgpmlconngaa
