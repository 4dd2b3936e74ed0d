/-
  What the reference's Decode returns.
-/
import Derived.Test.YtmhdgpmlconngaaIa
import Derived.Test.YtmhdgpmlconngaaFs
namespace Go.Proofs.Ytmhdgpmlconngaa
open Go.RowKit Go.Proofs.Ytmhdgpmlconngaa.Cr

theorem results_frame2 {fn : Func} {p q : Tmp} (h : fn.results = #[.cell p 23, .tmp q]) (tmps : Array Value) (w : World) (c : Nat) (f : Fr) (e : Value) (hp : tmps.getD p undef = .pointer (some ⟨c, 0, none⟩)) (hq : tmps.getD q undef = e) (F : Fb w c f) : (results fn tmps).run Try.prog w = .ok (.tuple #[f.v, e]) w := by
  have hp' : tmps[p]?.getD undef = .pointer (some ⟨c, 0, none⟩) := by simpa using hp
  have hq' : tmps[q]?.getD undef = e := by simpa using hq
  obtain ⟨q0, q1, q2, q3, q4, q5, q6, q7, q8⟩ := F.cells
  unfold Fr.v
  simp [results, h, hp', hq', asAddr, go_sem, q0, q1, q2, q3, q4, q5, q6, q7, q8]
set_option maxRecDepth 20000 in
set_option maxHeartbeats 4000000 in
theorem rdecode_any (s : ByteArray) (hs : (s.size : Int) ≤ 8000) (w : World) :
    Calls Try.prog 20 #[.string s] w fun e w' => e = deR s ∧ Bl w w' := by
  by_cases h64 : 64 ≤ s.size
  · have KC := Lib.hid (fun w => cand_any s h64 hs w)
    have KE := Lib.hid (fun w => rencode_any (cnd s) w)
    have hsI : (64 : Int) ≤ (s.size : Int) := by omega
    by_cases hok : okB (cnd s) = true ∧ enc (cnd s) = s
    · have hd := Lib.hid (dec_ref h64 hok.1 hok.2)
      rw [← enR_ok hok.1, hok.2] at KE
      have hse : (s.toList != s.toList) = false := bne_self_eq_false _
      clear hok
      generalize cnd s = f at *
      obtain ⟨d, sr, t, p, v, r, q, y, x⟩ := f
      unfold Fr.v at KC KE
      dsimp only at KC KE
      go_enter Try.func20, Try.ntmps20
      have hZ := Fb.new w 23 zoF
      unfold zoF at hZ
      dsimp only at hZ
      go_wp2_with fail
      refine (KC.out _).mono ?_; rintro e wn ⟨rfl, gr⟩
      have Z := Lib.hid (Fb.bl hZ gr)
      have G := Lib.hid (Bl.trans ((Bl.refl w).alloc _) gr)
      clear gr hZ KC
      go_upto_region 4 with fail
      have F := Lib.hid (Fb.new wn 23 { dst := d, src := sr, tag := t, prio := p, vid := v, red := r, seq := q, typ := y, data := x })
      have hne : w.heap.size ≠ wn.heap.size := by have := Z.out.1; omega
      replace Z := Lib.hid (Z.out.alloc (.cells #[.int .i64 d, .int .i64 sr, .bool t, .int .i64 p, .int .i64 v, .bool r, .int .i64 q, .int .i64 y, .string x] 23))
      replace G := Lib.hid (Bl.alloc G.out (.cells #[.int .i64 d, .int .i64 sr, .bool t, .int .i64 p, .int .i64 v, .bool r, .int .i64 q, .int .i64 y, .string x] 23))
      dsimp only at F
      generalize wn.heap.size = c at *
      generalize wn.alloc (.cells #[.int .i64 d, .int .i64 sr, .bool t, .int .i64 p, .int .i64 v, .bool r, .int .i64 q, .int .i64 y, .string x] 23) = wn at *
      obtain ⟨q0, q1, q2, q3, q4, q5, q6, q7, q8⟩ := F.out.cells
      go_wp2_with fail
      refine (KE.out _).mono ?_; rintro e wn ⟨rfl, gr⟩
      replace F := Lib.hid (F.out.bl gr)
      replace Z := Lib.hid (Z.out.bl gr)
      replace G := Lib.hid (Bl.trans G.out gr)
      clear gr q0 q1 q2 q3 q4 q5 q6 q7 q8
      go_upto_region 7 with fail
      obtain ⟨q0, q1, q2, q3, q4, q5, q6, q7, q8⟩ := F.out.cells
      obtain ⟨z0, z1, z2, z3, z4, z5, z6, z7, z8⟩ := Z.out.cells
      obtain ⟨zf0, zf1, zf2, zf3, zf4, zf5, zf6, zf7, zf8⟩ := Z.out.frozen
      have hz := st9_fb Z.out { dst := d, src := sr, tag := t, prio := p, vid := v, red := r, seq := q, typ := y, data := x }
      have hbz := st9_bl G.out (Nat.le_refl _) { dst := d, src := sr, tag := t, prio := p, vid := v, red := r, seq := q, typ := y, data := x }
      unfold st9 at hz hbz
      dsimp only at hz hbz
      go_wp2_with fail
      generalize World.setCell _ _ _ = wz at *
      exact bodyPost_ret (results_frame2 rfl _ _ w.heap.size { dst := d, src := sr, tag := t, prio := p, vid := v, red := r, seq := q, typ := y, data := x } (.int .i64 0) rfl rfl hz) rfl ⟨(deR_ok hd.out).symm, hbz⟩
    · have hd := Lib.hid (dec_cnd hok)
      by_cases hk : okB (cnd s) = true
      · have hne : ¬ enc (cnd s) = s := fun h => hok ⟨hk, h⟩
        rw [← enR_ok hk] at KE
        generalize enc (cnd s) = z at *
        have hbq := beq_bytes z s
        rw [decide_eq_false hne] at hbq
        have hbn : (z.toList != s.toList) = true := by simp [bne, hbq]
        clear hok hk hne
        generalize cnd s = f at *
        obtain ⟨d, sr, t, p, v, r, q, y, x⟩ := f
        unfold Fr.v at KC KE
        dsimp only at KC KE
        go_enter Try.func20, Try.ntmps20
        have hZ := Fb.new w 23 zoF
        unfold zoF at hZ
        dsimp only at hZ
        go_wp2_with fail
        refine (KC.out _).mono ?_; rintro e wn ⟨rfl, gr⟩
        have Z := Lib.hid (Fb.bl hZ gr)
        have G := Lib.hid (Bl.trans ((Bl.refl w).alloc _) gr)
        clear gr hZ KC
        go_upto_region 4 with fail
        have F := Lib.hid (Fb.new wn 23 { dst := d, src := sr, tag := t, prio := p, vid := v, red := r, seq := q, typ := y, data := x })
        have hne : w.heap.size ≠ wn.heap.size := by have := Z.out.1; omega
        replace Z := Lib.hid (Z.out.alloc (.cells #[.int .i64 d, .int .i64 sr, .bool t, .int .i64 p, .int .i64 v, .bool r, .int .i64 q, .int .i64 y, .string x] 23))
        replace G := Lib.hid (Bl.alloc G.out (.cells #[.int .i64 d, .int .i64 sr, .bool t, .int .i64 p, .int .i64 v, .bool r, .int .i64 q, .int .i64 y, .string x] 23))
        dsimp only at F
        generalize wn.heap.size = c at *
        generalize wn.alloc (.cells #[.int .i64 d, .int .i64 sr, .bool t, .int .i64 p, .int .i64 v, .bool r, .int .i64 q, .int .i64 y, .string x] 23) = wn at *
        obtain ⟨q0, q1, q2, q3, q4, q5, q6, q7, q8⟩ := F.out.cells
        go_wp2_with fail
        refine (KE.out _).mono ?_; rintro e wn ⟨rfl, gr⟩
        replace F := Lib.hid (F.out.bl gr)
        replace Z := Lib.hid (Z.out.bl gr)
        replace G := Lib.hid (Bl.trans G.out gr)
        clear gr q0 q1 q2 q3 q4 q5 q6 q7 q8
        go_upto_region 6 with fail
        obtain ⟨z0, z1, z2, z3, z4, z5, z6, z7, z8⟩ := Z.out.cells
        obtain ⟨zf0, zf1, zf2, zf3, zf4, zf5, zf6, zf7, zf8⟩ := Z.out.frozen
        have hz := st9_fb Z.out zoF
        have hbz := st9_bl G.out (Nat.le_refl _) zoF
        unfold st9 zoF at hz hbz
        dsimp only at hz hbz
        go_wp2_with fail
        generalize World.setCell _ _ _ = wz at *
        exact bodyPost_ret (results_frame2 rfl _ _ w.heap.size zoF (.int .i64 5) rfl rfl hz) rfl ⟨(deR_no hd.out).symm, hbz⟩
      · rw [← enR_no (by simpa using hk)] at KE
        clear hok hk
        generalize cnd s = f at *
        obtain ⟨d, sr, t, p, v, r, q, y, x⟩ := f
        unfold Fr.v at KC KE
        dsimp only at KC KE
        go_enter Try.func20, Try.ntmps20
        have hZ := Fb.new w 23 zoF
        unfold zoF at hZ
        dsimp only at hZ
        go_wp2_with fail
        refine (KC.out _).mono ?_; rintro e wn ⟨rfl, gr⟩
        have Z := Lib.hid (Fb.bl hZ gr)
        have G := Lib.hid (Bl.trans ((Bl.refl w).alloc _) gr)
        clear gr hZ KC
        go_upto_region 4 with fail
        have F := Lib.hid (Fb.new wn 23 { dst := d, src := sr, tag := t, prio := p, vid := v, red := r, seq := q, typ := y, data := x })
        have hne : w.heap.size ≠ wn.heap.size := by have := Z.out.1; omega
        replace Z := Lib.hid (Z.out.alloc (.cells #[.int .i64 d, .int .i64 sr, .bool t, .int .i64 p, .int .i64 v, .bool r, .int .i64 q, .int .i64 y, .string x] 23))
        replace G := Lib.hid (Bl.alloc G.out (.cells #[.int .i64 d, .int .i64 sr, .bool t, .int .i64 p, .int .i64 v, .bool r, .int .i64 q, .int .i64 y, .string x] 23))
        dsimp only at F
        generalize wn.heap.size = c at *
        generalize wn.alloc (.cells #[.int .i64 d, .int .i64 sr, .bool t, .int .i64 p, .int .i64 v, .bool r, .int .i64 q, .int .i64 y, .string x] 23) = wn at *
        obtain ⟨q0, q1, q2, q3, q4, q5, q6, q7, q8⟩ := F.out.cells
        go_wp2_with fail
        refine (KE.out _).mono ?_; rintro e wn ⟨rfl, gr⟩
        replace F := Lib.hid (F.out.bl gr)
        replace Z := Lib.hid (Z.out.bl gr)
        replace G := Lib.hid (Bl.trans G.out gr)
        clear gr q0 q1 q2 q3 q4 q5 q6 q7 q8
        go_upto_region 6 with fail
        obtain ⟨z0, z1, z2, z3, z4, z5, z6, z7, z8⟩ := Z.out.cells
        obtain ⟨zf0, zf1, zf2, zf3, zf4, zf5, zf6, zf7, zf8⟩ := Z.out.frozen
        have hz := st9_fb Z.out zoF
        have hbz := st9_bl G.out (Nat.le_refl _) zoF
        unfold st9 zoF at hz hbz
        dsimp only at hz hbz
        go_wp2_with fail
        generalize World.setCell _ _ _ = wz at *
        exact bodyPost_ret (results_frame2 rfl _ _ w.heap.size zoF (.int .i64 5) rfl rfl hz) rfl ⟨(deR_no hd.out).symm, hbz⟩
  · have hd := Lib.hid (dec_small (s := s) (by omega))
    have hsI : (s.size : Int) < 64 := by omega
    go_enter Try.func20, Try.ntmps20
    have hZ := Fb.new w 23 zoF
    unfold zoF at hZ
    dsimp only at hZ
    go_upto_region 2 with fail
    have Z := Lib.hid hZ
    clear hZ
    have G := Lib.hid (Bl.alloc (Bl.refl w) (.cells (fc zoF) 23))
    unfold fc zoF at G
    dsimp only at G
    generalize hwn : w.alloc (.cells _ 23) = wn at *
    clear hwn
    obtain ⟨z0, z1, z2, z3, z4, z5, z6, z7, z8⟩ := Z.out.cells
    obtain ⟨zf0, zf1, zf2, zf3, zf4, zf5, zf6, zf7, zf8⟩ := Z.out.frozen
    have hz := st9_fb Z.out zoF
    have hbz := st9_bl G.out (Nat.le_refl _) zoF
    unfold st9 zoF at hz hbz
    dsimp only at hz hbz
    go_wp2_with fail
    generalize World.setCell _ _ _ = wz at *
    exact bodyPost_ret (results_frame2 rfl _ _ w.heap.size zoF (.int .i64 5) rfl rfl hz) rfl ⟨(deR_no hd.out).symm, hbz⟩

end Go.Proofs.Ytmhdgpmlconngaa
