/-
  FrameBack: Decode inverts Encode, except for the padding of short frames with a Type.
-/
import Derived.Test.YtmhdgpmlconngaaGb
import Derived.Deep.RegionWith
namespace Go.Proofs.Ytmhdgpmlconngaa
open Go.RowKit Go.Proofs.Ytmhdgpmlconngaa.Cr

theorem pad_typ {f : Fr} (h : ¬ f.typ = 0) : pad f = { f with data := f.data ++ cop 0 (60 - (hdr f + f.data.size)) } := by unfold pad; rw [if_neg h]
theorem pad_none {f : Fr} (h : f.typ = 0) : pad f = f := by unfold pad; rw [if_pos h]
theorem back_two {f : Fr} (hf : Ok f) : Ok (pad f) ∧ dec (enc (pad f)) = some (pad f) := ⟨(pad_dec hf).1, by rw [(pad_dec hf).2.2]; exact back_pad hf⟩

set_option maxRecDepth 20000 in
set_option maxHeartbeats 4000000 in
theorem back_law (a b l g k q : Nat) (x : ByteArray) (ha : a < 65536) (hb : b < 65536) (hl : l < 65536) (hg : g < 256) (hk : k < 256) (hq : q < 65536) (hx : x.size ≤ maxLen) (w : World) :
    Calls Try.prog 5 #[dfV a b l g k q x] w fun e w' => e = .returned (.bool true) ∧ Bl w w' := by
  have KW := Lib.hid (fun w => works_any w)
  have KF := Lib.hid (fun w => draft_any a b l g k q x ha hb hl hg hk hq hx w)
  have HB := Lib.hid (fun (w w' : World) (g2 : Bl (w.alloc (.cells #[.int .u16 (a : Int), .int .u16 (b : Int), .int .u16 (l : Int), .int .u8 (g : Int), .int .u8 (k : Int), .int .u16 (q : Int), .string x] 26)) w') => box_keep w w' a b l g k q x 26 g2)
  clear hx
  unfold dfV at *
  go_enter Try.func5, Try.ntmps5
  go_wp2_with fail
  refine (KW.out _).mono ?_; rintro e wn ⟨rfl, hgr⟩
  obtain ⟨hG, x0, x1, x2, x3, x4, x5, x6⟩ := HB.out _ _ hgr
  have G := Lib.hid hG
  clear hgr hG HB KW
  go_wp2_with fail
  refine (KF.out _).mono ?_; rintro e wn ⟨⟨f, hf, rfl⟩, hgr⟩
  replace G := Lib.hid (Bl.trans G.out hgr)
  have hsz := G.out.size
  clear hgr x0 x1 x2 x3 x4 x5 x6 KF ha hb hl hg hk hq
  have hbo := hf.bod_le
  have hb2 := bod_size f
  have hes := enc_size f
  have hok := ok_iff.2 hf
  have hzd := hf.size
  obtain ⟨N, hN, hN1, hN2, hN3⟩ : ∃ N : Nat, (enc f).size = N ∧ (64 : Int) ≤ (N : Int) ∧ (N : Int) ≤ 1522 ∧ ((bod f).size : Int) + 24 = (N : Int) + 20 := ⟨(enc f).size, rfl, by omega, by omega, by omega⟩
  have KE := Lib.hid (fun w => (enR_s hok) ▸ encode_any f w)
  have KI := Lib.hid (fun w => (wiR_s hok hN3.symm) ▸ wire_any f w)
  have KC := Lib.hid (fun w => check_v (chE_t hok) w)
  have KG := Lib.hid (fun w => (chk_seal' (bod f) 0) ▸ good_any (enc f) (by omega) w)
  obtain ⟨m, hm⟩ : ∃ m, Hid (m = 60 - (hdr f + f.data.size)) := ⟨_, Lib.hid rfl⟩
  have KR := Lib.hid (fun w => repeat_any 0 m (by have := hm.out; omega) w)
  have hadd : ∀ W : World, (Op.stringOp .add f.data (cop 0 m)).run Try.prog W = .ok (.string (f.data ++ cop 0 m)) W := fun W => run_string_add W _ _ (by omega) (by rw [cop_size]; have := hm.out; omega)
  have KB0 := Lib.hid (fun (h : f.typ = 0) w => back_t f f hf (by rw [back_pad hf, pad_none h]) w)
  have KB1 := Lib.hid (fun (h : ¬ f.typ = 0) w => back_t f { f with data := f.data ++ cop 0 m } hf (by rw [back_pad hf, pad_typ h, hm.out]) w)
  have KD1 := Lib.hid (fun (h : ¬ f.typ = 0) w => (by rw [hm.out, ← pad_typ h]; exact back_t (pad f) (pad f) (back_two hf).1 (back_two hf).2 w : Calls Try.prog 23 #[{ f with data := f.data ++ cop 0 m }.v, { f with data := f.data ++ cop 0 m }.v] w fun e w' => e = .returned (.bool true) ∧ Bl w w'))
  have hw20 : IntKind.i64.wrap ((N : Int) + 20) = (N : Int) + 20 := IntWalk.i64_in _ (by omega)
  have hzI : (f.data.size : Int) ≤ 1500 := by omega
  clear hbo hb2 hes hok hN3 hf hzd
  generalize enc f = ze at *
  obtain ⟨d, s, t, p, v, r, n, y, z⟩ := f
  unfold Fr.v at *
  dsimp only at *
  go_upto_region 4 with fail
  have F := Lib.hid (Fb.new wn 23 { dst := d, src := s, tag := t, prio := p, vid := v, red := r, seq := n, typ := y, data := z })
  replace G := Lib.hid (Bl.alloc G.out (.cells #[.int .i64 d, .int .i64 s, .bool t, .int .i64 p, .int .i64 v, .bool r, .int .i64 n, .int .i64 y, .string z] 23))
  dsimp only at F
  have hbw : w.heap.size ≤ wn.heap.size := hsz
  generalize wn.heap.size = c3 at *
  generalize wn.alloc (.cells #[.int .i64 d, .int .i64 s, .bool t, .int .i64 p, .int .i64 v, .bool r, .int .i64 n, .int .i64 y, .string z] 23) = wn at *
  obtain ⟨q0, q1, q2, q3, q4, q5, q6, q7, q8⟩ := F.out.cells
  go_wp2_with fail
  refine (KE.out _).mono ?_; rintro e wn ⟨rfl, hgr⟩
  replace F := Lib.hid (F.out.bl hgr)
  replace G := Lib.hid (Bl.trans G.out hgr)
  clear hgr
  clear q0 q1 q2 q3 q4 q5 q6 q7 q8
  obtain ⟨q0, q1, q2, q3, q4, q5, q6, q7, q8⟩ := F.out.cells
  go_wp2_with fail
  refine (KI.out _).mono ?_; rintro e wn ⟨rfl, hgr⟩
  replace F := Lib.hid (F.out.bl hgr)
  replace G := Lib.hid (Bl.trans G.out hgr)
  clear hgr
  clear q0 q1 q2 q3 q4 q5 q6 q7 q8
  obtain ⟨q0, q1, q2, q3, q4, q5, q6, q7, q8⟩ := F.out.cells
  go_upto_region 7 with fail
  clear q0 q1 q2 q3 q4 q5 q6 q7 q8
  have hFW := Fb.new wn 23 { dst := d, src := s, tag := t, prio := p, vid := v, red := r, seq := n, typ := y, data := z }
  have hne : c3 ≠ wn.heap.size := by have := F.out.1; omega
  have hle : w.heap.size ≤ wn.heap.size := by have := F.out.1; omega
  replace F := Lib.hid (F.out.alloc (.cells #[.int .i64 d, .int .i64 s, .bool t, .int .i64 p, .int .i64 v, .bool r, .int .i64 n, .int .i64 y, .string z] 23))
  replace G := Lib.hid (Bl.alloc G.out (.cells #[.int .i64 d, .int .i64 s, .bool t, .int .i64 p, .int .i64 v, .bool r, .int .i64 n, .int .i64 y, .string z] 23))
  have FW := Lib.hid hFW
  clear hFW
  dsimp only at FW
  generalize wn.heap.size = c8 at *
  generalize wn.alloc (.cells #[.int .i64 d, .int .i64 s, .bool t, .int .i64 p, .int .i64 v, .bool r, .int .i64 n, .int .i64 y, .string z] 23) = wn at *
  obtain ⟨P, hP0, hP1⟩ : ∃ P : Fr, (y = 0 → P = { dst := d, src := s, tag := t, prio := p, vid := v, red := r, seq := n, typ := y, data := z }) ∧ (¬ y = 0 → P = { dst := d, src := s, tag := t, prio := p, vid := v, red := r, seq := n, typ := y, data := z ++ cop 0 m }) := by
    by_cases hy : y = 0
    · exact ⟨_, fun _ => rfl, fun h => absurd hy h⟩
    · exact ⟨_, fun h => absurd h hy, fun _ => rfl⟩
  have HP0 := Lib.hid hP0
  have HP1 := Lib.hid hP1
  clear hP0 hP1
  obtain ⟨q0, q1, q2, q3, q4, q5, q6, q7, q8⟩ := F.out.cells
  go_upto_if 27 with fail
  clear q0 q1 q2 q3 q4 q5 q6 q7 q8
  generalize hyb : (y != 0) = yb
  have HY := Lib.hid hyb
  clear hyb
  go_cut [9] from 10 to 47 (fun _ wx => Hid (Fb wx c3 { dst := d, src := s, tag := t, prio := p, vid := v, red := r, seq := n, typ := y, data := z } ∧ Fb wx c8 P ∧ Bl w wx))
  case first =>
   as_aux_lemma =>
    cases yb
    · have hy : y = 0 := bne_eq_false_iff_eq.1 HY.out
      have HYh := Lib.hid hy
      clear hy HY
      go_wp2_with fail
      go_meet
      exact Lib.hid ⟨F.out, by rw [HP0.out HYh.out]; exact FW.out, G.out⟩
    · have hPe := HP1.out (bne_iff_ne.1 HY.out)
      subst hPe
      clear HP0 HP1 KB0 KB1 KD1 HY
      generalize z ++ cop 0 m = zz at *
      obtain ⟨H, hH⟩ : ∃ H : Int, Hid (H = if t then 18 else 14) := ⟨_, Lib.hid rfl⟩
      obtain ⟨I, hI⟩ : ∃ I : Int, Hid (I = H + if r then 6 else 0) := ⟨_, Lib.hid rfl⟩
      have hI1 : 14 ≤ I ∧ I ≤ 24 := by have a := hI.out; have b := hH.out; cases t <;> cases r <;> simp at a b <;> omega
      have hI2 := hI1.1
      have hI3 := hI1.2
      clear hI1
      have hmx0 : (if (0 : Int) < IntKind.i64.wrap (IntKind.i64.wrap (60 - I) - (z.size : Int)) then IntKind.i64.wrap (IntKind.i64.wrap (60 - I) - (z.size : Int)) else 0) = (m : Int) := by
        rw [IntWalk.i64_in (60 - I) (by omega), IntWalk.i64_in (60 - I - (z.size : Int)) (by omega)]
        have a := hI.out; have b := hH.out; have e := hm.out
        cases t <;> cases r <;> simp [hdr] at a b e <;> split <;> omega
      have HMX := Lib.hid hmx0
      have hmx1 : max (0 : Int) (IntKind.i64.wrap (IntKind.i64.wrap (60 - I) - (z.size : Int))) = (m : Int) := by
        rw [← hmx0]; split <;> omega
      have HMY := Lib.hid hmx1
      clear hmx0 hmx1
      obtain ⟨q0, q1, q2, q3, q4, q5, q6, q7, q8⟩ := F.out.cells
      go_upto_if 29 with fail
      go_cut [9] from 10 to 31 (fun s9 wx => s9 = .int .i64 H ∧ wn = wx)
      case first =>
        cases t
        · go_wp2_with fail
          go_meet
          exact ⟨by rw [hH.out]; rfl, rfl⟩
        · go_wp2_with fail
          go_meet
          exact ⟨by rw [hH.out]; rfl, rfl⟩
      obtain ⟨rfl, rfl⟩ := hcut
      go_upto_if 33 with fail
      go_cut [9] from 10 to 35 (fun s9 wx => s9 = .int .i64 I ∧ wn = wx)
      case first =>
        have hh : 14 ≤ H ∧ H ≤ 18 := by have b := hH.out; cases t <;> simp at b <;> omega
        have h1 := hh.1
        have h2 := hh.2
        clear hh
        cases r
        · go_wp2_with fail
          go_meet
          exact ⟨by rw [hI.out]; simp, rfl⟩
        · go_wp2_with fail
          go_meet
          exact ⟨by rw [hI.out]; simp, rfl⟩
      obtain ⟨rfl, rfl⟩ := hcut
      go_upto_region 13 with fail
      obtain ⟨e0, e1, e2, e3, e4, e5, e6, e7, e8⟩ := FW.out.cells
      obtain ⟨ef0, ef1, ef2, ef3, ef4, ef5, ef6, ef7, ef8⟩ := FW.out.frozen
      have HF := Lib.hid (fun (w' : World) (g : Bl wn.drew w') => F.out.bl (Bl.trans ((Bl.refl wn).drew) g))
      have HW := Lib.hid (fun (w' : World) (g : Bl wn.drew w') => FW.out.bl (Bl.trans ((Bl.refl wn).drew) g))
      go_region_with (first | (go_at_call 21; (first | rw [HMX.out] | rw [HMY.out]); (with_reducible refine (KR.out _).mono ?_); rintro e w9 ⟨rfl, hgr⟩; have H9 := Lib.hid hgr; obtain ⟨a0, a1, a2, a3, a4, a5, a6, a7, a8⟩ := (HF.out _ hgr).cells; obtain ⟨b0, b1, b2, b3, b4, b5, b6, b7, b8⟩ := (HW.out _ hgr).cells; obtain ⟨d0, d1, d2, d3, d4, d5, d6, d7, d8⟩ := (HW.out _ hgr).frozen; clear hgr) | fail)
      all_goals (go_wp2_with fail; go_meet; exact Lib.hid ⟨(HF.out _ H9.out).far (p := ⟨c8, 8, none⟩) hne.symm (.string zz), (HW.out _ H9.out).put (g := { dst := d, src := s, tag := t, prio := p, vid := v, red := r, seq := n, typ := y, data := zz }) (i := 8) (by decide) (.string zz) (nine_cases rfl rfl rfl rfl rfl rfl rfl rfl rfl), (Bl.trans (Bl.drew G.out) H9.out).setCell (p := ⟨c8, 8, none⟩) hle (.string zz)⟩)
  have h84 : (84 : Int) ≤ (N : Int) + 20 := by omega
  have h84b : decide ((84 : Int) ≤ (N : Int) + 20) = true := decide_eq_true h84
  have h15 : (N : Int) + 20 ≤ 1542 := by omega
  have h15b : decide ((N : Int) + 20 ≤ 1542) = true := decide_eq_true h15
  obtain ⟨h3, h8, hg⟩ := hcut.out
  clear hcut F FW G
  have F := Lib.hid h3
  have FW := Lib.hid h8
  have G := Lib.hid hg
  clear h3 h8 hg
  have KBD := Lib.hid (⟨fun w => ?kb, fun w => ?kd⟩ : (∀ w, Calls Try.prog 23 #[.agg #[.int .i64 d, .int .i64 s, .bool t, .int .i64 p, .int .i64 v, .bool r, .int .i64 n, .int .i64 y, .string z], P.v] w fun e w' => e = .returned (.bool true) ∧ Bl w w') ∧ (∀ w, Calls Try.prog 23 #[P.v, P.v] w fun e w' => e = .returned (.bool true) ∧ Bl w w'))
  case kb =>
    by_cases hy : y = 0
    · rw [HP0.out hy]; exact KB0.out hy w
    · rw [HP1.out hy]; exact KB1.out hy w
  case kd =>
    by_cases hy : y = 0
    · rw [HP0.out hy]; exact KB0.out hy w
    · rw [HP1.out hy]; exact KD1.out hy w
  have KB := Lib.hid KBD.out.1
  have KD := Lib.hid KBD.out.2
  clear KBD KB0 KB1 KD1 HP0 HP1
  rename World => wn
  obtain ⟨d', s', t', p', v', r', n', y', z'⟩ := P
  unfold Fr.v at KB KD
  dsimp only at KB KD
  obtain ⟨q0, q1, q2, q3, q4, q5, q6, q7, q8⟩ := F.out.cells
  go_wp2_with fail
  refine (KC.out _).mono ?_; rintro e wn ⟨rfl, hgr⟩
  replace F := Lib.hid (F.out.bl hgr)
  replace FW := Lib.hid (FW.out.bl hgr)
  replace G := Lib.hid (Bl.trans G.out hgr)
  clear hgr
  clear q0 q1 q2 q3 q4 q5 q6 q7 q8
  go_wp2_with fail
  refine (KG.out _).mono ?_; rintro e wn ⟨rfl, hgr⟩
  replace F := Lib.hid (F.out.bl hgr)
  replace FW := Lib.hid (FW.out.bl hgr)
  replace G := Lib.hid (Bl.trans G.out hgr)
  clear hgr
  obtain ⟨q0, q1, q2, q3, q4, q5, q6, q7, q8⟩ := F.out.cells
  obtain ⟨e0, e1, e2, e3, e4, e5, e6, e7, e8⟩ := FW.out.cells
  go_wp2_with fail
  refine (KB.out _).mono ?_; rintro e wn ⟨rfl, hgr⟩
  replace F := Lib.hid (F.out.bl hgr)
  replace FW := Lib.hid (FW.out.bl hgr)
  replace G := Lib.hid (Bl.trans G.out hgr)
  clear hgr
  clear q0 q1 q2 q3 q4 q5 q6 q7 q8
  clear e0 e1 e2 e3 e4 e5 e6 e7 e8
  obtain ⟨e0, e1, e2, e3, e4, e5, e6, e7, e8⟩ := FW.out.cells
  go_wp2_with fail
  refine (KD.out _).mono ?_; rintro e wn ⟨rfl, hgr⟩
  replace G := Lib.hid (Bl.trans G.out hgr)
  clear hgr
  go_wp2_with fail
  go_ret
  exact ⟨rfl, G.out⟩
end Go.Proofs.Ytmhdgpmlconngaa
