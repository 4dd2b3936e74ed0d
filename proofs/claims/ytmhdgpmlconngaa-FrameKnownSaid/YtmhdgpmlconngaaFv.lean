/-
  The law's works.
-/
import Derived.Test.YtmhdgpmlconngaaFu
import Derived.Deep.DeepCutAuto
namespace Go.Proofs.Ytmhdgpmlconngaa
open Go.RowKit Go.Proofs.Ytmhdgpmlconngaa.Cr

theorem hel_keep {W w' : World} {b : Nat} (h : Fb W b helF) (g : Bl W w') : w'.cell? ⟨b, 0, none⟩ = some (.int .i64 1) ∧ w'.cell? ⟨b, 1, none⟩ = some (.int .i64 2) ∧ w'.cell? ⟨b, 2, none⟩ = some (.bool false) ∧ w'.cell? ⟨b, 3, none⟩ = some (.int .i64 0) ∧ w'.cell? ⟨b, 4, none⟩ = some (.int .i64 0) ∧ w'.cell? ⟨b, 5, none⟩ = some (.bool false) ∧ w'.cell? ⟨b, 6, none⟩ = some (.int .i64 0) ∧ w'.cell? ⟨b, 7, none⟩ = some (.int .i64 2048) ∧ w'.cell? ⟨b, 8, none⟩ = some (.string ⟨#[104, 101, 108, 108, 111]⟩) ∧ Hid (Bl W w') :=
  have k := (Fb.go (b := b + 1) h (Only.of g) (by omega)).cells
  ⟨k.1, k.2.1, k.2.2.1, k.2.2.2.1, k.2.2.2.2.1, k.2.2.2.2.2.1, k.2.2.2.2.2.2.1, k.2.2.2.2.2.2.2.1, k.2.2.2.2.2.2.2.2, Lib.hid g⟩

theorem hel_re {W w' : World} {P0 P1 P2 P3 P4 P5 P6 P7 P8 Q : Prop} (h : P0 ∧ P1 ∧ P2 ∧ P3 ∧ P4 ∧ P5 ∧ P6 ∧ P7 ∧ P8 ∧ Q) (g : Bl W w') : P0 ∧ P1 ∧ P2 ∧ P3 ∧ P4 ∧ P5 ∧ P6 ∧ P7 ∧ P8 ∧ Hid (Bl W w') :=
  ⟨h.1, h.2.1, h.2.2.1, h.2.2.2.1, h.2.2.2.2.1, h.2.2.2.2.2.1, h.2.2.2.2.2.2.1, h.2.2.2.2.2.2.2.1, h.2.2.2.2.2.2.2.2.1, Lib.hid g⟩

set_option maxRecDepth 20000 in
set_option maxHeartbeats 8000000 in
theorem works_any (w : World) : Calls Try.prog 17 #[] w fun e w' => e = .returned (.bool true) ∧ Bl w w' := by
  have KH := Lib.hid (fun w => hello_any w)
  have KE := Lib.hid (fun w => (enR_s (ok_iff.2 hel_ok)) ▸ encode_any helF w)
  have KR := Lib.hid (fun w => repeat_any 0 41 (by decide) w)
  have KS := Lib.hid (fun w => size_t helF 84 (ok_iff.2 hel_ok) hel_wire w)
  have KL := Lib.hid (fun w => repeat_any 120 1500 (by decide) w)
  have KT := Lib.hid (fun w => (enR_s (ok_iff.2 tag_ok)) ▸ encode_any tagF w)
  have KU := Lib.hid (fun w => size_t lonF 1542 (ok_iff.2 lon_ok) lon_wire w)
  have KB := Lib.hid (fun w => back_t helF padF hel_ok (by rw [back_pad hel_ok, hel_pad]) w)
  have KC := Lib.hid (fun w => back_t plaF plaF pla_ok (by rw [back_pad pla_ok, pla_pad]) w)
  have K1 := Lib.hid (fun w => check_v bad1 w)
  have K2 := Lib.hid (fun w => check_v bad2 w)
  have K3 := Lib.hid (fun w => check_v bad3 w)
  have KZ := Lib.hid (fun w => repeat_any 0 64 (by decide) w)
  have KM := Lib.hid (fun w => malformed_t (cop 0 64) (by rw [cop_size]; decide) zeros_bad w)
  have hz := hel_size
  have hx := hel_head
  have hy := tag_size
  have ht := tag_head
  have hc41 : (cop 0 41).size = 41 := cop_size _ _
  have hadd : ∀ W : World, (Op.stringOp .add ⟨#[0, 0, 0, 0, 0, 1, 0, 0, 0, 0, 0, 2, 8, 0, 104, 101, 108, 108, 111]⟩ (cop 0 41)).run Try.prog W = .ok (.string ((enc helF).extract 0 60)) W := fun W => by
    rw [run_string_add W _ _ (by decide) (by omega), hx]
  have hadd2 : ∀ W : World, (Op.stringOp .add ⟨#[104, 101, 108, 108, 111]⟩ (cop 0 41)).run Try.prog W = .ok (.string (⟨#[104, 101, 108, 108, 111]⟩ ++ cop 0 41)) W := fun W => run_string_add W _ _ (by decide) (by omega)
  clear hx
  unfold lonF tagF padF plaF helF Fr.v at *
  dsimp only at *
  generalize (⟨#[104, 101, 108, 108, 111]⟩ ++ cop 0 41 : ByteArray) = hp at *
  generalize cop 0 41 = z41 at *
  generalize cop 120 1500 = x15 at *
  generalize cop 0 64 = z64 at *
  generalize enc { dst := 1, src := 2, tag := false, prio := 0, vid := 0, red := false, seq := 0, typ := 2048, data := ⟨#[104, 101, 108, 108, 111]⟩ } = e1 at *
  generalize enc { dst := 1, src := 2, tag := true, prio := 5, vid := 3, red := true, seq := 258, typ := 2048, data := ⟨#[104, 101, 108, 108, 111]⟩ } = e2 at *
  go_enter Try.func17, Try.ntmps17
  go_wp2_with fail
  refine (KH.out _).mono ?_; rintro e w1 ⟨rfl, hgr⟩
  go_upto_region 2 with fail
  have hF := Fb.new w1 23 helF
  have G0 := Lib.hid (Bl.alloc hgr (.cells #[.int .i64 helF.dst, .int .i64 helF.src, .bool helF.tag, .int .i64 helF.prio, .int .i64 helF.vid, .bool helF.red, .int .i64 helF.seq, .int .i64 helF.typ, .string helF.data] 23))
  clear hgr KH
  unfold helF at hF G0
  dsimp only at hF G0
  generalize w1.heap.size = b at *
  generalize w1.alloc (.cells #[.int .i64 1, .int .i64 2, .bool false, .int .i64 0, .int .i64 0, .bool false, .int .i64 0, .int .i64 2048, .string ⟨#[104, 101, 108, 108, 111]⟩] 23) = W at *
  have HN := Lib.hid (fun (w' : World) (g : Bl W w') => hel_keep (W := W) (w' := w') (b := b) hF g)
  have hbW := hF.1
  clear hF
  have GG := Lib.hid (Bl.refl W)
  obtain ⟨c0, c1, c2, c3, c4, c5, c6, c7, c8, _⟩ := HN.out _ GG.out
  go_wp2_with fail
  refine (KE.out _).mono ?_; rintro e wn ⟨rfl, hgr⟩
  replace GG := Lib.hid (Bl.trans GG.out hgr); clear hgr c0 c1 c2 c3 c4 c5 c6 c7 c8
  obtain ⟨c0, c1, c2, c3, c4, c5, c6, c7, c8, _⟩ := HN.out _ GG.out
  go_wp2_with fail
  refine (KR.out _).mono ?_; rintro e wn ⟨rfl, hgr⟩
  replace GG := Lib.hid (Bl.trans GG.out hgr); clear hgr c0 c1 c2 c3 c4 c5 c6 c7 c8
  obtain ⟨c0, c1, c2, c3, c4, c5, c6, c7, c8, _⟩ := HN.out _ GG.out
  go_wp2_with fail
  refine (KS.out _).mono ?_; rintro e wn ⟨rfl, hgr⟩
  replace GG := Lib.hid (Bl.trans GG.out hgr); clear hgr c0 c1 c2 c3 c4 c5 c6 c7 c8
  obtain ⟨c0, c1, c2, c3, c4, c5, c6, c7, c8, _⟩ := HN.out _ GG.out
  clear c0 c1 c2 c3 c4 c5 c6 c7 c8
  go_upto_region 7 with fail
  go_cut [6, 7, 8, 9] (fun p6 p7 p8 p9 wx => Hid (∃ i j k l : Nat, p6 = .pointer (some ⟨i, 0, none⟩) ∧ p7 = .pointer (some ⟨j, 0, none⟩) ∧ p8 = .pointer (some ⟨k, 0, none⟩) ∧ p9 = .pointer (some ⟨l, 0, none⟩) ∧ Fb wx i helF ∧ Fb wx j helF ∧ Fb wx k helF ∧ Fb wx l helF ∧ Bl wn wx ∧ i ≠ j ∧ i ≠ k ∧ j ≠ k ∧ i ≠ l ∧ j ≠ l ∧ k ≠ l ∧ wn.heap.size ≤ i ∧ wn.heap.size ≤ j ∧ wn.heap.size ≤ k ∧ wn.heap.size ≤ l))
  case first =>
    have HV := Lib.hid (fun (w' : World) (g : Bl wn w') => HN.out w' (Bl.trans GG.out g))
    replace HN := Lib.hid (fun (w' : World) (g : Bl wn w') => hel_re (HV.out w' g) g)
    go_region_held3 (fun w' => w'.cell? ⟨b, 0, none⟩ = some (.int .i64 1) ∧ w'.cell? ⟨b, 1, none⟩ = some (.int .i64 2) ∧ w'.cell? ⟨b, 2, none⟩ = some (.bool false) ∧ w'.cell? ⟨b, 3, none⟩ = some (.int .i64 0) ∧ w'.cell? ⟨b, 4, none⟩ = some (.int .i64 0) ∧ w'.cell? ⟨b, 5, none⟩ = some (.bool false) ∧ w'.cell? ⟨b, 6, none⟩ = some (.int .i64 0) ∧ w'.cell? ⟨b, 7, none⟩ = some (.int .i64 2048) ∧ w'.cell? ⟨b, 8, none⟩ = some (.string ⟨#[104, 101, 108, 108, 111]⟩) ∧ Hid (Bl wn w')) (first | with_reducible assumption | (refine HN.out _ ?_; (repeat (first | exact Bl.refl _ | exact Bl.refl _ | with_reducible refine Bl.drew ?_ | with_reducible refine Bl.alloc ?_ _ | (with_reducible refine Bl.setCell ?_ ?_ _; rotate_left; (first | exact Nat.le_refl _ | exact Nat.le_add_right _ _)))); done) | fail) (fail)
    all_goals (go_wp2_with fail; go_meet; exact Lib.hid ⟨_, _, _, _, rfl, rfl, rfl, rfl, (four_new _ _ helF).1 _ (by omega) (by omega), (four_new _ _ helF).1 _ (by omega) (by omega), (four_new _ _ helF).1 _ (by omega) (by omega), (four_new _ _ helF).1 _ (by omega) (by omega), (four_new _ _ helF).2, by omega, by omega, by omega, by omega, by omega, by omega, by omega, by omega, by omega, by omega⟩)
  obtain ⟨i, j, k, l, rfl, rfl, rfl, rfl, h6, h7, h8, h9, hbl, nij, nik, njk, nil, njl, nkl, hi, hj, hk, hl⟩ := hcut.out
  unfold helF at h6 h7 h8 h9
  have hWn := GG.out.size
  have HWi := Nat.le_trans hWn hi
  have HWj := Nat.le_trans hWn hj
  have HWk := Nat.le_trans hWn hk
  have HWl := Nat.le_trans hWn hl
  have FI := Lib.hid h6
  have FJ := Lib.hid h7
  have FK := Lib.hid h8
  have FL := Lib.hid h9
  replace GG := Lib.hid (Bl.trans GG.out hbl)
  clear hcut h6 h7 h8 h9 hbl hi hj hk hl hWn
  go_wp2_with fail
  refine (KL.out _).mono ?_; rintro e wn ⟨rfl, hgr⟩
  replace FI := Lib.hid (FI.out.bl hgr)
  replace FJ := Lib.hid (FJ.out.bl hgr)
  replace FK := Lib.hid (FK.out.bl hgr)
  replace FL := Lib.hid (FL.out.bl hgr)
  replace GG := Lib.hid (Bl.trans GG.out hgr)
  clear hgr
  obtain ⟨q0, q1, q2, q3, q4, q5, q6, q7, q8⟩ := FI.out.cells
  obtain ⟨qf0, qf1, qf2, qf3, qf4, qf5, qf6, qf7, qf8⟩ := FI.out.frozen
  go_upto_region 9 with fail
  clear q0 q1 q2 q3 q4 q5 q6 q7 q8 qf0 qf1 qf2 qf3 qf4 qf5 qf6 qf7 qf8
  replace FI := Lib.hid (FI.out.put (g := { dst := 1, src := 2, tag := false, prio := 0, vid := 0, red := false, seq := 0, typ := 2048, data := x15 }) (i := 8) (by decide) (.string x15) (nine_cases rfl rfl rfl rfl rfl rfl rfl rfl rfl))
  replace FI := Lib.hid (FI.out.put (g := { dst := 1, src := 2, tag := true, prio := 0, vid := 0, red := false, seq := 0, typ := 2048, data := x15 }) (i := 2) (by decide) (.bool true) (nine_cases rfl rfl rfl rfl rfl rfl rfl rfl rfl))
  replace FI := Lib.hid (FI.out.put (g := { dst := 1, src := 2, tag := true, prio := 0, vid := 5, red := false, seq := 0, typ := 2048, data := x15 }) (i := 4) (by decide) (.int .i64 5) (nine_cases rfl rfl rfl rfl rfl rfl rfl rfl rfl))
  replace FJ := Lib.hid (FJ.out.far (p := ⟨i, 8, none⟩) nij (.string x15))
  replace FJ := Lib.hid (FJ.out.far (p := ⟨i, 2, none⟩) nij (.bool true))
  replace FJ := Lib.hid (FJ.out.far (p := ⟨i, 4, none⟩) nij (.int .i64 5))
  replace FK := Lib.hid (FK.out.far (p := ⟨i, 8, none⟩) nik (.string x15))
  replace FK := Lib.hid (FK.out.far (p := ⟨i, 2, none⟩) nik (.bool true))
  replace FK := Lib.hid (FK.out.far (p := ⟨i, 4, none⟩) nik (.int .i64 5))
  replace FL := Lib.hid (FL.out.far (p := ⟨i, 8, none⟩) nil (.string x15))
  replace FL := Lib.hid (FL.out.far (p := ⟨i, 2, none⟩) nil (.bool true))
  replace FL := Lib.hid (FL.out.far (p := ⟨i, 4, none⟩) nil (.int .i64 5))
  replace GG := Lib.hid (GG.out.setCell (p := ⟨i, 8, none⟩) HWi (.string x15))
  replace GG := Lib.hid (GG.out.setCell (p := ⟨i, 2, none⟩) HWi (.bool true))
  replace GG := Lib.hid (GG.out.setCell (p := ⟨i, 4, none⟩) HWi (.int .i64 5))
  generalize (((wn.setCell ⟨i, 8, none⟩ (.string x15)).setCell ⟨i, 2, none⟩ (.bool true)).setCell ⟨i, 4, none⟩ (.int .i64 5)) = wn at *
  obtain ⟨q0, q1, q2, q3, q4, q5, q6, q7, q8⟩ := FJ.out.cells
  obtain ⟨qf0, qf1, qf2, qf3, qf4, qf5, qf6, qf7, qf8⟩ := FJ.out.frozen
  go_upto_region 10 with fail
  clear q0 q1 q2 q3 q4 q5 q6 q7 q8 qf0 qf1 qf2 qf3 qf4 qf5 qf6 qf7 qf8
  replace FJ := Lib.hid (FJ.out.put (g := { dst := 1, src := 2, tag := false, prio := 0, vid := 0, red := false, seq := 0, typ := 2048, data := hp }) (i := 8) (by decide) (.string hp) (nine_cases rfl rfl rfl rfl rfl rfl rfl rfl rfl))
  replace FI := Lib.hid (FI.out.far (p := ⟨j, 8, none⟩) nij.symm (.string hp))
  replace FK := Lib.hid (FK.out.far (p := ⟨j, 8, none⟩) njk (.string hp))
  replace FL := Lib.hid (FL.out.far (p := ⟨j, 8, none⟩) njl (.string hp))
  replace GG := Lib.hid (GG.out.setCell (p := ⟨j, 8, none⟩) HWj (.string hp))
  generalize (wn.setCell ⟨j, 8, none⟩ (.string hp)) = wn at *
  obtain ⟨q0, q1, q2, q3, q4, q5, q6, q7, q8⟩ := FK.out.cells
  obtain ⟨qf0, qf1, qf2, qf3, qf4, qf5, qf6, qf7, qf8⟩ := FK.out.frozen
  go_upto_region 11 with fail
  clear q0 q1 q2 q3 q4 q5 q6 q7 q8 qf0 qf1 qf2 qf3 qf4 qf5 qf6 qf7 qf8
  replace FK := Lib.hid (FK.out.put (g := { dst := 1, src := 2, tag := false, prio := 0, vid := 0, red := false, seq := 0, typ := 0, data := ⟨#[104, 101, 108, 108, 111]⟩ }) (i := 7) (by decide) (.int .i64 0) (nine_cases rfl rfl rfl rfl rfl rfl rfl rfl rfl))
  replace FI := Lib.hid (FI.out.far (p := ⟨k, 7, none⟩) nik.symm (.int .i64 0))
  replace FJ := Lib.hid (FJ.out.far (p := ⟨k, 7, none⟩) njk.symm (.int .i64 0))
  replace FL := Lib.hid (FL.out.far (p := ⟨k, 7, none⟩) nkl (.int .i64 0))
  replace GG := Lib.hid (GG.out.setCell (p := ⟨k, 7, none⟩) HWk (.int .i64 0))
  generalize (wn.setCell ⟨k, 7, none⟩ (.int .i64 0)) = wn at *
  obtain ⟨q0, q1, q2, q3, q4, q5, q6, q7, q8⟩ := FL.out.cells
  obtain ⟨qf0, qf1, qf2, qf3, qf4, qf5, qf6, qf7, qf8⟩ := FL.out.frozen
  go_upto_region 12 with fail
  clear q0 q1 q2 q3 q4 q5 q6 q7 q8 qf0 qf1 qf2 qf3 qf4 qf5 qf6 qf7 qf8
  replace FL := Lib.hid (FL.out.put (g := { dst := 1, src := 2, tag := true, prio := 0, vid := 0, red := false, seq := 0, typ := 2048, data := ⟨#[104, 101, 108, 108, 111]⟩ }) (i := 2) (by decide) (.bool true) (nine_cases rfl rfl rfl rfl rfl rfl rfl rfl rfl))
  replace FL := Lib.hid (FL.out.put (g := { dst := 1, src := 2, tag := true, prio := 5, vid := 0, red := false, seq := 0, typ := 2048, data := ⟨#[104, 101, 108, 108, 111]⟩ }) (i := 3) (by decide) (.int .i64 5) (nine_cases rfl rfl rfl rfl rfl rfl rfl rfl rfl))
  replace FL := Lib.hid (FL.out.put (g := { dst := 1, src := 2, tag := true, prio := 5, vid := 3, red := false, seq := 0, typ := 2048, data := ⟨#[104, 101, 108, 108, 111]⟩ }) (i := 4) (by decide) (.int .i64 3) (nine_cases rfl rfl rfl rfl rfl rfl rfl rfl rfl))
  replace FL := Lib.hid (FL.out.put (g := { dst := 1, src := 2, tag := true, prio := 5, vid := 3, red := true, seq := 0, typ := 2048, data := ⟨#[104, 101, 108, 108, 111]⟩ }) (i := 5) (by decide) (.bool true) (nine_cases rfl rfl rfl rfl rfl rfl rfl rfl rfl))
  replace FL := Lib.hid (FL.out.put (g := { dst := 1, src := 2, tag := true, prio := 5, vid := 3, red := true, seq := 258, typ := 2048, data := ⟨#[104, 101, 108, 108, 111]⟩ }) (i := 6) (by decide) (.int .i64 258) (nine_cases rfl rfl rfl rfl rfl rfl rfl rfl rfl))
  replace FI := Lib.hid (FI.out.far (p := ⟨l, 2, none⟩) nil.symm (.bool true))
  replace FI := Lib.hid (FI.out.far (p := ⟨l, 3, none⟩) nil.symm (.int .i64 5))
  replace FI := Lib.hid (FI.out.far (p := ⟨l, 4, none⟩) nil.symm (.int .i64 3))
  replace FI := Lib.hid (FI.out.far (p := ⟨l, 5, none⟩) nil.symm (.bool true))
  replace FI := Lib.hid (FI.out.far (p := ⟨l, 6, none⟩) nil.symm (.int .i64 258))
  replace FJ := Lib.hid (FJ.out.far (p := ⟨l, 2, none⟩) njl.symm (.bool true))
  replace FJ := Lib.hid (FJ.out.far (p := ⟨l, 3, none⟩) njl.symm (.int .i64 5))
  replace FJ := Lib.hid (FJ.out.far (p := ⟨l, 4, none⟩) njl.symm (.int .i64 3))
  replace FJ := Lib.hid (FJ.out.far (p := ⟨l, 5, none⟩) njl.symm (.bool true))
  replace FJ := Lib.hid (FJ.out.far (p := ⟨l, 6, none⟩) njl.symm (.int .i64 258))
  replace FK := Lib.hid (FK.out.far (p := ⟨l, 2, none⟩) nkl.symm (.bool true))
  replace FK := Lib.hid (FK.out.far (p := ⟨l, 3, none⟩) nkl.symm (.int .i64 5))
  replace FK := Lib.hid (FK.out.far (p := ⟨l, 4, none⟩) nkl.symm (.int .i64 3))
  replace FK := Lib.hid (FK.out.far (p := ⟨l, 5, none⟩) nkl.symm (.bool true))
  replace FK := Lib.hid (FK.out.far (p := ⟨l, 6, none⟩) nkl.symm (.int .i64 258))
  replace GG := Lib.hid (GG.out.setCell (p := ⟨l, 2, none⟩) HWl (.bool true))
  replace GG := Lib.hid (GG.out.setCell (p := ⟨l, 3, none⟩) HWl (.int .i64 5))
  replace GG := Lib.hid (GG.out.setCell (p := ⟨l, 4, none⟩) HWl (.int .i64 3))
  replace GG := Lib.hid (GG.out.setCell (p := ⟨l, 5, none⟩) HWl (.bool true))
  replace GG := Lib.hid (GG.out.setCell (p := ⟨l, 6, none⟩) HWl (.int .i64 258))
  generalize (((((wn.setCell ⟨l, 2, none⟩ (.bool true)).setCell ⟨l, 3, none⟩ (.int .i64 5)).setCell ⟨l, 4, none⟩ (.int .i64 3)).setCell ⟨l, 5, none⟩ (.bool true)).setCell ⟨l, 6, none⟩ (.int .i64 258)) = wn at *
  obtain ⟨q0, q1, q2, q3, q4, q5, q6, q7, q8⟩ := FL.out.cells
  go_wp2_with fail
  refine (KT.out _).mono ?_; rintro e wn ⟨rfl, hgr⟩
  replace FI := Lib.hid (FI.out.bl hgr)
  replace FJ := Lib.hid (FJ.out.bl hgr)
  replace FK := Lib.hid (FK.out.bl hgr)
  replace GG := Lib.hid (Bl.trans GG.out hgr)
  clear hgr
  clear q0 q1 q2 q3 q4 q5 q6 q7 q8
  obtain ⟨q0, q1, q2, q3, q4, q5, q6, q7, q8⟩ := FI.out.cells
  go_wp2_with fail
  refine (KU.out _).mono ?_; rintro e wn ⟨rfl, hgr⟩
  replace FI := Lib.hid (FI.out.bl hgr)
  replace FJ := Lib.hid (FJ.out.bl hgr)
  replace FK := Lib.hid (FK.out.bl hgr)
  replace GG := Lib.hid (Bl.trans GG.out hgr)
  clear hgr
  clear q0 q1 q2 q3 q4 q5 q6 q7 q8
  obtain ⟨c0, c1, c2, c3, c4, c5, c6, c7, c8, _⟩ := HN.out _ GG.out
  obtain ⟨q0, q1, q2, q3, q4, q5, q6, q7, q8⟩ := FJ.out.cells
  go_wp2_with fail
  refine (KB.out _).mono ?_; rintro e wn ⟨rfl, hgr⟩
  replace FI := Lib.hid (FI.out.bl hgr)
  replace FJ := Lib.hid (FJ.out.bl hgr)
  replace FK := Lib.hid (FK.out.bl hgr)
  replace GG := Lib.hid (Bl.trans GG.out hgr)
  clear hgr
  clear q0 q1 q2 q3 q4 q5 q6 q7 q8
  clear c0 c1 c2 c3 c4 c5 c6 c7 c8
  obtain ⟨q0, q1, q2, q3, q4, q5, q6, q7, q8⟩ := FK.out.cells
  go_wp2_with fail
  refine (KC.out _).mono ?_; rintro e wn ⟨rfl, hgr⟩
  replace FI := Lib.hid (FI.out.bl hgr)
  replace FJ := Lib.hid (FJ.out.bl hgr)
  replace FK := Lib.hid (FK.out.bl hgr)
  replace GG := Lib.hid (Bl.trans GG.out hgr)
  clear hgr
  clear q0 q1 q2 q3 q4 q5 q6 q7 q8
  clear FI FJ FK FL
  go_upto_region 15 with fail
  go_cut [12, 13, 14] (fun p6 p7 p8 wx => Hid (∃ i j k : Nat, p6 = .pointer (some ⟨i, 0, none⟩) ∧ p7 = .pointer (some ⟨j, 0, none⟩) ∧ p8 = .pointer (some ⟨k, 0, none⟩) ∧ Fb wx i helF ∧ Fb wx j helF ∧ Fb wx k helF ∧ Bl wn wx ∧ i ≠ j ∧ i ≠ k ∧ j ≠ k ∧ wn.heap.size ≤ i ∧ wn.heap.size ≤ j ∧ wn.heap.size ≤ k))
  case first =>
    have HV := Lib.hid (fun (w' : World) (g : Bl wn w') => HN.out w' (Bl.trans GG.out g))
    replace HN := Lib.hid (fun (w' : World) (g : Bl wn w') => hel_re (HV.out w' g) g)
    go_region_held3 (fun w' => w'.cell? ⟨b, 0, none⟩ = some (.int .i64 1) ∧ w'.cell? ⟨b, 1, none⟩ = some (.int .i64 2) ∧ w'.cell? ⟨b, 2, none⟩ = some (.bool false) ∧ w'.cell? ⟨b, 3, none⟩ = some (.int .i64 0) ∧ w'.cell? ⟨b, 4, none⟩ = some (.int .i64 0) ∧ w'.cell? ⟨b, 5, none⟩ = some (.bool false) ∧ w'.cell? ⟨b, 6, none⟩ = some (.int .i64 0) ∧ w'.cell? ⟨b, 7, none⟩ = some (.int .i64 2048) ∧ w'.cell? ⟨b, 8, none⟩ = some (.string ⟨#[104, 101, 108, 108, 111]⟩) ∧ Hid (Bl wn w')) (first | with_reducible assumption | (refine HN.out _ ?_; (repeat (first | exact Bl.refl _ | exact Bl.refl _ | with_reducible refine Bl.drew ?_ | with_reducible refine Bl.alloc ?_ _ | (with_reducible refine Bl.setCell ?_ ?_ _; rotate_left; (first | exact Nat.le_refl _ | exact Nat.le_add_right _ _)))); done) | fail) (fail)
    all_goals (go_wp2_with fail; go_meet; exact Lib.hid ⟨_, _, _, rfl, rfl, rfl, (three_new _ _ helF).1 _ (by omega) (by omega), (three_new _ _ helF).1 _ (by omega) (by omega), (three_new _ _ helF).1 _ (by omega) (by omega), (three_new _ _ helF).2, by omega, by omega, by omega, by omega, by omega, by omega⟩)
  obtain ⟨r, s, t, rfl, rfl, rfl, h6, h7, h8, hbl, nrs, nrt, nst, hr, hs, ht⟩ := hcut.out
  unfold helF at h6 h7 h8
  have hWn := GG.out.size
  have HWr := Nat.le_trans hWn hr
  have HWs := Nat.le_trans hWn hs
  have HWt := Nat.le_trans hWn ht
  have FR := Lib.hid h6
  have FS := Lib.hid h7
  have FT := Lib.hid h8
  replace GG := Lib.hid (Bl.trans GG.out hbl)
  clear hcut h6 h7 h8 hbl hr hs ht hWn
  rename World => wn
  obtain ⟨q0, q1, q2, q3, q4, q5, q6, q7, q8⟩ := FR.out.cells
  obtain ⟨qf0, qf1, qf2, qf3, qf4, qf5, qf6, qf7, qf8⟩ := FR.out.frozen
  obtain ⟨y0, y1, y2, y3, y4, y5, y6, y7, y8⟩ := FS.out.cells
  obtain ⟨yf0, yf1, yf2, yf3, yf4, yf5, yf6, yf7, yf8⟩ := FS.out.frozen
  obtain ⟨x0, x1, x2, x3, x4, x5, x6, x7, x8⟩ := FT.out.cells
  obtain ⟨xf0, xf1, xf2, xf3, xf4, xf5, xf6, xf7, xf8⟩ := FT.out.frozen
  go_upto_region 17 with fail
  clear q0 q1 q2 q3 q4 q5 q6 q7 q8 qf0 qf1 qf2 qf3 qf4 qf5 qf6 qf7 qf8
  clear y0 y1 y2 y3 y4 y5 y6 y7 y8 yf0 yf1 yf2 yf3 yf4 yf5 yf6 yf7 yf8
  clear x0 x1 x2 x3 x4 x5 x6 x7 x8 xf0 xf1 xf2 xf3 xf4 xf5 xf6 xf7 xf8
  replace FR := Lib.hid (((FR.out.put (g := { dst := 1, src := 2, tag := false, prio := 0, vid := 3, red := false, seq := 0, typ := 2048, data := ⟨#[104, 101, 108, 108, 111]⟩ }) (i := 4) (by decide) (.int .i64 3) (nine_cases rfl rfl rfl rfl rfl rfl rfl rfl rfl)).far (p := ⟨s, 7, none⟩) nrs.symm (.int .i64 100)).far (p := ⟨t, 7, none⟩) nrt.symm (.int .i64 33024))
  replace FS := Lib.hid (((FS.out.far (p := ⟨r, 4, none⟩) nrs (.int .i64 3)).put (g := { dst := 1, src := 2, tag := false, prio := 0, vid := 0, red := false, seq := 0, typ := 100, data := ⟨#[104, 101, 108, 108, 111]⟩ }) (i := 7) (by decide) (.int .i64 100) (nine_cases rfl rfl rfl rfl rfl rfl rfl rfl rfl)).far (p := ⟨t, 7, none⟩) nst.symm (.int .i64 33024))
  replace FT := Lib.hid (((FT.out.far (p := ⟨r, 4, none⟩) nrt (.int .i64 3)).far (p := ⟨s, 7, none⟩) nst (.int .i64 100)).put (g := { dst := 1, src := 2, tag := false, prio := 0, vid := 0, red := false, seq := 0, typ := 33024, data := ⟨#[104, 101, 108, 108, 111]⟩ }) (i := 7) (by decide) (.int .i64 33024) (nine_cases rfl rfl rfl rfl rfl rfl rfl rfl rfl))
  replace GG := Lib.hid (((GG.out.setCell (p := ⟨r, 4, none⟩) HWr (.int .i64 3)).setCell (p := ⟨s, 7, none⟩) HWs (.int .i64 100)).setCell (p := ⟨t, 7, none⟩) HWt (.int .i64 33024))
  generalize ((wn.setCell ⟨r, 4, none⟩ (.int .i64 3)).setCell ⟨s, 7, none⟩ (.int .i64 100)).setCell ⟨t, 7, none⟩ (.int .i64 33024) = wn at *
  obtain ⟨q0, q1, q2, q3, q4, q5, q6, q7, q8⟩ := FR.out.cells
  go_wp2_with fail
  refine (K1.out _).mono ?_; rintro e wn ⟨rfl, hgr⟩
  replace FS := Lib.hid (FS.out.bl hgr)
  replace FT := Lib.hid (FT.out.bl hgr)
  replace GG := Lib.hid (Bl.trans GG.out hgr)
  clear hgr
  clear q0 q1 q2 q3 q4 q5 q6 q7 q8
  obtain ⟨q0, q1, q2, q3, q4, q5, q6, q7, q8⟩ := FS.out.cells
  go_wp2_with fail
  refine (K2.out _).mono ?_; rintro e wn ⟨rfl, hgr⟩
  replace FT := Lib.hid (FT.out.bl hgr)
  replace GG := Lib.hid (Bl.trans GG.out hgr)
  clear hgr
  clear q0 q1 q2 q3 q4 q5 q6 q7 q8
  obtain ⟨q0, q1, q2, q3, q4, q5, q6, q7, q8⟩ := FT.out.cells
  go_wp2_with fail
  refine (K3.out _).mono ?_; rintro e wn ⟨rfl, hgr⟩
  replace GG := Lib.hid (Bl.trans GG.out hgr)
  clear hgr
  go_wp2_with fail
  refine (KZ.out _).mono ?_; rintro e wn ⟨rfl, hgr⟩
  replace GG := Lib.hid (Bl.trans GG.out hgr)
  clear hgr
  go_wp2_with fail
  refine (KM.out _).mono ?_; rintro e wn ⟨rfl, hgr⟩
  replace GG := Lib.hid (Bl.trans GG.out hgr)
  clear hgr
  go_wp2_with fail
  go_ret
  exact ⟨rfl, Bl.trans G0.out GG.out⟩
end Go.Proofs.Ytmhdgpmlconngaa
