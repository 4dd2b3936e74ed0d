/-
  What works of the laws returns.
-/
import Derived.Test.YtnapelocjcoofaaEp
import Derived.Test.YtnapelocjcoofaaRp
namespace Go.Proofs.Ytnapelocjcoofaa
open Go.RowKit Go.Proofs.Ytnapelocjcoofaa.Cr

/-- A row of pieces in block g. -/
def Pr (w : World) (g : Nat) (ps : List Pc) : Prop :=
  g < w.heap.size ∧ ∀ k, k < ps.length → ∀ i, i < 4 → w.cell? ⟨g, k * 4 + i, none⟩ = some ((ps.getD k ⟨false, 0, 0, ⟨#[]⟩⟩).l.getD i undef) ∧ w.frozen? ⟨g, k * 4 + i, none⟩ = false
theorem Pr.go {w w' : World} {g : Nat} {ps : List Pc} (h : Pr w g ps) (b : Bl w w') : Pr w' g ps :=
  ⟨Nat.lt_of_lt_of_le h.1 b.size, fun k hk i hi => ⟨(b.cell (p := ⟨g, _, none⟩) h.1).trans (h.2 k hk i hi).1, (b.frozen (p := ⟨g, _, none⟩) h.1).trans (h.2 k hk i hi).2⟩⟩
theorem flP_get {ps : List Pc} {k i : Nat} (hk : k < ps.length) (hi : i < 4) : (flP ps)[k * 4 + i]? = some ((ps.getD k ⟨false, 0, 0, ⟨#[]⟩⟩).l.getD i undef) := by
  have h := flatR_get (k := 4) (rs := ps.map Pc.l) (by intro r hr; obtain ⟨p, _, rfl⟩ := List.mem_map.1 hr; rfl) k i (by rw [List.length_map]; exact hk) hi
  unfold flP
  rw [h]
  simp [List.getD_eq_getElem?_getD, hk]
theorem Pr.of_own {w : World} {base n : Nat} {v : Value} {ps : List Pc} (h0 : 0 < n) (h : w.ownsRow base 45 4 v n (flP ps)) : n = ps.length ∧ ∃ g c, v = .slice (some ⟨g, 0, none⟩) n c ∧ base ≤ g ∧ n ≤ c ∧ c ≤ maxLen ∧ Pr w g ps := by
  have hl : n = ps.length := by
    have := h.1
    rw [flP_len] at this
    omega
  refine ⟨hl, ?_⟩
  rcases h.2 with ⟨rfl, h1⟩ | ⟨g, cap, cur, rfl, hb, hg, h1, h2, h3, h4⟩
  · omega
  · refine ⟨g, cap, rfl, hb, h1, h2, heap_lt hg, fun k hk i hi => ⟨?_, frozen_of_row _ _ _ _ _ hg⟩⟩
    have h5 := flP_get hk hi
    rw [← h4, List.getElem?_take_of_lt (by omega)] at h5
    rw [cell_of_row w g _ cur _ (0, 0) hg]
    simpa using h5
theorem Pr.own {w : World} {base n : Nat} {g c : Nat} {ps : List Pc} (h : w.ownsRow base 45 4 (.slice (some ⟨g, 0, none⟩) n c) n (flP ps)) (h0 : 0 < n) : Pr w g ps := by
  obtain ⟨_, g', c', e, _, _, _, hp⟩ := Pr.of_own h0 h
  cases e
  exact hp

/-! The chapter's frame. -/
theorem chp_size : chp.size = 134 := by unfold chp; rw [sealB_size, bstr_size, chL_len]
theorem chp_lo : 64 ≤ chp.size := by rw [chp_size]; omega
theorem chp_hi : chp.size ≤ 1522 := by rw [chp_size]; omega
theorem chp_chk : chk chp 0 = true := chk_seal _ _
theorem chp_wh : whB chp = true := whB_iff.2 ⟨by rw [chp_size]; omega, chk_seal _ _⟩
def c60 : List Int := [60]
theorem c60_ok : okC chp.size c60 = true := by rw [chp_size]; decide
def q0 : Pc := pcI chp 2 c60 0
def q1 : Pc := pcI chp 2 c60 1
theorem cut_ch : cutA chp 2 c60 = ([q0, q1], 0) := cut_yes chp_wh (by decide) c60_ok
theorem q0_size : q0.data.size = 64 := by
  have h := pcD_size (s := chp) (cs := c60) chp_lo c60_ok (i := 0) (by decide)
  have e : (if 0 < c60.length then cu c60 0 - la c60 0 + 4 else (chp.size : Int) - la c60 0) = 64 := by decide
  rw [e] at h
  show (pcD chp c60 0).size = 64
  omega
theorem q1_size : q1.data.size = 74 := by
  have h := pcD_size (s := chp) (cs := c60) chp_lo c60_ok (i := 1) (by decide)
  have e : (if 1 < c60.length then cu c60 1 - la c60 1 + 4 else ((134 : Nat) : Int) - la c60 1) = 74 := by decide
  rw [chp_size, e] at h
  show (pcD chp c60 1).size = 74
  omega
theorem q0_ok : okP q0 = true := pcI_ok chp_lo chp_hi c60_ok (by decide) (by decide)
theorem q1_ok : okP q1 = true := pcI_ok chp_lo chp_hi c60_ok (by decide) (by decide)
def onM : Ms := ⟨true, 2, 0, chp.extract 0 60⟩
theorem on_st : onM = st chp 2 c60 1 := rfl
theorem on_ok : okM onM = true := by rw [on_st]; exact st_ok chp_lo chp_hi c60_ok (by decide) (by decide) (by decide)
theorem jn_a : jnA zM q0 = ((onM, ⟨#[]⟩), 0) := by
  rw [jn_yes okM_zero q0_ok]
  have h := jn_first (num := 2) chp_lo chp_hi chp_chk c60_ok zM
  rw [if_pos (by decide)] at h
  exact congrArg (fun x => (x, (0 : Int))) h
theorem jn_b : jnA onM q1 = ((zM, chp), 0) := by
  rw [jn_yes on_ok q1_ok]
  have h := jn_next (num := 2) (i := 1) chp_lo chp_hi chp_chk c60_ok (by decide) (by decide)
  rw [if_neg (by decide)] at h
  exact congrArg (fun x => (x, (0 : Int))) h
theorem jn_c : jnA zM q1 = ((zM, ⟨#[]⟩), 0) := by
  rw [jn_yes okM_zero q1_ok, jn_off rfl (fun h => by cases h.1)]
def q3 : Pc := { q1 with num := 3 }
theorem q3_ok : okP q3 = true := by
  obtain ⟨_, h2, h3, h4⟩ := okP_iff.1 q1_ok
  exact okP_iff.2 ⟨by show (0 : Int) ≤ 3 ∧ (3 : Int) ≤ 3; omega, h2, h3, h4⟩
theorem jn_d : jnA onM q3 = ((zM, ⟨#[]⟩), 0) := by
  rw [jn_yes on_ok q3_ok, jn_off rfl (fun h => by have := h.2.1; exact absurd this (by decide))]
theorem rf_a : cutA chp 0 [60, 70] = ([], 180) := cut_cuts chp_wh (by decide) (by rw [chp_size]; decide)
theorem rf_b : cutA chp 0 [71] = ([], 180) := cut_cuts chp_wh (by decide) (by rw [chp_size]; decide)
theorem rf_c : cutA chp 4 [] = ([], 2) := cut_arg chp_wh (by decide)
theorem z134_no : whB (cop 0 134) = false := by
  have h : chk (cop 0 134) 0 = false := by decide +kernel
  unfold whB
  rw [h, Bool.and_false]
theorem rf_d : cutA (cop 0 134) 0 [] = ([], 5) := cut_form z134_no
theorem Iz.one (W : World) (x : Int) (t : TypeId) : Iz (W.alloc (.cells #[.int .i64 x] t)) (some ⟨W.heap.size, 0, none⟩) [x] := fun k hk => by
  obtain rfl : k = 0 := by simpa using hk
  exact ⟨W.heap.size, 0, rfl, by rw [World.size_alloc]; omega, (by simp [go_sem, cu])⟩
theorem Iz.two (W : World) (x y : Int) (t : TypeId) : Iz (W.alloc (.cells #[.int .i64 x, .int .i64 y] t)) (some ⟨W.heap.size, 0, none⟩) [x, y] := fun k hk => by
  rcases (by simpa using hk : k < 2) with h
  obtain rfl | rfl : k = 0 ∨ k = 1 := by omega
  · exact ⟨W.heap.size, 0, rfl, by rw [World.size_alloc]; omega, (by simp [go_sem, cu])⟩
  · exact ⟨W.heap.size, 0, rfl, by rw [World.size_alloc]; omega, (by simp [go_sem, cu])⟩
theorem I64.small {cs : List Int} (h : ∀ k, k < cs.length → 0 ≤ cu cs k ∧ cu cs k ≤ 2000) : I64 cs := fun k hk => by have := h k hk; omega

set_option maxRecDepth 100000 in
set_option maxHeartbeats 4000000 in
theorem mworks_any (w : World) : Calls Try.prog 16 #[] w fun e w' => e = .returned (.bool true) ∧ Bl w w' := by
  have KC := Lib.hid (fun w => chapter_any w)
  have hcs : (chp.size : Int) ≤ 8000 := by rw [chp_size]; decide
  have KX := Lib.hid (fun w A c (hI : Iz w A c60) => cut_any chp hcs 2 c60 A c w (by decide) (I64.small (by decide)) hI)
  have RA := Lib.hid (fun w A c (hI : Iz w A [60, 70]) => refused_yes chp hcs 0 [60, 70] A c 180 rf_a w (by decide) (I64.small (by decide)) hI)
  have RB := Lib.hid (fun w A c (hI : Iz w A [71]) => refused_yes chp hcs 0 [71] A c 180 rf_b w (by decide) (I64.small (by decide)) hI)
  have RC := Lib.hid (fun w => refused_yes chp hcs 4 [] none 0 2 rf_c w (by decide) (fun k hk => absurd hk (by simp)) Iz.nil)
  have RD := Lib.hid (fun w => refused_yes (cop 0 134) (by rw [cop_size]; decide) 0 [] none 0 5 rf_d w (by decide) (fun k hk => absurd hk (by simp)) Iz.nil)
  have KR := Lib.hid (fun w => repeat_any 0 134 (by decide) w)
  have hz1 : (q0.data.size : Int) = 64 := by rw [q0_size]; rfl
  have hz2 : (q1.data.size : Int) = 74 := by rw [q1_size]; rfl
  have hon : ((chp.extract 0 60).size : Int) ≤ 4000 := by rw [ByteArray.size_extract, chp_size]; decide
  have JA := Lib.hid (fun w => joins_yes zM q0 onM ⟨#[]⟩ jn_a (by decide) (by omega) w)
  have JB := Lib.hid (fun w => joins_yes onM q1 zM chp jn_b hon (by omega) w)
  have JC := Lib.hid (fun w => joins_yes zM q1 zM ⟨#[]⟩ jn_c (by decide) (by omega) w)
  have JD := Lib.hid (fun w => joins_yes onM q3 zM ⟨#[]⟩ jn_d hon (by show (q1.data.size : Int) ≤ 4000; omega) w)
  rw [cut_ch] at KX
  have e0 : q0 = ⟨true, 2, 0, q0.data⟩ := rfl
  have e1 : q1 = ⟨false, 2, 0, q1.data⟩ := rfl
  have e3 : q3 = ⟨false, 3, 0, q1.data⟩ := rfl
  rw [e3] at JD
  rw [e1] at JB JC
  rw [e0] at JA
  have hPr := Lib.hid (fun (w : World) g (h : Pr w g [q0, q1]) => (show (w.cell? ⟨g, 0, none⟩ = some (.bool true) ∧ w.cell? ⟨g, 1, none⟩ = some (.int .i64 2) ∧ w.cell? ⟨g, 2, none⟩ = some (.int .i64 0) ∧ w.cell? ⟨g, 3, none⟩ = some (.string q0.data)) ∧ w.cell? ⟨g, 4, none⟩ = some (.bool false) ∧ w.cell? ⟨g, 5, none⟩ = some (.int .i64 2) ∧ w.cell? ⟨g, 6, none⟩ = some (.int .i64 0) ∧ w.cell? ⟨g, 7, none⟩ = some (.string q1.data) from ⟨⟨(h.2 0 (by show 0 < 2; omega) 0 (by omega)).1, (h.2 0 (by show 0 < 2; omega) 1 (by omega)).1, (h.2 0 (by show 0 < 2; omega) 2 (by omega)).1, (h.2 0 (by show 0 < 2; omega) 3 (by omega)).1⟩, (h.2 1 (by show 1 < 2; omega) 0 (by omega)).1, (h.2 1 (by show 1 < 2; omega) 1 (by omega)).1, (h.2 1 (by show 1 < 2; omega) 2 (by omega)).1, (h.2 1 (by show 1 < 2; omega) 3 (by omega)).1⟩))
  have hcp : (60 : Int) ≤ (chp.size : Int) := by rw [chp_size]; decide
  unfold onM at *
  unfold Ms.v Pc.v zM at *
  dsimp only at JA JB JC JD
  generalize q0.data = d0 at *
  generalize q1.data = d1 at *
  clear e0 e1 e3
  generalize chp = ch at *
  generalize cop 0 134 = z0 at *
  go_enter Try.func16, Try.ntmps16
  go_wp2_with fail
  refine (KC.out _).mono ?_; rintro e w1 ⟨rfl, g1⟩
  have G1 := Lib.hid g1; clear g1
  go_wp2_with fail
  refine (KX.out _ _ _ (Iz.one _ 60 _)).mono ?_; rintro e w2 ⟨v, rfl, hown, g2⟩
  have G2 := Lib.hid (G1.out.trans (((Bl.refl w1).alloc _).trans g2)); clear g2
  obtain ⟨_, g, c, rfl, _, _, _, hp⟩ := Pr.of_own (by decide) hown
  have HP := Lib.hid hp
  obtain ⟨⟨x0, x1, x2, x3⟩, y0, y1, y2, y3⟩ := hPr.out _ _ hp
  have hgw := hp.1
  clear hown hp
  go_wp2_with fail
  refine (RA.out _ _ _ (Iz.two w2 60 70 _)).mono ?_; rintro e w3 ⟨rfl, g3⟩
  have G3 := Lib.hid (((Bl.refl w2).alloc _).trans g3); clear g3
  go_wp2_with fail
  refine (RB.out _ _ _ (Iz.one w3 71 _)).mono ?_; rintro e w4 ⟨rfl, g4⟩
  have G4 := Lib.hid (G3.out.trans (((Bl.refl w3).alloc _).trans g4)); clear g4
  go_wp2_with fail
  refine (RC.out _).mono ?_; rintro e w5 ⟨rfl, g5⟩
  have G5 := Lib.hid (G4.out.trans g5); clear g5
  go_wp2_with fail
  refine (KR.out _).mono ?_; rintro e w6 ⟨rfl, g6⟩
  have G6 := Lib.hid (G5.out.trans g6); clear g6
  go_wp2_with fail
  refine (RD.out _).mono ?_; rintro e w7 ⟨rfl, g7⟩
  have B7 := G6.out.trans g7
  have G7 := Lib.hid (G2.out.trans B7); clear g7 G2 G3 G4 G5 G6 x0 x1 x2 x3 y0 y1 y2 y3
  obtain ⟨⟨x0, x1, x2, x3⟩, y0, y1, y2, y3⟩ := hPr.out _ _ (HP.out.go B7)
  have hg7 : g < w7.heap.size := Nat.lt_of_lt_of_le hgw B7.size
  clear B7
  go_wp2_with fail
  have GW := Lib.hid ((G7.out.alloc (.cells #[.bool true, .int .i64 2, .int .i64 0, .string (ch.extract 0 60)] 43)).alloc (.cells #[.bool false, .int .i64 3, .int .i64 0, .string d1] 45))
  have hg : g < ((w7.alloc (.cells #[.bool true, .int .i64 2, .int .i64 0, .string (ch.extract 0 60)] 43)).alloc (.cells #[.bool false, .int .i64 3, .int .i64 0, .string d1] 45)).heap.size := by simp; omega
  have ha : w7.heap.size < ((w7.alloc (.cells #[.bool true, .int .i64 2, .int .i64 0, .string (ch.extract 0 60)] 43)).alloc (.cells #[.bool false, .int .i64 3, .int .i64 0, .string d1] 45)).heap.size := by simp; omega
  have hb : w7.heap.size + 1 < ((w7.alloc (.cells #[.bool true, .int .i64 2, .int .i64 0, .string (ch.extract 0 60)] 43)).alloc (.cells #[.bool false, .int .i64 3, .int .i64 0, .string d1] 45)).heap.size := by simp
  have hc : (fun W a b => W.cell? ⟨g, 0, none⟩ = some (.bool true) ∧ W.cell? ⟨g, 1, none⟩ = some (.int .i64 2) ∧ W.cell? ⟨g, 2, none⟩ = some (.int .i64 0) ∧ W.cell? ⟨g, 3, none⟩ = some (.string d0) ∧ W.cell? ⟨g, 4, none⟩ = some (.bool false) ∧ W.cell? ⟨g, 5, none⟩ = some (.int .i64 2) ∧ W.cell? ⟨g, 6, none⟩ = some (.int .i64 0) ∧ W.cell? ⟨g, 7, none⟩ = some (.string d1) ∧ W.cell? ⟨a, 0, none⟩ = some (.bool true) ∧ W.cell? ⟨a, 1, none⟩ = some (.int .i64 2) ∧ W.cell? ⟨a, 2, none⟩ = some (.int .i64 0) ∧ W.cell? ⟨a, 3, none⟩ = some (.string (ch.extract 0 60)) ∧ W.cell? ⟨b, 0, none⟩ = some (.bool false) ∧ W.cell? ⟨b, 1, none⟩ = some (.int .i64 3) ∧ W.cell? ⟨b, 2, none⟩ = some (.int .i64 0) ∧ W.cell? ⟨b, 3, none⟩ = some (.string d1)) ((w7.alloc (.cells #[.bool true, .int .i64 2, .int .i64 0, .string (ch.extract 0 60)] 43)).alloc (.cells #[.bool false, .int .i64 3, .int .i64 0, .string d1] 45)) w7.heap.size (w7.heap.size + 1) := by
    have B8 := ((Bl.refl w7).alloc (.cells #[.bool true, .int .i64 2, .int .i64 0, .string (ch.extract 0 60)] 43)).alloc (.cells #[.bool false, .int .i64 3, .int .i64 0, .string d1] 45)
    exact ⟨(B8.cell (p := ⟨g, 0, none⟩) hg7).trans x0, (B8.cell (p := ⟨g, 1, none⟩) hg7).trans x1, (B8.cell (p := ⟨g, 2, none⟩) hg7).trans x2, (B8.cell (p := ⟨g, 3, none⟩) hg7).trans x3, (B8.cell (p := ⟨g, 4, none⟩) hg7).trans y0, (B8.cell (p := ⟨g, 5, none⟩) hg7).trans y1, (B8.cell (p := ⟨g, 6, none⟩) hg7).trans y2, (B8.cell (p := ⟨g, 7, none⟩) hg7).trans y3, by simp [go_sem], by simp [go_sem], by simp [go_sem], by simp [go_sem], by simp [go_sem], by simp [go_sem], by simp [go_sem], by simp [go_sem]⟩
  dsimp only at hc
  clear x0 x1 x2 x3 y0 y1 y2 y3 hg7 hgw HP hPr
  generalize ((w7.alloc (.cells #[.bool true, .int .i64 2, .int .i64 0, .string (ch.extract 0 60)] 43)).alloc (.cells #[.bool false, .int .i64 3, .int .i64 0, .string d1] 45)) = W at *
  generalize w7.heap.size + 1 = b at *
  generalize w7.heap.size = a at *
  have HN := Lib.hid (fun (w' : World) (gg : Bl W w') => (show w'.cell? ⟨g, 0, none⟩ = some (.bool true) ∧ w'.cell? ⟨g, 1, none⟩ = some (.int .i64 2) ∧ w'.cell? ⟨g, 2, none⟩ = some (.int .i64 0) ∧ w'.cell? ⟨g, 3, none⟩ = some (.string d0) ∧ w'.cell? ⟨g, 4, none⟩ = some (.bool false) ∧ w'.cell? ⟨g, 5, none⟩ = some (.int .i64 2) ∧ w'.cell? ⟨g, 6, none⟩ = some (.int .i64 0) ∧ w'.cell? ⟨g, 7, none⟩ = some (.string d1) ∧ w'.cell? ⟨a, 0, none⟩ = some (.bool true) ∧ w'.cell? ⟨a, 1, none⟩ = some (.int .i64 2) ∧ w'.cell? ⟨a, 2, none⟩ = some (.int .i64 0) ∧ w'.cell? ⟨a, 3, none⟩ = some (.string (ch.extract 0 60)) ∧ w'.cell? ⟨b, 0, none⟩ = some (.bool false) ∧ w'.cell? ⟨b, 1, none⟩ = some (.int .i64 3) ∧ w'.cell? ⟨b, 2, none⟩ = some (.int .i64 0) ∧ w'.cell? ⟨b, 3, none⟩ = some (.string d1) ∧ Hid (Bl W w') from ⟨(gg.cell (p := ⟨g, 0, none⟩) hg).trans (hc.1), (gg.cell (p := ⟨g, 1, none⟩) hg).trans (hc.2.1), (gg.cell (p := ⟨g, 2, none⟩) hg).trans (hc.2.2.1), (gg.cell (p := ⟨g, 3, none⟩) hg).trans (hc.2.2.2.1), (gg.cell (p := ⟨g, 4, none⟩) hg).trans (hc.2.2.2.2.1), (gg.cell (p := ⟨g, 5, none⟩) hg).trans (hc.2.2.2.2.2.1), (gg.cell (p := ⟨g, 6, none⟩) hg).trans (hc.2.2.2.2.2.2.1), (gg.cell (p := ⟨g, 7, none⟩) hg).trans (hc.2.2.2.2.2.2.2.1), (gg.cell (p := ⟨a, 0, none⟩) ha).trans (hc.2.2.2.2.2.2.2.2.1), (gg.cell (p := ⟨a, 1, none⟩) ha).trans (hc.2.2.2.2.2.2.2.2.2.1), (gg.cell (p := ⟨a, 2, none⟩) ha).trans (hc.2.2.2.2.2.2.2.2.2.2.1), (gg.cell (p := ⟨a, 3, none⟩) ha).trans (hc.2.2.2.2.2.2.2.2.2.2.2.1), (gg.cell (p := ⟨b, 0, none⟩) hb).trans (hc.2.2.2.2.2.2.2.2.2.2.2.2.1), (gg.cell (p := ⟨b, 1, none⟩) hb).trans (hc.2.2.2.2.2.2.2.2.2.2.2.2.2.1), (gg.cell (p := ⟨b, 2, none⟩) hb).trans (hc.2.2.2.2.2.2.2.2.2.2.2.2.2.2.1), (gg.cell (p := ⟨b, 3, none⟩) hb).trans (hc.2.2.2.2.2.2.2.2.2.2.2.2.2.2.2), Lib.hid gg⟩))
  clear hc hg ha hb
  have GZ := Lib.hid (Bl.refl W)
  go_region_held3 (fun w' => w'.cell? ⟨g, 0, none⟩ = some (.bool true) ∧ w'.cell? ⟨g, 1, none⟩ = some (.int .i64 2) ∧ w'.cell? ⟨g, 2, none⟩ = some (.int .i64 0) ∧ w'.cell? ⟨g, 3, none⟩ = some (.string d0) ∧ w'.cell? ⟨g, 4, none⟩ = some (.bool false) ∧ w'.cell? ⟨g, 5, none⟩ = some (.int .i64 2) ∧ w'.cell? ⟨g, 6, none⟩ = some (.int .i64 0) ∧ w'.cell? ⟨g, 7, none⟩ = some (.string d1) ∧ w'.cell? ⟨a, 0, none⟩ = some (.bool true) ∧ w'.cell? ⟨a, 1, none⟩ = some (.int .i64 2) ∧ w'.cell? ⟨a, 2, none⟩ = some (.int .i64 0) ∧ w'.cell? ⟨a, 3, none⟩ = some (.string (ch.extract 0 60)) ∧ w'.cell? ⟨b, 0, none⟩ = some (.bool false) ∧ w'.cell? ⟨b, 1, none⟩ = some (.int .i64 3) ∧ w'.cell? ⟨b, 2, none⟩ = some (.int .i64 0) ∧ w'.cell? ⟨b, 3, none⟩ = some (.string d1) ∧ Hid (Bl W w')) (first | with_reducible assumption | exact HN.out _ GZ.out.drew | (refine HN.out _ ?_; with_reducible refine Bl.trans ?_ hgr; rename _ ∧ _ ∧ _ ∧ _ ∧ _ ∧ _ ∧ _ ∧ _ ∧ _ ∧ _ ∧ _ ∧ _ ∧ _ ∧ _ ∧ _ ∧ _ ∧ Hid (Bl W _) => hq; exact hq.2.2.2.2.2.2.2.2.2.2.2.2.2.2.2.2.out) | fail) (first | (go_at_call 30; (with_reducible refine (JA.out _).mono ?_); rintro e wn ⟨rfl, hgr⟩) | (go_at_call 30; (with_reducible refine (JB.out _).mono ?_); rintro e wn ⟨rfl, hgr⟩) | (go_at_call 30; (with_reducible refine (JC.out _).mono ?_); rintro e wn ⟨rfl, hgr⟩) | (go_at_call 30; (with_reducible refine (JD.out _).mono ?_); rintro e wn ⟨rfl, hgr⟩) | fail)
  all_goals (rename _ ∧ _ ∧ _ ∧ _ ∧ _ ∧ _ ∧ _ ∧ _ ∧ _ ∧ _ ∧ _ ∧ _ ∧ _ ∧ _ ∧ _ ∧ _ ∧ Hid (Bl W _) => hq)
  all_goals (have HE := Lib.hid (GW.out.trans hq.2.2.2.2.2.2.2.2.2.2.2.2.2.2.2.2.out))
  all_goals (clear hq)
  go_wp2_with fail
  go_ret
  exact ⟨rfl, HE.out⟩

end Go.Proofs.Ytnapelocjcoofaa
