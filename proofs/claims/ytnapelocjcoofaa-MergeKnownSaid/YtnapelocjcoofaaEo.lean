/-
  What Pieces of the reference's Draft and Same return.
-/
import Derived.Test.YtnapelocjcoofaaEn
import Derived.Deep.RegionHeld3
namespace Go.Proofs.Ytnapelocjcoofaa
open Go.RowKit Go.Proofs.Ytnapelocjcoofaa.Cr

theorem ivs_get {cs : List Int} {j : Nat} (h : j < cs.length) : (ivs cs)[j]? = some (.int .i64 (cu cs j)) := by
  unfold ivs cu
  rw [List.getElem?_map, List.getD_eq_getElem?_getD, List.getElem?_eq_getElem h]
  rfl
/-- A slice of one's own, as it is read. -/
theorem Iz.of_own {w : World} {base n : Nat} {v : Value} {cs : List Int} (h : w.ownsRow base 3 1 v n (ivs cs)) : n = cs.length ∧ ∃ A c, v = .slice A n c ∧ n ≤ c ∧ c ≤ maxLen ∧ Iz w A cs := by
  have hl : n = cs.length := by have := h.1; unfold ivs at this; rw [List.length_map] at this; omega
  subst hl
  refine ⟨rfl, ?_⟩
  rcases h.2 with ⟨rfl, h0⟩ | ⟨g, cap, cur, rfl, hb, hg, h1, h2, h3, h4⟩
  · rw [List.length_eq_zero_iff.1 h0]
    exact ⟨none, 0, rfl, Nat.le_refl _, by unfold maxLen; omega, Iz.nil⟩
  · refine ⟨_, cap, rfl, h1, h2, fun j hj => ⟨g, 0, rfl, heap_lt hg, ?_⟩⟩
    have h5 := ivs_get hj
    rw [← h4, List.getElem?_take_of_lt (by omega)] at h5
    rw [cell_of_row w g _ cur _ (0, 0) hg, Nat.zero_add]
    simpa using h5
theorem okC_i64 {n : Nat} {cs : List Int} (h : okC n cs = true) (hn : n ≤ 1522) : I64 cs := fun k hk => by
  have := (okC_iff.1 h) k hk
  omega
/-- A draft's cuts, pieces. -/
def dcs (d : ByteArray) (L : Nat) (us : List Nat) (mo : Nat) : List Int := ofs (frm d L).size us (min us.length mo)
def dps (d : ByteArray) (L N : Nat) (us : List Nat) (mo : Nat) : List Pc := upto (pcI (frm d L) ((N : Int) % 4) (dcs d L us mo)) ((dcs d L us mo).length + 1)
theorem dcs_ok (d : ByteArray) (L : Nat) (us : List Nat) (mo : Nat) : okC (frm d L).size (dcs d L us mo) = true := ofs_ok _ _ _
theorem dcs_len (d : ByteArray) (L : Nat) (us : List Nat) (mo : Nat) : (dcs d L us mo).length ≤ mo := Nat.le_trans (ofs_len _ _ _) (Nat.min_le_right _ _)
theorem dps_cut (d : ByteArray) (L N : Nat) (us : List Nat) (mo : Nat) : cutA (frm d L) ((N : Int) % 4) (dcs d L us mo) = (dps d L N us mo, 0) := cut_yes (frm_wh d L) (decide_eq_true (by omega)) (dcs_ok d L us mo)
/-- Four cells and what lay before, in each world behind. -/
theorem c4_keep {W w' : World} {b : Nat} {c0 c1 c2 c3 : Value} (hb : b < W.heap.size) (h : W.cell? ⟨b, 0, none⟩ = some c0 ∧ W.cell? ⟨b, 1, none⟩ = some c1 ∧ W.cell? ⟨b, 2, none⟩ = some c2 ∧ W.cell? ⟨b, 3, none⟩ = some c3) (g : Bl W w') : w'.cell? ⟨b, 0, none⟩ = some c0 ∧ w'.cell? ⟨b, 1, none⟩ = some c1 ∧ w'.cell? ⟨b, 2, none⟩ = some c2 ∧ w'.cell? ⟨b, 3, none⟩ = some c3 ∧ Hid (Bl W w') :=
  ⟨(g.cell hb).trans h.1, (g.cell hb).trans h.2.1, (g.cell hb).trans h.2.2.1, (g.cell hb).trans h.2.2.2, Lib.hid g⟩
theorem c4_new (w : World) (t1 : TypeId) (c0 c1 c2 c3 : Value) : let W := w.alloc (.cells #[c0, c1, c2, c3] t1); let b := w.heap.size; W.cell? ⟨b, 0, none⟩ = some c0 ∧ W.cell? ⟨b, 1, none⟩ = some c1 ∧ W.cell? ⟨b, 2, none⟩ = some c2 ∧ W.cell? ⟨b, 3, none⟩ = some c3 := by
  simp [go_sem]

set_option maxRecDepth 100000 in
set_option maxHeartbeats 4000000 in
theorem dpieces_any (d : ByteArray) (L N : Nat) (hL : L < 65536) (hN : N < 256) (A : Option Addr) (us : List Nat) (c : Nat) (hd : d.size ≤ maxLen) (hl : (us.length : Int) ≤ 9223372036854775807) (mo : Nat) {MO : Int} (hMO : (mo : Int) = MO) (hmo : mo ≤ 30) (w : World) (hU : Uz w A us) :
    Calls Try.prog 18 #[drV d L N A us.length c, .int .i64 MO] w (PcRes w (dps d L N us mo)) := by
  have hc := c4_new w 25 (.string d) (.int .u16 (L : Int)) (.int .u8 (N : Int)) (.slice A us.length c)
  have hb : w.heap.size < (w.alloc (.cells #[.string d, .int .u16 (L : Int), .int .u8 (N : Int), .slice A us.length c] 25)).heap.size := by simp
  have G0 := Lib.hid ((Bl.refl w).alloc (.cells #[.string d, .int .u16 (L : Int), .int .u8 (N : Int), .slice A us.length c] 25))
  dsimp only at hc
  have KF := Lib.hid (fun w => frame_any d L N hL A us.length c hd w)
  have HUZ := Lib.hid (hU.go G0.out)
  have hcl := dcs_len d L us mo
  have KC := Lib.hid (fun w' A2 c2 (hI : Iz w' A2 (dcs d L us mo)) => rcut_any (frm d L) (by have := frm_hi d L; omega) ((N : Int) % 4) (by omega) (dcs d L us mo) A2 c2 w' (by omega) (okC_i64 (dcs_ok d L us mo) (frm_hi d L)) hI)
  rw [dps_cut] at KC
  have KO := Lib.hid (fun (w' : World) (hU : Uz w' A us) => offsets_any d L N hL A us c hd hl mo hMO hmo w' hU)
  rw [show ofs (frm d L).size us (min us.length mo) = dcs d L us mo from rfl] at KO
  unfold CutRes at KC
  unfold CutsRes at KO
  unfold PcRes
  unfold drV at *
  generalize frm d L = F at *
  generalize dps d L N us mo = ps at *
  generalize dcs d L us mo = cs at *
  go_enter Try.func18, Try.ntmps18
  go_wp2_with fail
  generalize hbb : w.heap.size = b at *
  generalize w.alloc (.cells #[.string d, .int .u16 (L : Int), .int .u8 (N : Int), .slice A us.length c] 25) = W at *
  have HN := Lib.hid (fun (w' : World) (g : Bl W w') => c4_keep hb hc g)
  clear hc hb
  have GZ := Lib.hid (Bl.refl W)
  have hN0 : 0 ≤ (N : Int) := by omega
  have hN1 : (N : Int) ≤ 255 := by omega
  have et : (N : Int).tmod 4 = (N : Int) % 4 := Int.tmod_eq_emod_of_nonneg hN0
  have ew : IntKind.i64.wrap ((N : Int) % 4) = (N : Int) % 4 := IntWalk.i64_in _ (by omega)
  go_region_held3 (fun w' => w'.cell? ⟨b, 0, none⟩ = some (.string d) ∧ w'.cell? ⟨b, 1, none⟩ = some (.int .u16 (L : Int)) ∧ w'.cell? ⟨b, 2, none⟩ = some (.int .u8 (N : Int)) ∧ w'.cell? ⟨b, 3, none⟩ = some (.slice A us.length c) ∧ Hid (Bl W w')) (first | with_reducible assumption | exact HN.out _ GZ.out.drew | (refine HN.out _ ?_; with_reducible refine Bl.trans ?_ hgr; rename _ ∧ _ ∧ _ ∧ _ ∧ Hid (Bl W _) => hq; exact hq.2.2.2.2.out) | fail) (first | (go_at_call 11; (with_reducible refine (KF.out _).mono ?_); rintro e wn ⟨rfl, hgr⟩; try (have HIz := Lib.hid (HIz.out.go hgr))) | (go_at_call 10; (with_reducible refine (KO.out _ ?_).mono ?_); (rename _ ∧ _ ∧ _ ∧ _ ∧ Hid (Bl W _) => hq; exact HUZ.out.go hq.2.2.2.2.out); rintro e wn ⟨v, rfl, hown, hgr⟩; obtain ⟨_, A2, c2, rfl, _, _, hiz⟩ := Iz.of_own hown; have HIz := Lib.hid hiz; clear hiz hown) | (go_at_call 14; (with_reducible refine (KC.out _ _ _ HIz.out).mono ?_); rename _ ∧ _ ∧ _ ∧ _ ∧ Hid (Bl W _) => hq; have hbs := hq.2.2.2.2.out.size; rintro e wn ⟨v3, rfl, hown3, hgr⟩; have HO3 := Lib.hid (own_base hown3 hbs); clear hown3) | fail)
  rename _ ∧ _ ∧ _ ∧ _ ∧ Hid (Bl W _) => hz
  have HZ := hz.2.2.2.2
  clear hz
  go_wp2_with fail
  go_ret
  exact ⟨v3, rfl, own_base HO3.out (by first | exact G0.out.size | (rw [← hbb]; exact G0.out.size)), G0.out.trans HZ.out⟩

/-- A slice of pieces, in memory. -/
def Pz (w : World) (A : Option Addr) (ps : List Pc) : Prop :=
  ∀ k, k < ps.length → ∃ b off, A = some ⟨b, off, none⟩ ∧ b < w.heap.size ∧ ∀ i, i < 4 → w.cell? ⟨b, off + k * 4 + i, none⟩ = some ((ps.getD k ⟨false, 0, 0, ⟨#[]⟩⟩).l.getD i undef)
theorem Pz.go {w w' : World} {A : Option Addr} {ps : List Pc} (h : Pz w A ps) (g : Bl w w') : Pz w' A ps := fun k hk => by
  obtain ⟨b, off, h1, h2, h3⟩ := h k hk
  exact ⟨b, off, h1, Nat.lt_of_lt_of_le h2 g.size, fun i hi => (g.cell (p := ⟨b, _, none⟩) h2).trans (h3 i hi)⟩
theorem pl_len (p : Pc) : p.l.length = 4 := rfl
theorem flP_len (ps : List Pc) : (flP ps).length = ps.length * 4 := by
  unfold flP
  rw [flatR_len (k := 4) (by intro r hr; obtain ⟨p, _, rfl⟩ := List.mem_map.1 hr; rfl), List.length_map]
theorem Pz.of_own {w : World} {base n : Nat} {v : Value} {ps : List Pc} (h : w.ownsRow base 45 4 v n (flP ps)) : n = ps.length ∧ ∃ A c, v = .slice A n c ∧ n ≤ c ∧ c ≤ maxLen ∧ Pz w A ps ∧ ∀ b off, A = some ⟨b, off, none⟩ → base ≤ b := by
  obtain ⟨h1, A, c, h2, h3, h4, h5, h6⟩ := Rs.of_own (rs := ps.map Pc.l) (by omega) (by intro r hr; obtain ⟨p, _, rfl⟩ := List.mem_map.1 hr; rfl) h
  rw [List.length_map] at h1
  refine ⟨h1, A, c, h2, h3, h4, fun k hk => ?_, h6⟩
  obtain ⟨b, off, e1, e2, e3⟩ := h5 k (by rw [List.length_map]; exact hk)
  refine ⟨b, off, e1, e2, fun i hi => ?_⟩
  rw [e3 i hi]
  simp [List.getD_eq_getElem?_getD, hk]
theorem Pz.four {w : World} {b off : Nat} {p : Pc} (h : ∀ i, i < 4 → w.cell? ⟨b, off + i, none⟩ = some (p.l.getD i undef)) : w.cell? ⟨b, off, none⟩ = some (.bool p.start) ∧ w.cell? ⟨b, off + 1, none⟩ = some (.int .i64 p.num) ∧ w.cell? ⟨b, off + 2, none⟩ = some (.int .i64 p.cnt) ∧ w.cell? ⟨b, off + 3, none⟩ = some (.string p.data) :=
  ⟨h 0 (by omega), h 1 (by omega), h 2 (by omega), h 3 (by omega)⟩

set_option maxRecDepth 100000 in
set_option maxHeartbeats 1000000 in
theorem same_any (ps : List Pc) (hl : (ps.length : Int) ≤ 9223372036854775807) (A B : Option Addr) (c1 c2 : Nat) (w : World) (hA : Pz w A ps) (hB : Pz w B ps) :
    Calls Try.prog 15 #[.slice A ps.length c1, .slice B ps.length c2] w fun e w' => e = .returned (.bool true) ∧ Bl w w' := by
  have HA := Lib.hid hA; have HB := Lib.hid hB
  clear hA hB
  go_enter Try.func15, Try.ntmps15
  go_wp2
  go_loopw [5] (fun iv wr => ∃ k : Nat, k ≤ ps.length ∧ iv = .int .i64 k ∧ Hid (Bl w wr)) (fun iv _ => ps.length - (intOf iv).toNat)
  case atStart => exact ⟨0, Nat.zero_le _, rfl, Bl.refl _⟩
  case round =>
    obtain ⟨k, hk, rfl, hw⟩ := hrel
    by_cases hlt : k < ps.length
    · obtain ⟨b, off, ea, hb, h4⟩ := HA.out.go hw.out k hlt
      obtain ⟨b', off', ea', hb', h4'⟩ := HB.out.go hw.out k hlt
      obtain ⟨x0, x1, x2, x3⟩ := Pz.four h4
      obtain ⟨y0, y1, y2, y3⟩ := Pz.four h4'
      clear h4 h4'
      generalize ps.getD k ⟨false, 0, 0, ⟨#[]⟩⟩ = pp at *
      obtain ⟨s, n, q, z⟩ := pp
      dsimp only at x0 x1 x2 x3 y0 y1 y2 y3
      subst ea; subst ea'
      go_wp2_with fail
      go_quiet (fail)
      go_wp2_with fail
      go_roundw
      case rel => exact ⟨k + 1, by omega, by go_num, hw.out.drewN _⟩
      case measure => simp [intOf]; omega
    · go_wp2
      go_ret
      exact ⟨rfl, hw.out⟩

end Go.Proofs.Ytnapelocjcoofaa
