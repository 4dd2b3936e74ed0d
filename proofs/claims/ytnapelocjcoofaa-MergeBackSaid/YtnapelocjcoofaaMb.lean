/-
  MergeBack: the pieces of a frame, joined in order from whatever state other pieces leave, yield the frame at the last piece.
-/
import Derived.Test.YtnapelocjcoofaaEr
import Derived.Deep.CutBlock
namespace Go.Proofs.Ytnapelocjcoofaa
open Go.RowKit Go.Proofs.Ytnapelocjcoofaa.Cr

/-- The number of octets of the first k pieces. -/
def lng (s : ByteArray) (cs : List Int) (k : Nat) : Int := if k ≤ cs.length then la cs k + 4 * k else (s.size : Int) + 4 * cs.length
theorem lng_step {s : ByteArray} {cs : List Int} (h64 : 64 ≤ s.size) (hc : okC s.size cs = true) {k : Nat} (hk : k ≤ cs.length) : lng s cs (k + 1) = lng s cs k + ((pcD s cs k).size : Int) := by
  rw [pcD_size h64 hc hk]
  unfold lng
  rw [if_pos hk]
  split
  · rw [if_pos (by omega), la_succ]; omega
  · rw [if_neg (by omega)]
    have : k = cs.length := by omega
    subst this
    omega
theorem lng_in {s : ByteArray} {cs : List Int} (h64 : 64 ≤ s.size) (hm : s.size ≤ 1522) (hc : okC s.size cs = true) (k : Nat) (hk : k ≤ cs.length) : 0 ≤ lng s cs k ∧ lng s cs k ≤ 2000 := by
  have h1 := la_le hc h64 hk
  have h2 := la_nonneg hc hk
  have h3 := few hc h64 hm
  unfold lng
  rw [if_pos hk]
  omega
theorem mk_data {s : ByteArray} {num : Int} {cs : List Int} {k : Nat} (hk : k < cs.length) : (mk s num cs (k + 1)).data = s.extract 0 (cu cs k).toNat := by
  unfold mk
  rw [if_neg (by omega), if_pos (by omega)]
  show s.extract 0 (la cs (k + 1)).toNat = _
  rw [la_succ]
theorem mk_last {s : ByteArray} {num : Int} {cs : List Int} : mk s num cs (cs.length + 1) = zM := by
  unfold mk
  rw [if_neg (by omega), if_neg (by omega)]

theorem any_join {s : ByteArray} {num : Int} {cs : List Int} (h64 : 64 ≤ s.size) (hm : s.size ≤ 1522) (hg : chk s 0 = true) (hc : okC s.size cs = true) (hn : 0 ≤ num ∧ num ≤ 3) {k : Nat} (hk : k ≤ cs.length) {m : Ms} (hok : okM m = true) (h : k = 0 ∨ m = mk s num cs k) :
    jnA m (pcI s num cs k) = ((mk s num cs (k + 1), if k < cs.length then ⟨#[]⟩ else s), 0) := by
  rcases h with rfl | rfl
  · rw [jn_yes hok (pcI_ok h64 hm hc hn hk), jn_first h64 hm hg hc]
    unfold mk
    split
    · rw [if_neg (by omega), if_pos (by omega)]
    · rw [if_neg (by omega), if_neg (by omega)]
  · exact mk_join h64 hm hg hc hn hk
theorem Iz.far {w : World} {A : Option Addr} {cs : List Int} (h : Iz w A cs) {p : Addr} (hp : ∀ b off, A = some ⟨b, off, none⟩ → 0 < cs.length → b ≠ p.block) (x : Value) : Iz (w.setCell p x) A cs := fun k hk => by
  obtain ⟨b, off, h1, h2, h3⟩ := h k hk
  exact ⟨b, off, h1, by rw [World.size_setCell]; exact h2, by rw [World.cell?_setCell_other _ _ _ _ (by intro h'; exact hp b off h1 (by omega) (by rw [h']))]; exact h3⟩
theorem Iz.far4 {w : World} {A : Option Addr} {cs : List Int} (h : Iz w A cs) {mb : Nat} (hp : ∀ b off, A = some ⟨b, off, none⟩ → 0 < cs.length → b ≠ mb) (v0 v1 v2 v3 : Value) : Iz ((((w.setCell ⟨mb, 0, none⟩ v0).setCell ⟨mb, 1, none⟩ v1).setCell ⟨mb, 2, none⟩ v2).setCell ⟨mb, 3, none⟩ v3) A cs :=
  (((h.far (p := ⟨mb, 0, none⟩) hp v0).far (p := ⟨mb, 1, none⟩) hp v1).far (p := ⟨mb, 2, none⟩) hp v2).far (p := ⟨mb, 3, none⟩) hp v3
theorem Pr.far4 {w : World} {g : Nat} {ps : List Pc} (h : Pr w g ps) {mb : Nat} (hp : mb ≠ g) (v0 v1 v2 v3 : Value) : Pr ((((w.setCell ⟨mb, 0, none⟩ v0).setCell ⟨mb, 1, none⟩ v1).setCell ⟨mb, 2, none⟩ v2).setCell ⟨mb, 3, none⟩ v3) g ps :=
  (((h.far (p := ⟨mb, 0, none⟩) hp v0).far (p := ⟨mb, 1, none⟩) hp v1).far (p := ⟨mb, 2, none⟩) hp v2).far (p := ⟨mb, 3, none⟩) hp v3

set_option maxRecDepth 100000 in
set_option maxHeartbeats 8000000 in
theorem back_law (d : ByteArray) (L N : Nat) (hL : L < 65536) (hN : N < 256) (A : Option Addr) (us : List Nat) (c : Nat) (hd : d.size ≤ maxLen) (hl : (us.length : Int) ≤ 9223372036854775807)
    (d' : ByteArray) (L' N' : Nat) (hL' : L' < 65536) (hN' : N' < 256) (A' : Option Addr) (us' : List Nat) (c' : Nat) (hd' : d'.size ≤ maxLen) (hl' : (us'.length : Int) ≤ 9223372036854775807) (B : Nat) (hB : B < 256) (w : World) (hU : Uz w A us) (hU' : Uz w A' us') :
    Calls Try.prog 5 #[.agg #[.string d, .int .u16 (L : Int), .int .u8 (N : Int), .slice A us.length c, .string d', .int .u16 (L' : Int), .int .u8 (N' : Int), .slice A' us'.length c'], .int .u8 (B : Int)] w fun e w' => e = .returned (.bool true) ∧ Bl w w' := by
  have KW := Lib.hid (fun w => mworks_any w)
  have KF := Lib.hid (fun w => frame_any d L N hL A us.length c hd w)
  have KO := Lib.hid (fun w hU => offsets_any d L N hL A us c hd hl 30 (MO := 30) rfl (by decide) w hU)
  have KP := Lib.hid (fun w hU => dpieces_any d' L' N' hL' hN' A' us' c' hd' hl' 30 (MO := 30) rfl (by decide) w hU)
  have hco := dcs_ok d L us 30
  have hcl := dcs_len d L us 30
  have h1 := frm_lo d L
  have h2 := frm_hi d L
  have h3 := frm_chk d L
  have hnum : 0 ≤ (N : Int) % 4 ∧ (N : Int) % 4 ≤ 3 := by omega
  have hco' := dcs_ok d' L' us' 30
  have hcl' := dcs_len d' L' us' 30
  have h1' := frm_lo d' L'
  have h2' := frm_hi d' L'
  have h3' := frm_chk d' L'
  have hnum' : 0 ≤ (N' : Int) % 4 ∧ (N' : Int) % 4 ≤ 3 := by omega
  have hcut := cut_yes (s := frm d L) (num := (N : Int) % 4) (cs := dcs d L us 30) (frm_wh d L) (decide_eq_true (by omega)) hco
  rw [show ofs (frm d L).size us (min us.length 30) = dcs d L us 30 from rfl] at KO
  unfold PcRes dps at KP
  unfold CutsRes at KO
  unfold drV at KF KO KP
  have hN0 : 0 ≤ (N : Int) := by omega
  have hN1 : (N : Int) ≤ 255 := by omega
  have et : (N : Int).tmod 4 = (N : Int) % 4 := Int.tmod_eq_emod_of_nonneg hN0
  have ew : IntKind.i64.wrap ((N : Int) % 4) = (N : Int) % 4 := IntWalk.i64_in _ (by omega)
  generalize hFF : frm d L = F at *
  generalize hCC : dcs d L us 30 = cs at *
  generalize frm d' L' = F' at *
  generalize dcs d' L' us' 30 = cs' at *
  clear hFF hCC
  generalize hnn : (N : Int) % 4 = nu at *
  generalize (N' : Int) % 4 = nu' at *
  have KC := Lib.hid (fun w A2 c2 (hI : Iz w A2 cs) => cut_any F (by omega) nu cs A2 c2 w (by omega) (okC_i64 hco h2) hI)
  rw [hcut] at KC
  unfold CutRes at KC
  dsimp only at KC
  clear hcut
  rw [upto_length] at KP KC
  have HPS := Lib.hid (show ∀ k, k ≤ cs.length → (upto (pcI F nu cs) (cs.length + 1)).getD k ⟨false, 0, 0, ⟨#[]⟩⟩ = pcI F nu cs k from fun k hk => upto_get _ _ _ _ (by omega))
  have HPL := Lib.hid (show (upto (pcI F nu cs) (cs.length + 1)).length = cs.length + 1 from upto_length _ _)
  have HPS' := Lib.hid (show ∀ k, k ≤ cs'.length → (upto (pcI F' nu' cs') (cs'.length + 1)).getD k ⟨false, 0, 0, ⟨#[]⟩⟩ = pcI F' nu' cs' k from fun k hk => upto_get _ _ _ _ (by omega))
  have HPL' := Lib.hid (show (upto (pcI F' nu' cs') (cs'.length + 1)).length = cs'.length + 1 from upto_length _ _)
  generalize hPP : upto (pcI F nu cs) (cs.length + 1) = ps at *
  generalize hPP' : upto (pcI F' nu' cs') (cs'.length + 1) = ps' at *
  clear hPP hPP'
  have HU := Lib.hid hU
  have HU' := Lib.hid hU'
  clear hU hU'
  have MJ := Lib.hid (fun k (hk : k ≤ cs.length) (m : Ms) hok hm => any_join (num := nu) (m := m) h1 h2 h3 hco hnum hk hok hm)
  have MS := Lib.hid (fun k => mk_size (s := F) (num := nu) (cs := cs) h2 k)
  have MJ' := Lib.hid (fun k (hk : k ≤ cs'.length) => mk_join (num := nu') h1' h2' h3' hco' hnum' hk)
  have MS' := Lib.hid (fun k => mk_size (s := F') (num := nu') (cs := cs') h2' k)
  have PO := Lib.hid (fun k (hk : k ≤ cs.length) => pcI_ok (num := nu) h1 h2 hco hnum hk)
  have PO' := Lib.hid (fun k (hk : k ≤ cs'.length) => pcI_ok (num := nu') h1' h2' hco' hnum' hk)
  have MO := Lib.hid (fun k => mk_ok (num := nu) h1 h2 hco hnum k)
  have MO' := Lib.hid (fun k => mk_ok (num := nu') h1' h2' hco' hnum' k)
  have LS := Lib.hid (fun k (hk : k ≤ cs.length) => lng_step h1 hco hk)
  have LI := Lib.hid (fun k (hk : k ≤ cs.length) => lng_in h1 h2 hco k hk)
  have ML := Lib.hid (mk_last (s := F) (num := nu) (cs := cs))
  have MD := Lib.hid (fun k (hk : k < cs.length) => mk_data (s := F) (num := nu) hk)
  have LE := Lib.hid (show lng F cs (cs.length + 1) = (F.size : Int) + 4 * cs.length by unfold lng; rw [if_neg (by omega)])
  have CI := Lib.hid (fun k (hk : k < cs.length) => (okC_iff.1 hco) k hk)
  clear hco hco'
  generalize hK : cs.length = K at *
  generalize hK' : cs'.length = K' at *
  have HK := Lib.hid hK
  clear hK hK'
  go_enter Try.func5, Try.ntmps5
  go_wp2_with fail
  refine (KW.out _).mono ?_; rintro e w1 ⟨rfl, g1⟩
  have HBX := Lib.hid ((Bk.new w [.string d, .int .u16 (L : Int), .int .u8 (N : Int), .slice A us.length c, .string d', .int .u16 (L' : Int), .int .u8 (N' : Int), .slice A' us'.length c'] 46).bl g1)
  have G1 := Lib.hid (((Bl.refl w).alloc (.cells #[.string d, .int .u16 (L : Int), .int .u8 (N : Int), .slice A us.length c, .string d', .int .u16 (L' : Int), .int .u8 (N' : Int), .slice A' us'.length c'] 46)).trans g1); clear g1
  have x0 := HBX.out.at 0 (by show 0 < 8; omega) (v := .string d) rfl
  have x1 := HBX.out.at 1 (by show 1 < 8; omega) (v := .int .u16 (L : Int)) rfl
  have x2 := HBX.out.at 2 (by show 2 < 8; omega) (v := .int .u8 (N : Int)) rfl
  have x3 := HBX.out.at 3 (by show 3 < 8; omega) (v := .slice A us.length c) rfl
  go_wp2_with fail
  refine (KF.out _).mono ?_; rintro e w2 ⟨rfl, g2⟩
  replace HBX := Lib.hid (HBX.out.bl g2)
  replace G1 := Lib.hid (G1.out.trans g2)
  clear g2 x0 x1 x2 x3
  have x0 := HBX.out.at 0 (by show 0 < 8; omega) (v := .string d) rfl
  have x1 := HBX.out.at 1 (by show 1 < 8; omega) (v := .int .u16 (L : Int)) rfl
  have x2 := HBX.out.at 2 (by show 2 < 8; omega) (v := .int .u8 (N : Int)) rfl
  have x3 := HBX.out.at 3 (by show 3 < 8; omega) (v := .slice A us.length c) rfl
  go_wp2_with fail
  refine (KO.out _ (HU.out.go G1.out)).mono ?_; rintro e w3 ⟨v1, rfl, hown1, g3⟩
  replace HBX := Lib.hid (HBX.out.bl g3)
  replace G1 := Lib.hid (G1.out.trans g3)
  obtain ⟨-, A1, c1, rfl, -, -, hiz⟩ := Iz.of_own hown1
  have HIZ := Lib.hid hiz
  have HIA := Lib.hid (show ∀ b off, A1 = some ⟨b, off, none⟩ → 0 < K → b < w3.heap.size from fun b off e h0 => by
    obtain ⟨b', off', e1, e2, _⟩ := hiz 0 (by rw [HK.out]; exact h0)
    rw [e] at e1
    cases e1
    exact e2)
  clear g3 x0 x1 x2 x3 hown1 hiz
  have x0 := HBX.out.at 0 (by show 0 < 8; omega) (v := .string d) rfl
  have x1 := HBX.out.at 1 (by show 1 < 8; omega) (v := .int .u16 (L : Int)) rfl
  have x2 := HBX.out.at 2 (by show 2 < 8; omega) (v := .int .u8 (N : Int)) rfl
  have x3 := HBX.out.at 3 (by show 3 < 8; omega) (v := .slice A us.length c) rfl
  go_wp2_with fail
  refine (KC.out _ _ _ HIZ.out).mono ?_; rintro e w4 ⟨v2, rfl, hown2, g4⟩
  obtain ⟨-, g, c2, rfl, hbg, hc1, hc2, hpr⟩ := Pr.of_own (by omega) hown2
  have hgw : w.heap.size ≤ g := Nat.le_trans G1.out.size hbg
  have HPR := Lib.hid (hpr.go ((Bl.refl _).alloc (.cells #[.bool false, .int .i64 0, .int .i64 0, .string ⟨#[]⟩] 43)))
  have hgl := hpr.1
  replace HBX := Lib.hid ((HBX.out.bl g4).alloc (.cells #[.bool false, .int .i64 0, .int .i64 0, .string ⟨#[]⟩] 43))
  replace G1 := Lib.hid ((G1.out.trans g4).alloc (.cells #[.bool false, .int .i64 0, .int .i64 0, .string ⟨#[]⟩] 43))
  replace HIZ := Lib.hid ((HIZ.out.go g4).go ((Bl.refl _).alloc (.cells #[.bool false, .int .i64 0, .int .i64 0, .string ⟨#[]⟩] 43)))
  replace HIA := Lib.hid (fun b off e h0 => Nat.lt_of_lt_of_le (HIA.out b off e h0) g4.size)
  have HM := Lib.hid (Bk.new w4 [.bool false, .int .i64 0, .int .i64 0, .string ⟨#[]⟩] 43)
  have hmw : w.heap.size ≤ w4.heap.size := by have := G1.out.size; simp at this; exact Nat.le_of_lt_succ (Nat.lt_of_le_of_ne (by omega) (fun e => by have := HBX.out.1; simp at this; omega))
  have hmg : g ≠ w4.heap.size := Nat.ne_of_lt hgl
  clear g4 x0 x1 x2 x3 hown2 hpr hbg hgl
  have x4 := HBX.out.at 4 (by show 4 < 8; omega) (v := .string d') rfl
  have x5 := HBX.out.at 5 (by show 5 < 8; omega) (v := .int .u16 (L' : Int)) rfl
  have x6 := HBX.out.at 6 (by show 6 < 8; omega) (v := .int .u8 (N' : Int)) rfl
  have x7 := HBX.out.at 7 (by show 7 < 8; omega) (v := .slice A' us'.length c') rfl
  go_wp2_with fail
  generalize w4.alloc (.cells #[.bool false, .int .i64 0, .int .i64 0, .string ⟨#[]⟩] 43) = w5 at *
  generalize w4.heap.size = mb at *
  refine (KP.out _ (HU'.out.go G1.out)).mono ?_; rintro e w6 ⟨v3, rfl, hown3, g6⟩
  obtain ⟨-, h, c3, rfl, hbh, hc3, hc4, hpr⟩ := Pr.of_own (by omega) hown3
  have HPR' := Lib.hid hpr
  replace HPR := Lib.hid (HPR.out.go g6)
  have hmh : h ≠ mb := fun e => by have := HM.out.1; omega
  replace HM := Lib.hid (HM.out.bl g6)
  replace HIZ := Lib.hid (HIZ.out.go g6)
  replace G1 := Lib.hid (G1.out.trans g6)
  clear g6 hown3 hpr hbh x4 x5 x6 x7 HBX
  go_wp2_with fail
  replace HIA := Lib.hid (show ∀ b off, A1 = some ⟨b, off, none⟩ → 0 < cs.length → b ≠ mb from fun b off e h0 => Nat.ne_of_lt (HIA.out b off e (by rw [← HK.out]; exact h0)))
  go_loopw [8, 11] (fun ev iv wr => ∃ k : Nat, k ≤ K' + 1 ∧ iv = .int .i64 k ∧ ev = .int .i64 0 ∧ Hid (Bk wr mb (mk F' nu' cs' k).l) ∧ Hid (Pr wr g ps) ∧ Hid (Pr wr h ps') ∧ Hid (Iz wr A1 cs) ∧ Hid (Bl w wr)) (fun _ iv _ => K' + 1 - (intOf iv).toNat)
  case atStart => exact ⟨0, by omega, rfl, rfl, HM, HPR, HPR', HIZ, G1⟩
  case round =>
    obtain ⟨k, hk, rfl, rfl, hbm, hpr, hpr', hiz, hw⟩ := hrel
    go_upto_region 11 with fail
    go_cut [58] (fun s58 wx => Hid (s58 = .bool (decide ((k : Int) < (K' : Int) + 1 ∧ (k : Int) < (B : Int))) ∧ wr = wx))
    case first =>
      by_cases c1 : (k : Int) < (K' : Int) + 1
      · by_cases c2 : (k : Int) < (B : Int)
        · go_wp2_with fail
          go_meet
          exact Lib.hid ⟨by rw [decide_eq_true (⟨c1, c2⟩ : (k : Int) < (K' : Int) + 1 ∧ (k : Int) < (B : Int))], rfl⟩
        · go_wp2_with fail
          go_meet
          exact Lib.hid ⟨by rw [decide_eq_false (by omega : ¬ ((k : Int) < (K' : Int) + 1 ∧ (k : Int) < (B : Int)))], rfl⟩
      · go_wp2_with fail
        go_meet
        exact Lib.hid ⟨by rw [decide_eq_false (by omega : ¬ ((k : Int) < (K' : Int) + 1 ∧ (k : Int) < (B : Int)))], rfl⟩
    obtain ⟨rfl, rfl⟩ := hcut.out
    clear hcut
    by_cases hlt : (k : Int) < (K' : Int) + 1 ∧ (k : Int) < (B : Int)
    · rw [decide_eq_true hlt]
      obtain ⟨hlt1, hlt2⟩ := hlt
      have hj := MJ'.out k (by omega)
      have hms := MS'.out k
      have hok := (okP_iff.1 (PO'.out k (by omega))).2.2.2.2
      have KJ := Lib.hid (fun w => join_any (mk F' nu' cs' k) (pcI F' nu' cs' k) (by omega) (by omega) w)
      rw [jnV_of hj] at KJ
      obtain ⟨p0, p1, p2, p3⟩ := hpr'.out.piece (k := k) (by rw [HPL'.out]; omega) (HPS'.out k (by omega))
      have hlen := hpr'.out.1
      have a0 := hbm.out.at 0 (by show 0 < 4; omega) (v := .bool (mk F' nu' cs' k).on) rfl
      have a1 := hbm.out.at 1 (by show 1 < 4; omega) (v := .int .i64 (mk F' nu' cs' k).num) rfl
      have a2 := hbm.out.at 2 (by show 2 < 4; omega) (v := .int .i64 (mk F' nu' cs' k).next) rfl
      have a3 := hbm.out.at 3 (by show 3 < 4; omega) (v := .string (mk F' nu' cs' k).data) rfl
      have HBM := Lib.hid (show Bk wr mb [.bool (mk F' nu' cs' k).on, .int .i64 (mk F' nu' cs' k).num, .int .i64 (mk F' nu' cs' k).next, .string (mk F' nu' cs' k).data] from hbm.out)
      have HNX := Lib.hid (rfl : mk F' nu' cs' (k + 1) = mk F' nu' cs' (k + 1))
      unfold Ms.v Pc.v at KJ
      clear hj hms hok HNX
      generalize hmk : mk F' nu' cs' (k + 1) = m9 at *
      have HM9 := Lib.hid hmk
      obtain ⟨no, nn', nx, nd⟩ := m9
      dsimp only at KJ
      generalize (if k < K' then (⟨#[]⟩ : ByteArray) else F') = fr at *
      generalize (mk F' nu' cs' k).on = mo at *
      generalize (mk F' nu' cs' k).num = mn at *
      generalize (mk F' nu' cs' k).next = mx at *
      generalize (mk F' nu' cs' k).data = md at *
      generalize (pcI F' nu' cs' k).start = po at *
      generalize (pcI F' nu' cs' k).num = pn at *
      generalize (pcI F' nu' cs' k).cnt = pc at *
      generalize (pcI F' nu' cs' k).data = pd at *
      clear hmk hbm
      go_upto_region 13 with fail
      go_region_with (first | (go_at_call 20; (with_reducible refine (KJ.out _).mono ?_); rintro e wn ⟨rfl, hgr⟩; have hbl := Bl.trans (Bl.refl wr).drew hgr; have hB := HBM.out.bl hbl; have b0 := hB.at 0 (by show 0 < 4; omega) (v := .bool mo) rfl; have bf0 := hB.fr 0 (by show 0 < 4; omega); have b1 := hB.at 1 (by show 1 < 4; omega) (v := .int .i64 mn) rfl; have bf1 := hB.fr 1 (by show 1 < 4; omega); have b2 := hB.at 2 (by show 2 < 4; omega) (v := .int .i64 mx) rfl; have bf2 := hB.fr 2 (by show 2 < 4; omega); have b3 := hB.at 3 (by show 3 < 4; omega) (v := .string md) rfl; have bf3 := hB.fr 3 (by show 3 < 4; omega); skip) | fail)
      all_goals
        have HB9 := Lib.hid (show Bk _ mb (Ms.l ⟨no, nn', nx, nd⟩) from hB.fourV (.bool no) (.int .i64 nn') (.int .i64 nx) (.string nd))
        have HP9 := Lib.hid ((hpr.out.go hbl).far4 (Ne.symm hmg) (.bool no) (.int .i64 nn') (.int .i64 nx) (.string nd))
        have HH9 := Lib.hid ((hpr'.out.go hbl).far4 (Ne.symm hmh) (.bool no) (.int .i64 nn') (.int .i64 nx) (.string nd))
        have HI9 := Lib.hid ((hiz.out.go hbl).far4 HIA.out (.bool no) (.int .i64 nn') (.int .i64 nx) (.string nd))
        have HW9 := Lib.hid ((hw.out.trans hbl).four hmw (.bool no) (.int .i64 nn') (.int .i64 nx) (.string nd))
        clear hB hbl hgr hpr hpr' hiz hw HBM
        go_wp2_with fail
        go_roundw
        case rel => exact ⟨k + 1, by omega, by go_num, rfl, by rw [HM9.out]; exact HB9, HP9, HH9, HI9, HW9⟩
        case measure => simp [intOf]; omega
    · have hms := MS'.out k
      have hok := MO'.out k
      generalize mk F' nu' cs' k = m0 at *
      rw [decide_eq_false hlt]
      have HOK := Lib.hid hok
      clear hlt hok
      go_wp2_with fail
      replace hbm := Lib.hid (show ∃ m, (0 = 0 ∨ m = mk F nu cs 0) ∧ okM m = true ∧ (m.data.size : Int) ≤ 1522 ∧ Bk wr mb m.l from ⟨m0, .inl rfl, HOK.out, hms, hbm.out⟩)
      have hl0 : lng F cs 0 = 0 := rfl
      have HL0 := Lib.hid hl0
      clear hms hpr' hl0 HOK
      go_loopw [12, 13] (fun lv iv wr => ∃ k : Nat, k ≤ K + 1 ∧ iv = .int .i64 k ∧ lv = .int .i64 (lng F cs k) ∧ Hid (∃ m, (k = 0 ∨ m = mk F nu cs k) ∧ okM m = true ∧ (m.data.size : Int) ≤ 1522 ∧ Bk wr mb m.l) ∧ Hid (Pr wr g ps) ∧ Hid (Iz wr A1 cs) ∧ Hid (Bl w wr)) (fun _ iv _ => K + 1 - (intOf iv).toNat)
      case atStart => exact ⟨0, by omega, rfl, by rw [HL0.out], hbm, hpr, hiz, hw⟩
      case round =>
        clear hbm hpr hiz hw hk
        obtain ⟨k, hk, rfl, rfl, hbm, hpr, hiz, hw⟩ := hrel
        by_cases hlt : (k : Int) < (K : Int) + 1
        · obtain ⟨m, hm, hok, hms, hbk⟩ := hbm.out
          have hj := MJ.out k (by omega) m hok hm
          have hop := PO.out k (by omega)
          have hpz := (okP_iff.1 hop).2.2.2
          have KJ := Lib.hid (fun w => join_any m (pcI F nu cs k) (by omega) (by omega) w)
          rw [jnV_of hj] at KJ
          have KQ := Lib.hid (fun w => checkPiece_v (p := pcI F nu cs k) (c := 0) (by unfold cpE; rw [if_pos hop]) (by omega) w)
          have KN := Lib.hid (fun w => check_v (m := mk F nu cs (k + 1)) (c := 0) (by unfold cmE; rw [if_pos (MO.out (k + 1))]) (by have := MS.out (k + 1); omega) w)
          have hmd := fun h => MD.out k h
          have hls := LS.out k (by omega)
          rw [show pcD F cs k = (pcI F nu cs k).data from rfl] at hls
          have hli := LI.out k (by omega)
          obtain ⟨p0, p1, p2, p3⟩ := hpr.out.piece (k := k) (by rw [HPL.out]; omega) (HPS.out k (by omega))
          have hmb := hbk.1
          have hpb := hpr.out.1
          have a0 := hbk.at 0 (by show 0 < 4; omega) (v := .bool m.on) rfl
          have a1 := hbk.at 1 (by show 1 < 4; omega) (v := .int .i64 m.num) rfl
          have a2 := hbk.at 2 (by show 2 < 4; omega) (v := .int .i64 m.next) rfl
          have a3 := hbk.at 3 (by show 3 < 4; omega) (v := .string m.data) rfl
          have HBM := Lib.hid (show Bk wr mb [.bool m.on, .int .i64 m.num, .int .i64 m.next, .string m.data] from hbk)
          have HMM := Lib.hid (show okM (mk F nu cs (k + 1)) = true ∧ ((mk F nu cs (k + 1)).data.size : Int) ≤ 1522 from ⟨MO.out _, MS.out _⟩)
          unfold Ms.v Pc.v at KJ
          unfold Pc.v at KQ
          unfold Ms.v at KN
          obtain ⟨hpz1, hpz2⟩ := hpz
          obtain ⟨hli1, hli2⟩ := hli
          generalize hmk : mk F nu cs (k + 1) = m9 at *
          have HM9 := Lib.hid hmk
          obtain ⟨no, nn, nx, nd⟩ := m9
          dsimp only at KJ KN hmd HMM
          obtain ⟨fr, hfr⟩ : ∃ fr, (if k < K then (⟨#[]⟩ : ByteArray) else F) = fr := ⟨_, rfl⟩
          rw [hfr] at KJ
          have HFR := Lib.hid hfr
          have HLS := Lib.hid hls
          have HMD := Lib.hid hmd
          clear hj hm hok hms hop hbm hbk hmk hfr hls hmd
          obtain ⟨mo, mn, mx, md⟩ := m
          dsimp only at a0 a1 a2 a3 KJ HBM
          generalize hpp : pcI F nu cs k = pp at *
          have HPP := Lib.hid hpp
          clear hpp
          obtain ⟨po, pn, pc, pd⟩ := pp
          dsimp only at p0 p1 p2 p3 KJ KQ HLS hpz1 hpz2
          go_upto_region 20 with fail
          have HN := Lib.hid (fun (w' : World) (gg : Bl wr w') => (show w'.cell? ⟨mb, 0, none⟩ = some (.bool mo) ∧ w'.cell? ⟨mb, 1, none⟩ = some (.int .i64 mn) ∧ w'.cell? ⟨mb, 2, none⟩ = some (.int .i64 mx) ∧ w'.cell? ⟨mb, 3, none⟩ = some (.string md) ∧ w'.cell? ⟨g, k * 4, none⟩ = some (.bool po) ∧ w'.cell? ⟨g, k * 4 + 1, none⟩ = some (.int .i64 pn) ∧ w'.cell? ⟨g, k * 4 + 2, none⟩ = some (.int .i64 pc) ∧ w'.cell? ⟨g, k * 4 + 3, none⟩ = some (.string pd) ∧ Hid (Bl wr w') from ⟨(gg.cell (p := ⟨mb, 0, none⟩) hmb).trans a0, (gg.cell (p := ⟨mb, 1, none⟩) hmb).trans a1, (gg.cell (p := ⟨mb, 2, none⟩) hmb).trans a2, (gg.cell (p := ⟨mb, 3, none⟩) hmb).trans a3, (gg.cell (p := ⟨g, k * 4, none⟩) hpb).trans p0, (gg.cell (p := ⟨g, k * 4 + 1, none⟩) hpb).trans p1, (gg.cell (p := ⟨g, k * 4 + 2, none⟩) hpb).trans p2, (gg.cell (p := ⟨g, k * 4 + 3, none⟩) hpb).trans p3, Lib.hid gg⟩))
          go_cut [14, 15, 16] (fun s1 s2 s3 wx => Hid (∃ nb : Nat, s1 = .pointer (some ⟨nb, 0, none⟩) ∧ s2 = .string fr ∧ s3 = .int .i64 0 ∧ Bk wx nb [.bool no, .int .i64 nn, .int .i64 nx, .string nd] ∧ Bl wr wx ∧ wr.heap.size ≤ nb))
          case first =>
            go_region_held3 (fun w' => w'.cell? ⟨mb, 0, none⟩ = some (.bool mo) ∧ w'.cell? ⟨mb, 1, none⟩ = some (.int .i64 mn) ∧ w'.cell? ⟨mb, 2, none⟩ = some (.int .i64 mx) ∧ w'.cell? ⟨mb, 3, none⟩ = some (.string md) ∧ w'.cell? ⟨g, k * 4, none⟩ = some (.bool po) ∧ w'.cell? ⟨g, k * 4 + 1, none⟩ = some (.int .i64 pn) ∧ w'.cell? ⟨g, k * 4 + 2, none⟩ = some (.int .i64 pc) ∧ w'.cell? ⟨g, k * 4 + 3, none⟩ = some (.string pd) ∧ Hid (Bl wr w')) (first | with_reducible assumption | (refine HN.out _ ?_; (repeat (first | exact Bl.refl _ | with_reducible refine Bl.drew ?_ | with_reducible refine Bl.alloc ?_ _ | with_reducible refine Bl.setCell ?_ (Nat.le_refl _) _ | with_reducible refine Bl.trans ?_ hgr)); done) | fail) (first | (go_at_call 20; (with_reducible refine (KJ.out _).mono ?_); rintro e wn ⟨rfl, hgr⟩; first | ((with_reducible have hB := Bk.bl (Ms.zbox wr) hgr); have z0 := hB.at 0 (by show 0 < 4; omega) (v := .bool false) rfl; have zf0 := hB.fr 0 (by show 0 < 4; omega); have z1 := hB.at 1 (by show 1 < 4; omega) (v := .int .i64 0) rfl; have zf1 := hB.fr 1 (by show 1 < 4; omega); have z2 := hB.at 2 (by show 2 < 4; omega) (v := .int .i64 0) rfl; have zf2 := hB.fr 2 (by show 2 < 4; omega); have z3 := hB.at 3 (by show 3 < 4; omega) (v := .string ⟨#[]⟩) rfl; have zf3 := hB.fr 3 (by show 3 < 4; omega); skip) | skip) | fail)
            all_goals (rename _ ∧ _ ∧ _ ∧ _ ∧ _ ∧ _ ∧ _ ∧ _ ∧ Hid (Bl wr _) => hq; have hbl := hq.2.2.2.2.2.2.2.2.out; clear hq)
            all_goals (go_wp2_with fail; go_meet)
            all_goals first | exact Lib.hid ⟨_, rfl, rfl, rfl, Bk.new _ [.bool no, .int .i64 nn, .int .i64 nx, .string nd] _, hbl, hgr.size⟩ | exact Lib.hid ⟨_, rfl, rfl, rfl, hB.fourV (.bool no) (.int .i64 nn) (.int .i64 nx) (.string nd), hbl, Nat.le_refl _⟩
          obtain ⟨nb, rfl, rfl, rfl, hbn, hbl, hnb⟩ := hcut.out
          rename World => wx
          clear hcut a0 a1 a2 a3 p0 p1 p2 p3 KJ
          have hnl := hbn.1
          have hgl := (hpr.out.go hbl).1
          obtain ⟨p0, p1, p2, p3⟩ := (hpr.out.go hbl).piece (k := k) (by rw [HPL.out]; omega) ((HPS.out k (by omega)).trans HPP.out)
          dsimp only at p0 p1 p2 p3
          have n0 := hbn.at 0 (by show 0 < 4; omega) (v := .bool no) rfl
          have n1 := hbn.at 1 (by show 1 < 4; omega) (v := .int .i64 nn) rfl
          have n2 := hbn.at 2 (by show 2 < 4; omega) (v := .int .i64 nx) rfl
          have n3 := hbn.at 3 (by show 3 < 4; omega) (v := .string nd) rfl
          have hpd : (pd.size : Int) ≤ 1522 := by omega
          go_upto_region 22 with fail
          by_cases hkK : (k : Int) < (K : Int)
          · have hfr := HFR.out
            rw [if_pos (by omega)] at hfr
            subst hfr
            obtain ⟨b, off, ea, hzb, z0⟩ := (hiz.out.go hbl) k (by rw [HK.out]; omega)
            have hmd := HMD.out (by omega)
            have hci := CI.out k (by omega)
            obtain ⟨ci1, ci2, -⟩ := hci
            generalize cu cs k = z at *
            subst hmd
            have hzs : z ≤ (F.size : Int) := by omega
            subst ea
            have hF0 : ¬ F.toList = [] := fun hh => by
              rw [ByteArray.toList_eq] at hh
              have : F.size = 0 := by rw [← ByteArray.size_data, ← Array.length_toList, hh]; rfl
              omega
            have hFe : F.toList.isEmpty = false := by cases h : F.toList with | nil => exact absurd h hF0 | cons x l => rfl
            have ewk : IntKind.i64.wrap (K : Int) = (K : Int) := IntWalk.i64_in _ (by omega)
            have hkq : ((k : Int) == (K : Int)) = false := beq_eq_false_iff_ne.2 (by omega)
            have hdk : decide ((k : Int) < (K : Int)) = true := decide_eq_true hkK
            have HN := Lib.hid (fun (w' : World) (gg : Bl wx w') => (show w'.cell? ⟨nb, 0, none⟩ = some (.bool no) ∧ w'.cell? ⟨nb, 1, none⟩ = some (.int .i64 nn) ∧ w'.cell? ⟨nb, 2, none⟩ = some (.int .i64 nx) ∧ w'.cell? ⟨nb, 3, none⟩ = some (.string (F.extract 0 z.toNat)) ∧ w'.cell? ⟨g, k * 4, none⟩ = some (.bool po) ∧ w'.cell? ⟨g, k * 4 + 1, none⟩ = some (.int .i64 pn) ∧ w'.cell? ⟨g, k * 4 + 2, none⟩ = some (.int .i64 pc) ∧ w'.cell? ⟨g, k * 4 + 3, none⟩ = some (.string pd) ∧ w'.cell? ⟨b, off + k, none⟩ = some (.int .i64 z) ∧ Hid (Bl wx w') from ⟨(gg.cell (p := ⟨nb, 0, none⟩) hnl).trans n0, (gg.cell (p := ⟨nb, 1, none⟩) hnl).trans n1, (gg.cell (p := ⟨nb, 2, none⟩) hnl).trans n2, (gg.cell (p := ⟨nb, 3, none⟩) hnl).trans n3, (gg.cell (p := ⟨g, k * 4, none⟩) hgl).trans p0, (gg.cell (p := ⟨g, k * 4 + 1, none⟩) hgl).trans p1, (gg.cell (p := ⟨g, k * 4 + 2, none⟩) hgl).trans p2, (gg.cell (p := ⟨g, k * 4 + 3, none⟩) hgl).trans p3, (gg.cell (p := ⟨b, off + k, none⟩) hzb).trans z0, Lib.hid gg⟩))
            have GZ := Lib.hid (Bl.refl wx)
            go_region_held3 (fun w' => w'.cell? ⟨nb, 0, none⟩ = some (.bool no) ∧ w'.cell? ⟨nb, 1, none⟩ = some (.int .i64 nn) ∧ w'.cell? ⟨nb, 2, none⟩ = some (.int .i64 nx) ∧ w'.cell? ⟨nb, 3, none⟩ = some (.string (F.extract 0 z.toNat)) ∧ w'.cell? ⟨g, k * 4, none⟩ = some (.bool po) ∧ w'.cell? ⟨g, k * 4 + 1, none⟩ = some (.int .i64 pn) ∧ w'.cell? ⟨g, k * 4 + 2, none⟩ = some (.int .i64 pc) ∧ w'.cell? ⟨g, k * 4 + 3, none⟩ = some (.string pd) ∧ w'.cell? ⟨b, off + k, none⟩ = some (.int .i64 z) ∧ Hid (Bl wx w')) (first | with_reducible assumption | exact HN.out _ GZ.out.drew | (refine HN.out _ ?_; with_reducible refine Bl.trans ?_ hgr; rename _ ∧ _ ∧ _ ∧ _ ∧ _ ∧ _ ∧ _ ∧ _ ∧ _ ∧ Hid (Bl wx _) => hq; exact hq.2.2.2.2.2.2.2.2.2.out) | fail) (first | (go_at_call 22; (with_reducible refine (KN.out _).mono ?_); rintro e wn ⟨rfl, hgr⟩) | (go_at_call 24; (with_reducible refine (KQ.out _).mono ?_); rintro e wn ⟨rfl, hgr⟩) | fail)
            rename _ ∧ _ ∧ _ ∧ _ ∧ _ ∧ _ ∧ _ ∧ _ ∧ _ ∧ Hid (Bl wx _) => hq
            have hby := hq.2.2.2.2.2.2.2.2.2.out
            clear hq
            have hm9 := (HBM.out.bl hbl).bl hby
            have hn9 := hbn.bl hby
            have y0 := hn9.at 0 (by show 0 < 4; omega) (v := .bool no) rfl
            have y1 := hn9.at 1 (by show 1 < 4; omega) (v := .int .i64 nn) rfl
            have y2 := hn9.at 2 (by show 2 < 4; omega) (v := .int .i64 nx) rfl
            have y3 := hn9.at 3 (by show 3 < 4; omega) (v := .string (F.extract 0 z.toNat)) rfl
            have b0 := hm9.at 0 (by show 0 < 4; omega) (v := .bool mo) rfl
            have bf0 := hm9.fr 0 (by show 0 < 4; omega)
            have b1 := hm9.at 1 (by show 1 < 4; omega) (v := .int .i64 mn) rfl
            have bf1 := hm9.fr 1 (by show 1 < 4; omega)
            have b2 := hm9.at 2 (by show 2 < 4; omega) (v := .int .i64 mx) rfl
            have bf2 := hm9.fr 2 (by show 2 < 4; omega)
            have b3 := hm9.at 3 (by show 3 < 4; omega) (v := .string md) rfl
            have bf3 := hm9.fr 3 (by show 3 < 4; omega)
            have HM8 := Lib.hid (show Bk _ mb (Ms.l ⟨no, nn, nx, (F.extract 0 z.toNat)⟩) from hm9.fourV (.bool no) (.int .i64 nn) (.int .i64 nx) (.string (F.extract 0 z.toNat)))
            have HP8 := Lib.hid (((hpr.out.go hbl).go hby).far4 (Ne.symm hmg) (.bool no) (.int .i64 nn) (.int .i64 nx) (.string (F.extract 0 z.toNat)))
            have HI8 := Lib.hid (((hiz.out.go hbl).go hby).far4 HIA.out (.bool no) (.int .i64 nn) (.int .i64 nx) (.string (F.extract 0 z.toNat)))
            have HW8 := Lib.hid (((hw.out.trans hbl).trans hby).four hmw (.bool no) (.int .i64 nn) (.int .i64 nx) (.string (F.extract 0 z.toNat)))
            clear hm9 hn9 hby hbl hbn hpr hiz hw HBM HN GZ n0 n1 n2 n3 p0 p1 p2 p3 z0
            go_wp2_with fail
            go_roundw
            case rel => exact ⟨k + 1, by omega, by go_num, by rw [HLS.out], Lib.hid ⟨⟨no, nn, nx, (F.extract 0 z.toNat)⟩, .inr HM9.out.symm, HMM.out.1, HMM.out.2, HM8.out⟩, HP8, HI8, HW8⟩
            case measure => simp [intOf]; omega
          · have hkk : (k : Int) = (K : Int) := by omega
            have hfr := HFR.out
            rw [if_neg (by omega)] at hfr
            subst hfr
            have ewk : IntKind.i64.wrap (K : Int) = (K : Int) := IntWalk.i64_in _ (by omega)
            have hkq : ((k : Int) == (K : Int)) = true := beq_iff_eq.2 hkk
            have hdk : decide ((k : Int) < (K : Int)) = false := decide_eq_false hkK
            have hdk2 : decide (k < K) = false := decide_eq_false (by omega)
            clear hkk
            have HN := Lib.hid (fun (w' : World) (gg : Bl wx w') => (show w'.cell? ⟨nb, 0, none⟩ = some (.bool no) ∧ w'.cell? ⟨nb, 1, none⟩ = some (.int .i64 nn) ∧ w'.cell? ⟨nb, 2, none⟩ = some (.int .i64 nx) ∧ w'.cell? ⟨nb, 3, none⟩ = some (.string nd) ∧ w'.cell? ⟨g, k * 4, none⟩ = some (.bool po) ∧ w'.cell? ⟨g, k * 4 + 1, none⟩ = some (.int .i64 pn) ∧ w'.cell? ⟨g, k * 4 + 2, none⟩ = some (.int .i64 pc) ∧ w'.cell? ⟨g, k * 4 + 3, none⟩ = some (.string pd) ∧ Hid (Bl wx w') from ⟨(gg.cell (p := ⟨nb, 0, none⟩) hnl).trans n0, (gg.cell (p := ⟨nb, 1, none⟩) hnl).trans n1, (gg.cell (p := ⟨nb, 2, none⟩) hnl).trans n2, (gg.cell (p := ⟨nb, 3, none⟩) hnl).trans n3, (gg.cell (p := ⟨g, k * 4, none⟩) hgl).trans p0, (gg.cell (p := ⟨g, k * 4 + 1, none⟩) hgl).trans p1, (gg.cell (p := ⟨g, k * 4 + 2, none⟩) hgl).trans p2, (gg.cell (p := ⟨g, k * 4 + 3, none⟩) hgl).trans p3, Lib.hid gg⟩))
            have GZ := Lib.hid (Bl.refl wx)
            refine wp_region_held_drew (S := (fun w' => w'.cell? ⟨nb, 0, none⟩ = some (.bool no) ∧ w'.cell? ⟨nb, 1, none⟩ = some (.int .i64 nn) ∧ w'.cell? ⟨nb, 2, none⟩ = some (.int .i64 nx) ∧ w'.cell? ⟨nb, 3, none⟩ = some (.string nd) ∧ w'.cell? ⟨g, k * 4, none⟩ = some (.bool po) ∧ w'.cell? ⟨g, k * 4 + 1, none⟩ = some (.int .i64 pn) ∧ w'.cell? ⟨g, k * 4 + 2, none⟩ = some (.int .i64 pc) ∧ w'.cell? ⟨g, k * 4 + 3, none⟩ = some (.string pd) ∧ Hid (Bl wx w'))) (by kernel_rfl) ?_ (fun hHeld => ?_)
            · (try dsimp only); (first | with_reducible assumption | exact HN.out _ GZ.out.drew | (refine HN.out _ ?_; with_reducible refine Bl.trans ?_ hgr; rename _ ∧ _ ∧ _ ∧ _ ∧ _ ∧ _ ∧ _ ∧ _ ∧ Hid (Bl wx _) => hq; exact hq.2.2.2.2.2.2.2.2.out) | fail)
            refine wpAnyH_take (i := 0) (v := ?_) rfl (by kernel_rfl) (by kernel_rfl) (by kernel_rfl) (fun _ _ _ h => h) (Or.inl ⟨by rfl, ?_⟩) (by assumption) ?_
            rotate_left
            · intro w hSw; (try dsimp only at hSw); go_simp; try with_reducible rfl
            simp only [List.getElem_toArray, List.getElem_cons_zero, Act.put, List.setIfInBounds_toArray, List.set_cons_zero, List.set_cons_succ]
            refine wpAnyH_take (i := 1) (v := ?_) rfl (by kernel_rfl) (by kernel_rfl) (by kernel_rfl) (fun _ _ _ h => h) (Or.inl ⟨by rfl, ?_⟩) (by assumption) ?_
            rotate_left
            · intro w hSw; (try dsimp only at hSw); go_simp; try with_reducible rfl
            simp only [List.getElem_toArray, List.getElem_cons_zero, List.getElem_cons_succ, Act.put, List.setIfInBounds_toArray, List.set_cons_zero, List.set_cons_succ]
            refine wpAnyH_take (i := 2) (v := ?_) rfl (by kernel_rfl) (by kernel_rfl) (by kernel_rfl) (fun _ _ _ h => h) (Or.inl ⟨by rfl, ?_⟩) (by assumption) ?_
            rotate_left
            · intro w hSw; (try dsimp only at hSw); go_simp; try with_reducible rfl
            simp only [List.getElem_toArray, List.getElem_cons_zero, List.getElem_cons_succ, Act.put, List.setIfInBounds_toArray, List.set_cons_zero, List.set_cons_succ]
            refine wpAnyH_take (i := 3) (v := ?_) rfl (by kernel_rfl) (by kernel_rfl) (by kernel_rfl) (fun _ _ _ h => h) (Or.inl ⟨by rfl, ?_⟩) (by assumption) ?_
            rotate_left
            · intro w hSw; (try dsimp only at hSw); go_simp; try with_reducible rfl
            simp only [List.getElem_toArray, List.getElem_cons_zero, List.getElem_cons_succ, Act.put, List.setIfInBounds_toArray, List.set_cons_zero, List.set_cons_succ]
            refine wpAnyH_ready (rs := [4]) (by kernel_rfl) (by simp) ?_
            refine AllReadyH.cons rfl (fun K hK => ?_) AllReadyH.nil
            go_simp
            (first | (go_at_call 22; (with_reducible refine (KN.out _).mono ?_); rintro e wn ⟨rfl, hgr⟩) | (go_at_call 24; (with_reducible refine (KQ.out _).mono ?_); rintro e wn ⟨rfl, hgr⟩) | fail)
            try (go_wp2_with fail)
            refine hK.out _ _ ?_ (fun hHeld => ?_)
            · (try dsimp only); (first | with_reducible assumption | exact HN.out _ GZ.out.drew | (refine HN.out _ ?_; with_reducible refine Bl.trans ?_ hgr; rename _ ∧ _ ∧ _ ∧ _ ∧ _ ∧ _ ∧ _ ∧ _ ∧ Hid (Bl wx _) => hq; exact hq.2.2.2.2.2.2.2.2.out) | fail)
            clear hK K
            try simp only [List.getElem_toArray, List.getElem_cons_zero, List.getElem_cons_succ, Act.put, List.setIfInBounds_toArray, List.set_cons_zero, List.set_cons_succ]
            refine wpAnyH_take (i := 5) (v := ?_) rfl (by kernel_rfl) (by kernel_rfl) (by kernel_rfl) (fun _ _ _ h => h) (Or.inl ⟨by rfl, ?_⟩) (by assumption) ?_
            rotate_left
            · intro w hSw; (try dsimp only at hSw); go_simp; try with_reducible rfl
            simp only [List.getElem_toArray, List.getElem_cons_zero, List.getElem_cons_succ, Act.put, List.setIfInBounds_toArray, List.set_cons_zero, List.set_cons_succ]
            refine wpAnyH_take (i := 6) (v := ?_) rfl (by kernel_rfl) (by kernel_rfl) (by kernel_rfl) (fun _ _ _ h => h) (Or.inl ⟨by rfl, ?_⟩) (by assumption) ?_
            rotate_left
            · intro w hSw; (try dsimp only at hSw); go_simp; try with_reducible rfl
            simp only [List.getElem_toArray, List.getElem_cons_zero, List.getElem_cons_succ, Act.put, List.setIfInBounds_toArray, List.set_cons_zero, List.set_cons_succ]
            refine wpAnyH_take (i := 7) (v := ?_) rfl (by kernel_rfl) (by kernel_rfl) (by kernel_rfl) (fun _ _ _ h => h) (Or.inl ⟨by rfl, ?_⟩) (by assumption) ?_
            rotate_left
            · intro w hSw; (try dsimp only at hSw); go_simp; try with_reducible rfl
            simp only [List.getElem_toArray, List.getElem_cons_zero, List.getElem_cons_succ, Act.put, List.setIfInBounds_toArray, List.set_cons_zero, List.set_cons_succ]
            refine wpAnyH_take (i := 8) (v := ?_) rfl (by kernel_rfl) (by kernel_rfl) (by kernel_rfl) (fun _ _ _ h => h) (Or.inl ⟨by rfl, ?_⟩) (by assumption) ?_
            rotate_left
            · intro w hSw; (try dsimp only at hSw); go_simp; try with_reducible rfl
            simp only [List.getElem_toArray, List.getElem_cons_zero, List.getElem_cons_succ, Act.put, List.setIfInBounds_toArray, List.set_cons_zero, List.set_cons_succ]
            refine wpAnyH_take (i := 9) (v := ?_) rfl (by kernel_rfl) (by kernel_rfl) (by kernel_rfl) (fun _ _ _ h => h) (Or.inl ⟨by rfl, ?_⟩) (by assumption) ?_
            rotate_left
            · intro w hSw; (try dsimp only at hSw); go_simp; try with_reducible rfl
            simp only [List.getElem_toArray, List.getElem_cons_zero, List.getElem_cons_succ, Act.put, List.setIfInBounds_toArray, List.set_cons_zero, List.set_cons_succ]
            refine wpAnyH_take (i := 10) (v := ?_) rfl (by kernel_rfl) (by kernel_rfl) (by kernel_rfl) (fun _ _ _ h => h) (Or.inl ⟨by rfl, ?_⟩) (by assumption) ?_
            rotate_left
            · intro w hSw; (try dsimp only at hSw); go_simp; try with_reducible rfl
            simp only [List.getElem_toArray, List.getElem_cons_zero, List.getElem_cons_succ, Act.put, List.setIfInBounds_toArray, List.set_cons_zero, List.set_cons_succ]
            refine wpAnyH_take (i := 11) (v := ?_) rfl (by kernel_rfl) (by kernel_rfl) (by kernel_rfl) (fun _ _ _ h => h) (Or.inl ⟨by rfl, ?_⟩) (by assumption) ?_
            rotate_left
            · intro w hSw; (try dsimp only at hSw); go_simp; try with_reducible rfl
            simp only [List.getElem_toArray, List.getElem_cons_zero, List.getElem_cons_succ, Act.put, List.setIfInBounds_toArray, List.set_cons_zero, List.set_cons_succ]
            refine wpAnyH_ready (rs := [12]) (by kernel_rfl) (by simp) ?_
            refine AllReadyH.cons rfl (fun K hK => ?_) AllReadyH.nil
            go_simp
            (first | (go_at_call 22; (with_reducible refine (KN.out _).mono ?_); rintro e wn ⟨rfl, hgr⟩) | (go_at_call 24; (with_reducible refine (KQ.out _).mono ?_); rintro e wn ⟨rfl, hgr⟩) | fail)
            try (go_wp2_with fail)
            refine hK.out _ _ ?_ (fun hHeld => ?_)
            · (try dsimp only); (first | with_reducible assumption | exact HN.out _ GZ.out.drew | (refine HN.out _ ?_; with_reducible refine Bl.trans ?_ hgr; rename _ ∧ _ ∧ _ ∧ _ ∧ _ ∧ _ ∧ _ ∧ _ ∧ Hid (Bl wx _) => hq; exact hq.2.2.2.2.2.2.2.2.out) | fail)
            clear hK K
            try simp only [List.getElem_toArray, List.getElem_cons_zero, List.getElem_cons_succ, Act.put, List.setIfInBounds_toArray, List.set_cons_zero, List.set_cons_succ]
            refine wpAnyH_take (i := 13) (v := ?_) rfl (by kernel_rfl) (by kernel_rfl) (by kernel_rfl) (fun _ _ _ h => h) (Or.inl ⟨by rfl, ?_⟩) (by assumption) ?_
            rotate_left
            · intro w hSw; (try dsimp only at hSw); go_simp; try with_reducible rfl
            simp only [List.getElem_toArray, List.getElem_cons_zero, List.getElem_cons_succ, Act.put, List.setIfInBounds_toArray, List.set_cons_zero, List.set_cons_succ]
            refine wpAnyH_take (i := 14) (v := ?_) rfl (by kernel_rfl) (by kernel_rfl) (by kernel_rfl) (fun _ _ _ h => h) (Or.inl ⟨by rfl, ?_⟩) (by assumption) ?_
            rotate_left
            · intro w hSw; (try dsimp only at hSw); go_simp; try with_reducible rfl
            simp only [List.getElem_toArray, List.getElem_cons_zero, List.getElem_cons_succ, Act.put, List.setIfInBounds_toArray, List.set_cons_zero, List.set_cons_succ]
            refine wpAnyH_take (i := 15) (v := ?_) rfl (by kernel_rfl) (by kernel_rfl) (by kernel_rfl) (fun _ _ _ h => h) (Or.inl ⟨by rfl, ?_⟩) (by assumption) ?_
            rotate_left
            · intro w hSw; (try dsimp only at hSw); go_simp; try with_reducible rfl
            simp only [List.getElem_toArray, List.getElem_cons_zero, List.getElem_cons_succ, Act.put, List.setIfInBounds_toArray, List.set_cons_zero, List.set_cons_succ]
            refine wpAnyH_take (i := 16) (v := ?_) rfl (by kernel_rfl) (by kernel_rfl) (by kernel_rfl) (fun _ _ _ h => h) (Or.inl ⟨by rfl, ?_⟩) (by assumption) ?_
            rotate_left
            · intro w hSw; (try dsimp only at hSw); go_simp; try with_reducible rfl
            simp only [List.getElem_toArray, List.getElem_cons_zero, List.getElem_cons_succ, Act.put, List.setIfInBounds_toArray, List.set_cons_zero, List.set_cons_succ]
            refine wpAnyH_take (i := 17) (v := ?_) rfl (by kernel_rfl) (by kernel_rfl) (by kernel_rfl) (fun _ _ _ h => h) (Or.inl ⟨by rfl, ?_⟩) (by assumption) ?_
            rotate_left
            · intro w hSw; (try dsimp only at hSw); go_simp; try with_reducible rfl
            simp only [List.getElem_toArray, List.getElem_cons_zero, List.getElem_cons_succ, Act.put, List.setIfInBounds_toArray, List.set_cons_zero, List.set_cons_succ]
            refine wpAnyH_take (i := 18) (v := ?_) rfl (by kernel_rfl) (by kernel_rfl) (by kernel_rfl) (fun _ _ _ h => h) (Or.inl ⟨by rfl, ?_⟩) (by assumption) ?_
            rotate_left
            · intro w hSw; (try dsimp only at hSw); go_simp; try with_reducible rfl
            simp only [List.getElem_toArray, List.getElem_cons_zero, List.getElem_cons_succ, Act.put, List.setIfInBounds_toArray, List.set_cons_zero, List.set_cons_succ]
            refine wpAnyH_take (i := 19) (v := ?_) rfl (by kernel_rfl) (by kernel_rfl) (by kernel_rfl) (fun _ _ _ h => h) (Or.inl ⟨by rfl, ?_⟩) (by assumption) ?_
            rotate_left
            · intro w hSw; (try dsimp only at hSw); go_simp; try with_reducible rfl
            simp only [List.getElem_toArray, List.getElem_cons_zero, List.getElem_cons_succ, Act.put, List.setIfInBounds_toArray, List.set_cons_zero, List.set_cons_succ]
            refine wpAnyH_take (i := 20) (v := ?_) rfl (by kernel_rfl) (by kernel_rfl) (by kernel_rfl) (fun _ _ _ h => h) (Or.inl ⟨by rfl, ?_⟩) (by assumption) ?_
            rotate_left
            · intro w hSw; (try dsimp only at hSw); go_simp; try with_reducible rfl
            simp only [List.getElem_toArray, List.getElem_cons_zero, List.getElem_cons_succ, Act.put, List.setIfInBounds_toArray, List.set_cons_zero, List.set_cons_succ]
            refine wpAnyH_take (i := 21) (v := ?_) rfl (by kernel_rfl) (by kernel_rfl) (by kernel_rfl) (fun _ _ _ h => h) (Or.inl ⟨by rfl, ?_⟩) (by assumption) ?_
            rotate_left
            · intro w hSw; (try dsimp only at hSw); go_simp; try with_reducible rfl
            simp only [List.getElem_toArray, List.getElem_cons_zero, List.getElem_cons_succ, Act.put, List.setIfInBounds_toArray, List.set_cons_zero, List.set_cons_succ]
            refine wpAnyH_take (i := 22) (v := ?_) rfl (by kernel_rfl) (by kernel_rfl) (by kernel_rfl) (fun _ _ _ h => h) (Or.inl ⟨by rfl, ?_⟩) (by assumption) ?_
            rotate_left
            · intro w hSw; (try dsimp only at hSw); go_simp; try with_reducible rfl
            simp only [List.getElem_toArray, List.getElem_cons_zero, List.getElem_cons_succ, Act.put, List.setIfInBounds_toArray, List.set_cons_zero, List.set_cons_succ]
            refine wpAnyH_take (i := 23) (v := ?_) rfl (by kernel_rfl) (by kernel_rfl) (by kernel_rfl) (fun _ _ _ h => h) (Or.inl ⟨by rfl, ?_⟩) (by assumption) ?_
            rotate_left
            · intro w hSw; (try dsimp only at hSw); go_simp; try with_reducible rfl
            simp only [List.getElem_toArray, List.getElem_cons_zero, List.getElem_cons_succ, Act.put, List.setIfInBounds_toArray, List.set_cons_zero, List.set_cons_succ]
            refine wpAnyH_take (i := 24) (v := ?_) rfl (by kernel_rfl) (by kernel_rfl) (by kernel_rfl) (fun _ _ _ h => h) (Or.inl ⟨by rfl, ?_⟩) (by assumption) ?_
            rotate_left
            · intro w hSw; (try dsimp only at hSw); go_simp; try with_reducible rfl
            simp only [List.getElem_toArray, List.getElem_cons_zero, List.getElem_cons_succ, Act.put, List.setIfInBounds_toArray, List.set_cons_zero, List.set_cons_succ]
            refine wpAnyH_take (i := 25) (v := ?_) rfl (by kernel_rfl) (by kernel_rfl) (by kernel_rfl) (fun _ _ _ h => h) (Or.inl ⟨by rfl, ?_⟩) (by assumption) ?_
            rotate_left
            · intro w hSw; (try dsimp only at hSw); go_simp; try with_reducible rfl
            simp only [List.getElem_toArray, List.getElem_cons_zero, List.getElem_cons_succ, Act.put, List.setIfInBounds_toArray, List.set_cons_zero, List.set_cons_succ]
            refine wpAnyH_take (i := 26) (v := ?_) rfl (by kernel_rfl) (by kernel_rfl) (by kernel_rfl) (fun _ _ _ h => h) (Or.inl ⟨by rfl, ?_⟩) (by assumption) ?_
            rotate_left
            · intro w hSw; (try dsimp only at hSw); go_simp; try with_reducible rfl
            simp only [List.getElem_toArray, List.getElem_cons_zero, List.getElem_cons_succ, Act.put, List.setIfInBounds_toArray, List.set_cons_zero, List.set_cons_succ]
            refine wpAnyH_take (i := 27) (v := ?_) rfl (by kernel_rfl) (by kernel_rfl) (by kernel_rfl) (fun _ _ _ h => h) (Or.inl ⟨by rfl, ?_⟩) (by assumption) ?_
            rotate_left
            · intro w hSw; (try dsimp only at hSw); go_simp; try with_reducible rfl
            simp only [List.getElem_toArray, List.getElem_cons_zero, List.getElem_cons_succ, Act.put, List.setIfInBounds_toArray, List.set_cons_zero, List.set_cons_succ]
            refine wpAnyH_take (i := 28) (v := ?_) rfl (by kernel_rfl) (by kernel_rfl) (by kernel_rfl) (fun _ _ _ h => h) (Or.inl ⟨by rfl, ?_⟩) (by assumption) ?_
            rotate_left
            · intro w hSw; (try dsimp only at hSw); go_simp; try with_reducible rfl
            simp only [List.getElem_toArray, List.getElem_cons_zero, List.getElem_cons_succ, Act.put, List.setIfInBounds_toArray, List.set_cons_zero, List.set_cons_succ]
            refine wpAnyH_take (i := 29) (v := ?_) rfl (by kernel_rfl) (by kernel_rfl) (by kernel_rfl) (fun _ _ _ h => h) (Or.inl ⟨by rfl, ?_⟩) (by assumption) ?_
            rotate_left
            · intro w hSw; (try dsimp only at hSw); go_simp; try with_reducible rfl
            simp only [List.getElem_toArray, List.getElem_cons_zero, List.getElem_cons_succ, Act.put, List.setIfInBounds_toArray, List.set_cons_zero, List.set_cons_succ]
            refine wpAnyH_take (i := 30) (v := ?_) rfl (by kernel_rfl) (by kernel_rfl) (by kernel_rfl) (fun _ _ _ h => h) (Or.inl ⟨by rfl, ?_⟩) (by assumption) ?_
            rotate_left
            · intro w hSw; (try dsimp only at hSw); go_simp; try with_reducible rfl
            simp only [List.getElem_toArray, List.getElem_cons_zero, List.getElem_cons_succ, Act.put, List.setIfInBounds_toArray, List.set_cons_zero, List.set_cons_succ]
            refine wpAnyH_take (i := 31) (v := ?_) rfl (by kernel_rfl) (by kernel_rfl) (by kernel_rfl) (fun _ _ _ h => h) (Or.inl ⟨by rfl, ?_⟩) (by assumption) ?_
            rotate_left
            · intro w hSw; (try dsimp only at hSw); go_simp; try with_reducible rfl
            simp only [List.getElem_toArray, List.getElem_cons_zero, List.getElem_cons_succ, Act.put, List.setIfInBounds_toArray, List.set_cons_zero, List.set_cons_succ]
            refine wpAnyH_take (i := 32) (v := ?_) rfl (by kernel_rfl) (by kernel_rfl) (by kernel_rfl) (fun _ _ _ h => h) (Or.inl ⟨by rfl, ?_⟩) (by assumption) ?_
            rotate_left
            · intro w hSw; (try dsimp only at hSw); go_simp; try with_reducible rfl
            simp only [List.getElem_toArray, List.getElem_cons_zero, List.getElem_cons_succ, Act.put, List.setIfInBounds_toArray, List.set_cons_zero, List.set_cons_succ]
            refine wpAnyH_take (i := 33) (v := undef) rfl (by kernel_rfl) (by kernel_rfl) (by kernel_rfl) (fun _ _ _ h => h) (Or.inr ⟨by rfl, rfl⟩) (by assumption) ?_
            simp only [List.getElem_toArray, List.getElem_cons_zero, List.getElem_cons_succ, Act.put, List.setIfInBounds_toArray, List.set_cons_zero, List.set_cons_succ]
            refine wpAnyH_take (i := 34) (v := undef) rfl (by kernel_rfl) (by kernel_rfl) (by kernel_rfl) (fun _ _ _ h => h) (Or.inr ⟨by rfl, rfl⟩) (by assumption) ?_
            simp only [List.getElem_toArray, List.getElem_cons_zero, List.getElem_cons_succ, Act.put, List.setIfInBounds_toArray, List.set_cons_zero, List.set_cons_succ]
            refine wpAnyH_take (i := 35) (v := undef) rfl (by kernel_rfl) (by kernel_rfl) (by kernel_rfl) (fun _ _ _ h => h) (Or.inr ⟨by rfl, rfl⟩) (by assumption) ?_
            simp only [List.getElem_toArray, List.getElem_cons_zero, List.getElem_cons_succ, Act.put, List.setIfInBounds_toArray, List.set_cons_zero, List.set_cons_succ]
            refine wpAnyH_take (i := 36) (v := undef) rfl (by kernel_rfl) (by kernel_rfl) (by kernel_rfl) (fun _ _ _ h => h) (Or.inr ⟨by rfl, rfl⟩) (by assumption) ?_
            simp only [List.getElem_toArray, List.getElem_cons_zero, List.getElem_cons_succ, Act.put, List.setIfInBounds_toArray, List.set_cons_zero, List.set_cons_succ]
            refine wpAnyH_take (i := 37) (v := undef) rfl (by kernel_rfl) (by kernel_rfl) (by kernel_rfl) (fun _ _ _ h => h) (Or.inr ⟨by rfl, rfl⟩) (by assumption) ?_
            simp only [List.getElem_toArray, List.getElem_cons_zero, List.getElem_cons_succ, Act.put, List.setIfInBounds_toArray, List.set_cons_zero, List.set_cons_succ]
            refine wpAnyH_take (i := 38) (v := undef) rfl (by kernel_rfl) (by kernel_rfl) (by kernel_rfl) (fun _ _ _ h => h) (Or.inr ⟨by rfl, rfl⟩) (by assumption) ?_
            simp only [List.getElem_toArray, List.getElem_cons_zero, List.getElem_cons_succ, Act.put, List.setIfInBounds_toArray, List.set_cons_zero, List.set_cons_succ]
            refine wpAnyH_take (i := 39) (v := undef) rfl (by kernel_rfl) (by kernel_rfl) (by kernel_rfl) (fun _ _ _ h => h) (Or.inr ⟨by rfl, rfl⟩) (by assumption) ?_
            simp only [List.getElem_toArray, List.getElem_cons_zero, List.getElem_cons_succ, Act.put, List.setIfInBounds_toArray, List.set_cons_zero, List.set_cons_succ]
            refine wpAnyH_take (i := 40) (v := undef) rfl (by kernel_rfl) (by kernel_rfl) (by kernel_rfl) (fun _ _ _ h => h) (Or.inr ⟨by rfl, rfl⟩) (by assumption) ?_
            simp only [List.getElem_toArray, List.getElem_cons_zero, List.getElem_cons_succ, Act.put, List.setIfInBounds_toArray, List.set_cons_zero, List.set_cons_succ]
            refine wpAnyH_take (i := 41) (v := undef) rfl (by kernel_rfl) (by kernel_rfl) (by kernel_rfl) (fun _ _ _ h => h) (Or.inr ⟨by rfl, rfl⟩) (by assumption) ?_
            simp only [List.getElem_toArray, List.getElem_cons_zero, List.getElem_cons_succ, Act.put, List.setIfInBounds_toArray, List.set_cons_zero, List.set_cons_succ]
            refine wpAnyH_take (i := 42) (v := undef) rfl (by kernel_rfl) (by kernel_rfl) (by kernel_rfl) (fun _ _ _ h => h) (Or.inr ⟨by rfl, rfl⟩) (by assumption) ?_
            simp only [List.getElem_toArray, List.getElem_cons_zero, List.getElem_cons_succ, Act.put, List.setIfInBounds_toArray, List.set_cons_zero, List.set_cons_succ]
            refine wpAnyH_take (i := 43) (v := undef) rfl (by kernel_rfl) (by kernel_rfl) (by kernel_rfl) (fun _ _ _ h => h) (Or.inr ⟨by rfl, rfl⟩) (by assumption) ?_
            simp only [List.getElem_toArray, List.getElem_cons_zero, List.getElem_cons_succ, Act.put, List.setIfInBounds_toArray, List.set_cons_zero, List.set_cons_succ]
            refine wpAnyH_take (i := 44) (v := undef) rfl (by kernel_rfl) (by kernel_rfl) (by kernel_rfl) (fun _ _ _ h => h) (Or.inr ⟨by rfl, rfl⟩) (by assumption) ?_
            simp only [List.getElem_toArray, List.getElem_cons_zero, List.getElem_cons_succ, Act.put, List.setIfInBounds_toArray, List.set_cons_zero, List.set_cons_succ]
            refine wpAnyH_take (i := 45) (v := undef) rfl (by kernel_rfl) (by kernel_rfl) (by kernel_rfl) (fun _ _ _ h => h) (Or.inr ⟨by rfl, rfl⟩) (by assumption) ?_
            simp only [List.getElem_toArray, List.getElem_cons_zero, List.getElem_cons_succ, Act.put, List.setIfInBounds_toArray, List.set_cons_zero, List.set_cons_succ]
            refine wpAnyH_take (i := 46) (v := ?_) rfl (by kernel_rfl) (by kernel_rfl) (by kernel_rfl) (fun _ _ _ h => h) (Or.inl ⟨by rfl, ?_⟩) (by assumption) ?_
            rotate_left
            · intro w hSw; (try dsimp only at hSw); go_simp; try with_reducible rfl
            simp only [List.getElem_toArray, List.getElem_cons_zero, List.getElem_cons_succ, Act.put, List.setIfInBounds_toArray, List.set_cons_zero, List.set_cons_succ]
            refine wpAnyH_take (i := 47) (v := ?_) rfl (by kernel_rfl) (by kernel_rfl) (by kernel_rfl) (fun _ _ _ h => h) (Or.inl ⟨by rfl, ?_⟩) (by assumption) ?_
            rotate_left
            · intro w hSw; (try dsimp only at hSw); go_simp; try with_reducible rfl
            simp only [List.getElem_toArray, List.getElem_cons_zero, List.getElem_cons_succ, Act.put, List.setIfInBounds_toArray, List.set_cons_zero, List.set_cons_succ]
            refine wpAnyH_done (by kernel_rfl) ?_ _
            rename _ ∧ _ ∧ _ ∧ _ ∧ _ ∧ _ ∧ _ ∧ _ ∧ Hid (Bl wx _) => hq
            have hby := hq.2.2.2.2.2.2.2.2.out
            clear hq
            have hm9 := (HBM.out.bl hbl).bl hby
            have hn9 := hbn.bl hby
            have y0 := hn9.at 0 (by show 0 < 4; omega) (v := .bool no) rfl
            have y1 := hn9.at 1 (by show 1 < 4; omega) (v := .int .i64 nn) rfl
            have y2 := hn9.at 2 (by show 2 < 4; omega) (v := .int .i64 nx) rfl
            have y3 := hn9.at 3 (by show 3 < 4; omega) (v := .string nd) rfl
            have b0 := hm9.at 0 (by show 0 < 4; omega) (v := .bool mo) rfl
            have bf0 := hm9.fr 0 (by show 0 < 4; omega)
            have b1 := hm9.at 1 (by show 1 < 4; omega) (v := .int .i64 mn) rfl
            have bf1 := hm9.fr 1 (by show 1 < 4; omega)
            have b2 := hm9.at 2 (by show 2 < 4; omega) (v := .int .i64 mx) rfl
            have bf2 := hm9.fr 2 (by show 2 < 4; omega)
            have b3 := hm9.at 3 (by show 3 < 4; omega) (v := .string md) rfl
            have bf3 := hm9.fr 3 (by show 3 < 4; omega)
            have HM8 := Lib.hid (show Bk _ mb (Ms.l ⟨no, nn, nx, nd⟩) from hm9.fourV (.bool no) (.int .i64 nn) (.int .i64 nx) (.string nd))
            have HP8 := Lib.hid (((hpr.out.go hbl).go hby).far4 (Ne.symm hmg) (.bool no) (.int .i64 nn) (.int .i64 nx) (.string nd))
            have HI8 := Lib.hid (((hiz.out.go hbl).go hby).far4 HIA.out (.bool no) (.int .i64 nn) (.int .i64 nx) (.string nd))
            have HW8 := Lib.hid (((hw.out.trans hbl).trans hby).four hmw (.bool no) (.int .i64 nn) (.int .i64 nx) (.string nd))
            clear hm9 hn9 hby hbl hbn hpr hiz hw HBM HN GZ n0 n1 n2 n3 p0 p1 p2 p3
            go_wp2_with fail
            go_roundw
            case rel => exact ⟨k + 1, by omega, by go_num, by rw [HLS.out], Lib.hid ⟨⟨no, nn, nx, nd⟩, .inr HM9.out.symm, HMM.out.1, HMM.out.2, HM8.out⟩, HP8, HI8, HW8⟩
            case measure => simp [intOf]; omega
        · obtain rfl : k = K + 1 := by omega
          obtain ⟨m, hm, hok, hms, hbk⟩ := hbm.out
          obtain rfl : m = zM := (hm.resolve_left (by omega)).trans ML.out
          have a0 := hbk.at 0 (by show 0 < 4; omega) (v := .bool false) rfl
          have a1 := hbk.at 1 (by show 1 < 4; omega) (v := .int .i64 0) rfl
          have a2 := hbk.at 2 (by show 2 < 4; omega) (v := .int .i64 0) rfl
          have a3 := hbk.at 3 (by show 3 < 4; omega) (v := .string ⟨#[]⟩) rfl
          rw [LE.out]
          clear hm hok hms hbk hbm
          go_wp2_with fail
          go_ret
          exact ⟨rfl, hw.out⟩

end Go.Proofs.Ytnapelocjcoofaa
