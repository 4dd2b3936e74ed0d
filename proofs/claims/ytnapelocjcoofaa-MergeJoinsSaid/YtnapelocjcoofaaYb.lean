/-
  MergeJoins: Check, CheckPiece and Join return what the chapter specifies.
-/
import Derived.Test.YtnapelocjcoofaaYa
import Derived.Test.YtnapelocjcoofaaEp
import Derived.Test.YtnapelocjcoofaaEg
import Derived.Deep.AppendLies
import Derived.Laws.Closers25b
namespace Go.Proofs.Ytnapelocjcoofaa
open Go.RowKit Go.Proofs.Ytnapelocjcoofaa.Cr

theorem own_ne {w : World} {base n : Nat} {e : TypeId} {k g c : Nat} {xs : List Value} (h : w.ownsRow base e k (.slice (some ⟨g, 0, none⟩) n c) n xs) {p : Addr} (hp : p.block ≠ g) (x : Value) : (w.setCell p x).ownsRow base e k (.slice (some ⟨g, 0, none⟩) n c) n xs := by
  refine ⟨h.1, ?_⟩
  rcases h.2 with h0 | ⟨g', cap, cur, h1, h2, h3, h4⟩
  · exact .inl h0
  · have e : g = g' := by simpa using (show g = g' from by simp at h1; exact h1.1)
    exact .inr ⟨g', cap, cur, h1, h2, (Below.heap_setCell w p x g' (fun e2 => hp (by omega))).trans h3, h4⟩

theorem Bk.grown {w w' : World} {c : Nat} {vs : List Value} {row : Option Nat} (h : Bk w c vs) (g : w.grownBy w' row) (hr : row ≠ some c) : Bk w' c vs := by
  have hb : w'.heap[c]? = w.heap[c]? := g.block c h.1 (fun e => hr e.symm)
  refine ⟨Nat.lt_of_lt_of_le h.1 g.size, fun i hi => ?_⟩
  have h2 := h.2 i hi
  unfold World.cell? World.frozen? at *
  rw [hb]
  exact h2
theorem rs_two (w : World) (po : Bool) (pn pc : Int) (a : ByteArray) (qo : Bool) (qn qc : Int) (b : ByteArray) (t : TypeId) : Rs (w.alloc (.cells #[.bool po, .int .i64 pn, .int .i64 pc, .string a, .bool qo, .int .i64 qn, .int .i64 qc, .string b] t)) (some ⟨w.heap.size, 0, none⟩) 4 (([⟨po, pn, pc, a⟩, ⟨qo, qn, qc, b⟩] : List Pc).map Pc.l) := fun j hj => by
  have h := Bk.new w [.bool po, .int .i64 pn, .int .i64 pc, .string a, .bool qo, .int .i64 qn, .int .i64 qc, .string b] t
  refine ⟨w.heap.size, 0, rfl, h.1, fun i hi => ?_⟩
  have hj3 : j < 2 := hj
  have e := (h.2 (j * 4 + i) (by show j * 4 + i < 8; omega)).1
  rw [Nat.zero_add]
  rw [e]
  match j, hj3, i, hi with
  | 0, _, 0, _ => rfl | 0, _, 1, _ => rfl | 0, _, 2, _ => rfl | 0, _, 3, _ => rfl
  | 1, _, 0, _ => rfl | 1, _, 1, _ => rfl | 1, _, 2, _ => rfl | 1, _, 3, _ => rfl

theorem jnA_okM {m : Ms} {p : Pc} (h : okM m = true) : okM (jnA m p).1.1 = true := by
  cases hop : okP p with
  | false => rw [jn_noP h hop]; exact okM_zero
  | true => rw [jn_yes h hop]; exact jnR_ok h hop
theorem two_states {m1 m2 : Ms} (h1 : (m1.data.size : Int) ≤ 4000) (h2 : (m2.data.size : Int) ≤ 4000) (t : Nat) (ht : t < 2) :
    ∃ m : Ms, (m.data.size : Int) ≤ 4000 ∧ ∀ w, (Instr.index 52 (.agg #[.bool m1.on, .int .i64 m1.num, .int .i64 m1.next, .string m1.data, .bool m2.on, .int .i64 m2.num, .int .i64 m2.next, .string m2.data]) (.int .i64 t)).run Try.prog w = .ok (.agg #[.bool m.on, .int .i64 m.num, .int .i64 m.next, .string m.data]) w := by
  match t, ht with
  | 0, _ => exact ⟨m1, h1, fun _ => by kernel_rfl⟩
  | 1, _ => exact ⟨m2, h2, fun _ => by kernel_rfl⟩

set_option maxRecDepth 100000 in
set_option maxHeartbeats 8000000 in
theorem joins_law (mo : Bool) (mn mx : Int) (md : ByteArray) (hmd : md.size ≤ maxLen) (po : Bool) (pn pc : Int) (pd : ByteArray) (hpd : pd.size ≤ maxLen)
    (d : ByteArray) (L N : Nat) (hL : L < 65536) (hN : N < 256) (A : Option Addr) (us : List Nat) (c : Nat) (hd : d.size ≤ maxLen) (hl : (us.length : Int) ≤ 9223372036854775807)
    (d' : ByteArray) (L' N' : Nat) (hL' : L' < 65536) (hN' : N' < 256) (A' : Option Addr) (us' : List Nat) (c' : Nat) (hd' : d'.size ≤ maxLen) (hl' : (us'.length : Int) ≤ 9223372036854775807)
    (B : Option Addr) (os : List Nat) (e : Nat) (ho : (os.length : Int) ≤ 9223372036854775807) (fl : Nat) (hfl : fl < 65536) (w : World) (hU : Uz w A us) (hU' : Uz w A' us') (hO : Uz w B os) :
    Calls Try.prog 4 #[.agg #[.bool mo, .int .i64 mn, .int .i64 mx, .string md], .agg #[.bool po, .int .i64 pn, .int .i64 pc, .string pd], .agg #[.string d, .int .u16 (L : Int), .int .u8 (N : Int), .slice A us.length c, .string d', .int .u16 (L' : Int), .int .u8 (N' : Int), .slice A' us'.length c'], .slice B os.length e, .int .u16 (fl : Int)] w fun e w' => e = .returned (.bool true) ∧ Bl w w' := by
  have KW := Lib.hid (fun w => mworks_any w)
  have KS := Lib.hid (fun w => short_any mo mn mx md po pn pc pd hmd hpd w)
  have hms := sh30_size md
  have hps := sh30_size pd
  generalize sh30 md = mD at *
  generalize sh30 pd = pD at *
  have KP := Lib.hid (fun w hU => dpieces_any d L N hL hN A us c hd hl 30 (MO := 30) rfl (by decide) w hU)
  have KQ := Lib.hid (fun w hU => dpieces_any d' L' N' hL' hN' A' us' c' hd' hl' 30 (MO := 30) rfl (by decide) w hU)
  have hok : ∀ (d : ByteArray) (L N : Nat) (us : List Nat), ((dps d L N us 30).length ≤ 31 ∧ 0 < (dps d L N us 30).length) ∧ ∀ p ∈ dps d L N us 30, 64 ≤ p.data.size ∧ p.data.size ≤ 1522 := fun d L N us => by
    refine ⟨by unfold dps; rw [upto_length]; have := dcs_len d L us 30; omega, fun p hp => ?_⟩
    obtain ⟨i, hi, rfl⟩ := upto_mem hp
    exact (okP_iff.1 (pcI_ok (num := (N : Int) % 4) (frm_lo d L) (frm_hi d L) (dcs_ok d L us 30) (by omega) (i := i) (by omega))).2.2.2
  have hk1 := hok d L N us
  have hk2 := hok d' L' N' us'
  unfold PcRes at KP KQ
  unfold drV at KP KQ
  generalize dps d L N us 30 = ps at *
  generalize dps d' L' N' us' 30 = qs at *
  obtain ⟨⟨hl1, hl0⟩, hk1⟩ := hk1
  obtain ⟨⟨hl2, -⟩, hk2⟩ := hk2
  have HKK := Lib.hid (fun p (hp : p ∈ ps ++ qs) => show 64 ≤ p.data.size ∧ p.data.size ≤ 1522 from (List.mem_append.1 hp).elim (hk1 p) (hk2 p))
  have HLL := Lib.hid (show 0 < ps.length ∧ ps.length ≤ 31 ∧ qs.length ≤ 31 from ⟨hl0, hl1, hl2⟩)
  have HU := Lib.hid hU
  have HU' := Lib.hid hU'
  have HO := Lib.hid hO
  clear hok hk1 hk2 hl0 hl1 hl2 hU hU' hO hd hl hL hN hd' hl' hL' hN' hmd hpd
  go_enter Try.func4, Try.ntmps4
  go_upto_region 1 with fail
  have A0 := ((Bk.new w [.bool mo, .int .i64 mn, .int .i64 mx, .string md] 43).alloc (.cells #[.bool po, .int .i64 pn, .int .i64 pc, .string pd] 45)).alloc (.cells #[.string d, .int .u16 (L : Int), .int .u8 (N : Int), .slice A us.length c, .string d', .int .u16 (L' : Int), .int .u8 (N' : Int), .slice A' us'.length c'] 46)
  have B0 := (Bk.new (w.alloc (.cells #[.bool mo, .int .i64 mn, .int .i64 mx, .string md] 43)) [.bool po, .int .i64 pn, .int .i64 pc, .string pd] 45).alloc (.cells #[.string d, .int .u16 (L : Int), .int .u8 (N : Int), .slice A us.length c, .string d', .int .u16 (L' : Int), .int .u8 (N' : Int), .slice A' us'.length c'] 46)
  have D0 := Bk.new ((w.alloc (.cells #[.bool mo, .int .i64 mn, .int .i64 mx, .string md] 43)).alloc (.cells #[.bool po, .int .i64 pn, .int .i64 pc, .string pd] 45)) [.string d, .int .u16 (L : Int), .int .u8 (N : Int), .slice A us.length c, .string d', .int .u16 (L' : Int), .int .u8 (N' : Int), .slice A' us'.length c'] 46
  have G0 := (((Bl.refl w).alloc (.cells #[.bool mo, .int .i64 mn, .int .i64 mx, .string md] 43)).alloc (.cells #[.bool po, .int .i64 pn, .int .i64 pc, .string pd] 45)).alloc (.cells #[.string d, .int .u16 (L : Int), .int .u8 (N : Int), .slice A us.length c, .string d', .int .u16 (L' : Int), .int .u8 (N' : Int), .slice A' us'.length c'] 46)
  simp only [World.size_alloc] at B0 D0
  have eb : w.heap.size < w.heap.size + 1 := by omega
  have ec : w.heap.size + 1 < w.heap.size + 1 + 1 := by omega
  have ea : w.heap.size ≤ w.heap.size := Nat.le_refl _
  generalize World.alloc _ _ = W at *
  generalize w.heap.size + 1 + 1 = cb at *
  generalize w.heap.size + 1 = b at *
  obtain ⟨a, ha⟩ : ∃ a, a = w.heap.size := ⟨_, rfl⟩
  rw [← ha] at A0 eb ea
  rw [← ha]
  have HA := Lib.hid ha
  clear ha ea
  have nab : a ≠ b := by omega
  have nac : a ≠ cb := by omega
  have nbc : b ≠ cb := by omega
  have HW : Hid (w.heap.size ≤ a ∧ w.heap.size ≤ b ∧ w.heap.size ≤ cb) := Lib.hid (by have := HA.out; omega)
  have HA0 := Lib.hid A0
  have HB0 := Lib.hid B0
  have HD0 := Lib.hid D0
  have HG0 := Lib.hid G0
  have a0 := A0.at 0 (by show 0 < 4; omega) (v := .bool mo) rfl
  have a1 := A0.at 1 (by show 1 < 4; omega) (v := .int .i64 mn) rfl
  have a2 := A0.at 2 (by show 2 < 4; omega) (v := .int .i64 mx) rfl
  have a3 := A0.at 3 (by show 3 < 4; omega) (v := .string md) rfl
  have b0 := B0.at 0 (by show 0 < 4; omega) (v := .bool po) rfl
  have b1 := B0.at 1 (by show 1 < 4; omega) (v := .int .i64 pn) rfl
  have b2 := B0.at 2 (by show 2 < 4; omega) (v := .int .i64 pc) rfl
  have b3 := B0.at 3 (by show 3 < 4; omega) (v := .string pd) rfl
  clear A0 B0 D0 G0 eb ec
  go_upto_region 2 with (go_at_call 17; (with_reducible refine (KS.out _).mono ?_); rintro e wn ⟨rfl, hgr⟩; have A5 := HA0.out.bl hgr; have B5 := HB0.out.bl hgr; have a0 := A5.at 0 (by show 0 < 4; omega) (v := .bool mo) rfl; have af0 := A5.fr 0 (by show 0 < 4; omega); have a1 := A5.at 1 (by show 1 < 4; omega) (v := .int .i64 mn) rfl; have af1 := A5.fr 1 (by show 1 < 4; omega); have a2 := A5.at 2 (by show 2 < 4; omega) (v := .int .i64 mx) rfl; have af2 := A5.fr 2 (by show 2 < 4; omega); have a3 := A5.at 3 (by show 3 < 4; omega) (v := .string md) rfl; have af3 := A5.fr 3 (by show 3 < 4; omega); have b0 := B5.at 0 (by show 0 < 4; omega) (v := .bool po) rfl; have bf0 := B5.fr 0 (by show 0 < 4; omega); have b1 := B5.at 1 (by show 1 < 4; omega) (v := .int .i64 pn) rfl; have bf1 := B5.fr 1 (by show 1 < 4; omega); have b2 := B5.at 2 (by show 2 < 4; omega) (v := .int .i64 pc) rfl; have bf2 := B5.fr 2 (by show 2 < 4; omega); have b3 := B5.at 3 (by show 3 < 4; omega) (v := .string pd) rfl; have bf3 := B5.fr 3 (by show 3 < 4; omega); clear A5 B5)
  have A6 := (((((HA0.out.bl hgr).fourV (.bool mo) (.int .i64 mn) (.int .i64 mx) (.string mD)).far (p := ⟨b, 0, none⟩) (Ne.symm nab) (.bool po)).far (p := ⟨b, 1, none⟩) (Ne.symm nab) (.int .i64 pn)).far (p := ⟨b, 2, none⟩) (Ne.symm nab) (.int .i64 pc)).far (p := ⟨b, 3, none⟩) (Ne.symm nab) (.string pD)
  have B6 := ((((((HB0.out.bl hgr)).far (p := ⟨a, 0, none⟩) nab (.bool mo)).far (p := ⟨a, 1, none⟩) nab (.int .i64 mn)).far (p := ⟨a, 2, none⟩) nab (.int .i64 mx)).far (p := ⟨a, 3, none⟩) nab (.string mD)).fourV (.bool po) (.int .i64 pn) (.int .i64 pc) (.string pD)
  have D6 := (((((((((HD0.out.bl hgr)).far (p := ⟨a, 0, none⟩) nac (.bool mo)).far (p := ⟨a, 1, none⟩) nac (.int .i64 mn)).far (p := ⟨a, 2, none⟩) nac (.int .i64 mx)).far (p := ⟨a, 3, none⟩) nac (.string mD)).far (p := ⟨b, 0, none⟩) nbc (.bool po)).far (p := ⟨b, 1, none⟩) nbc (.int .i64 pn)).far (p := ⟨b, 2, none⟩) nbc (.int .i64 pc)).far (p := ⟨b, 3, none⟩) nbc (.string pD)
  have G6 := ((HG0.out.trans hgr).four HW.out.1 (.bool mo) (.int .i64 mn) (.int .i64 mx) (.string mD)).four HW.out.2.1 (.bool po) (.int .i64 pn) (.int .i64 pc) (.string pD)
  have HA2 := Lib.hid A6
  have HB2 := Lib.hid B6
  have HD2 := Lib.hid D6
  have HG2 := Lib.hid G6
  clear A6 B6 D6 G6 hgr HA0 HB0 HD0 HG0 KS a0 af0 b0 bf0 a1 af1 b1 bf1 a2 af2 b2 bf2 a3 af3 b3 bf3
  generalize ((((((((wn.setCell ⟨a, 0, none⟩ (.bool mo)).setCell ⟨a, 1, none⟩ (.int .i64 mn)).setCell ⟨a, 2, none⟩ (.int .i64 mx)).setCell ⟨a, 3, none⟩ (.string mD)).setCell ⟨b, 0, none⟩ (.bool po)).setCell ⟨b, 1, none⟩ (.int .i64 pn)).setCell ⟨b, 2, none⟩ (.int .i64 pc)).setCell ⟨b, 3, none⟩ (.string pD)) = W2 at *
  have x00 := Lib.hid (Bl.refl W2)
  have HN := Lib.hid (fun (w' : World) (gg : Bl W2 w') => (show w'.cell? ⟨cb, 0, none⟩ = some (.string d) ∧ w'.cell? ⟨cb, 1, none⟩ = some (.int .u16 (L : Int)) ∧ w'.cell? ⟨cb, 2, none⟩ = some (.int .u8 (N : Int)) ∧ w'.cell? ⟨cb, 3, none⟩ = some (.slice A us.length c) ∧ w'.cell? ⟨cb, 4, none⟩ = some (.string d') ∧ w'.cell? ⟨cb, 5, none⟩ = some (.int .u16 (L' : Int)) ∧ w'.cell? ⟨cb, 6, none⟩ = some (.int .u8 (N' : Int)) ∧ w'.cell? ⟨cb, 7, none⟩ = some (.slice A' us'.length c') ∧ Hid (Bl W2 w') from
    ⟨(HD2.out.bl gg).at 0 (by show 0 < 8; omega) rfl, (HD2.out.bl gg).at 1 (by show 1 < 8; omega) rfl, (HD2.out.bl gg).at 2 (by show 2 < 8; omega) rfl, (HD2.out.bl gg).at 3 (by show 3 < 8; omega) rfl, (HD2.out.bl gg).at 4 (by show 4 < 8; omega) rfl, (HD2.out.bl gg).at 5 (by show 5 < 8; omega) rfl, (HD2.out.bl gg).at 6 (by show 6 < 8; omega) rfl, (HD2.out.bl gg).at 7 (by show 7 < 8; omega) rfl, Lib.hid gg⟩))
  have HYY := Lib.hid (show w.heap.size ≤ W2.heap.size from HG2.out.size)
  have HP1 := Lib.hid (fun (w' : World) (hw : Bl W2 w') => KP.out w' (HU.out.go (HG2.out.trans hw)))
  have HP2 := Lib.hid (fun (w' : World) (hw : Bl W2 w') => KQ.out w' (HU'.out.go (HG2.out.trans hw)))
  obtain ⟨i0, hi, hz0, hz1, hz2⟩ := info_parts info_pc
  go_cut [11] (fun s1 wz => Hid (wz.ownsRow W2.heap.size 45 4 s1 (ps ++ qs).length (flP (ps ++ qs)) ∧ Bl W2 wz))
  case first =>
    go_region_held3 (fun w' => w'.cell? ⟨cb, 0, none⟩ = some (.string d) ∧ w'.cell? ⟨cb, 1, none⟩ = some (.int .u16 (L : Int)) ∧ w'.cell? ⟨cb, 2, none⟩ = some (.int .u8 (N : Int)) ∧ w'.cell? ⟨cb, 3, none⟩ = some (.slice A us.length c) ∧ w'.cell? ⟨cb, 4, none⟩ = some (.string d') ∧ w'.cell? ⟨cb, 5, none⟩ = some (.int .u16 (L' : Int)) ∧ w'.cell? ⟨cb, 6, none⟩ = some (.int .u8 (N' : Int)) ∧ w'.cell? ⟨cb, 7, none⟩ = some (.slice A' us'.length c') ∧ Hid (Bl W2 w')) (first | with_reducible assumption | (exact HN.out _ HBy.out) | (refine HN.out _ ?_; (repeat (first | exact Bl.refl _ | with_reducible refine Bl.drew ?_ | with_reducible refine Bl.alloc ?_ _ | with_reducible refine Bl.trans ?_ hgr | with_reducible refine Bl.trans ?_ hgs)); done) | fail) (first | (go_at_call 18; (with_reducible refine (HP1.out _ ?_).mono ?_); ((repeat (first | exact Bl.refl _ | with_reducible refine Bl.drew ?_ | with_reducible refine Bl.alloc ?_ _ | with_reducible refine Bl.trans ?_ hgr | with_reducible refine Bl.trans ?_ hgs))); rintro e wn ⟨v, rfl, hown, hgr⟩; have HOW := Lib.hid (own_base hown (Bl.size (a := W2) (by (repeat (first | exact Bl.refl _ | with_reducible refine Bl.drew ?_ | with_reducible refine Bl.alloc ?_ _ | with_reducible refine Bl.trans ?_ hgr | with_reducible refine Bl.trans ?_ hgs))))); clear hown) | (go_at_call 18; (with_reducible refine (HP2.out _ ?_).mono ?_); ((repeat (first | exact Bl.refl _ | with_reducible refine Bl.drew ?_ | with_reducible refine Bl.alloc ?_ _ | with_reducible refine Bl.trans ?_ hgr | with_reducible refine Bl.trans ?_ hgs))); rintro e wn' ⟨v2, rfl, hown, hgs⟩; obtain ⟨-, A2, c2, rfl, -, -, hrs⟩ := rows_of hown; have HRS := Lib.hid hrs; clear hown hrs) | (refine step_appR _ rfl 4 (by decide) _ _ _ rfl W2.heap.size 45 i0 _ 40 Try.underlying35 hi hz0 hz1 hz2 rfl v ps.length (flP ps) rfl (by first | exact HOW.out | exact own_bl HOW.out hgs) A2 qs.length c2 (qs.map Pc.l) l_four l_ones rfl (by rw [List.length_map]) (by first | exact HRS.out | exact HRS.out.bl hgr) (by have := HLL.out; unfold maxLen; omega) (by have := HLL.out; omega) (Bl.size (by (repeat (first | exact Bl.refl _ | with_reducible refine Bl.drew ?_ | with_reducible refine Bl.alloc ?_ _ | with_reducible refine Bl.trans ?_ hgr | with_reducible refine Bl.trans ?_ hgs)))) ?_; intro v9 w9 hown9 hgrow9 hv9; have HBy := Lib.hid (show Bl W2 w9 from Bl.grownBy (by (repeat (first | exact Bl.refl _ | with_reducible refine Bl.drew ?_ | with_reducible refine Bl.alloc ?_ _ | with_reducible refine Bl.trans ?_ hgr | with_reducible refine Bl.trans ?_ hgs))) hgrow9 (fun j e => own_block_ge HOW.out j e)); have HO9 := Lib.hid hown9; clear hown9 hgrow9 hv9) | fail)
    all_goals (go_wp2_with fail; go_meet)
    all_goals exact Lib.hid ⟨by rw [List.length_append, flP_app]; exact HO9.out, HBy.out⟩
  have HO2 := Lib.hid hcut.out.1
  have HB2z := Lib.hid hcut.out.2
  rename World => wz
  clear hcut HN HP1 HP2 KP KQ HU HU' x00
  have hlen : (ps ++ qs).length ≤ 62 ∧ 0 < (ps ++ qs).length := by rw [List.length_append]; have := HLL.out; omega
  generalize ps ++ qs = aq at *
  obtain ⟨hT1, hT2⟩ := hlen
  obtain ⟨-, g, c9, rfl, hbg, hc1, hc2, hpr⟩ := Pr.of_own hT2 HO2.out
  obtain ⟨T, hT⟩ : ∃ T, aq.length = T := ⟨_, rfl⟩
  rw [hT] at hT1 hT2 hc1 HO2
  rw [hT]
  have HT := Lib.hid hT
  obtain ⟨j, hj⟩ : ∃ j, fl % T = j := ⟨_, rfl⟩
  have hjT : j < T := by rw [← hj]; exact Nat.mod_lt _ hT2
  have ej : (fl : Int) % (T : Int) = (j : Int) := by rw [← hj, Int.natCast_emod]
  obtain ⟨pp, hpp⟩ : ∃ pp, aq.getD j ⟨false, 0, 0, ⟨#[]⟩⟩ = pp := ⟨_, rfl⟩
  have hmem : pp ∈ aq := by rw [← hpp, List.getD_eq_getElem?_getD, List.getElem?_eq_getElem (by rw [hT]; exact hjT)]; exact List.getElem_mem _
  obtain ⟨p0, p1, p2, p3⟩ := hpr.piece (k := j) (by rw [hT]; exact hjT) hpp
  have hxz := HKK.out pp hmem
  clear hpp hmem hj hT
  obtain ⟨xo, xn, xc, xd⟩ := pp
  dsimp only at p0 p1 p2 p3 hxz
  obtain ⟨hx1, hx2⟩ := hxz
  have hgl := hpr.1
  have etm : (fl : Int).tmod (T : Int) = (j : Int) := by rw [Int.tmod_eq_emod_of_nonneg (by omega)]; exact ej
  have ewo : IntKind.i64.wrap (fl : Int) = (fl : Int) := IntWalk.i64_in _ (by omega)
  have ewj : IntKind.i64.wrap (j : Int) = (j : Int) := IntWalk.i64_in _ (by omega)
  have hT0 : ((T : Int) == 0) = false := beq_eq_false_iff_ne.2 (by omega)
  have hjTi : (j : Int) < (T : Int) := by omega
  have hT0' : ¬ (T : Int) = 0 := by omega
  go_upto_region 4 with fail
  clear p0 p1 p2 p3 etm hT0 hT0' hjTi ewj ej hjT hgl
  have hbx : Bk (wz.alloc (.cells #[.bool xo, .int .i64 xn, .int .i64 xc, .string xd] 45)) wz.heap.size [.bool xo, .int .i64 xn, .int .i64 xc, .string xd] := Bk.new wz _ _
  have hgx : Bl wz (wz.alloc (.cells #[.bool xo, .int .i64 xn, .int .i64 xc, .string xd] 45)) := (Bl.refl _).alloc _
  have hwx : w.heap.size ≤ wz.heap.size := Nat.le_trans HYY.out HB2z.out.size
  generalize wz.alloc (.cells #[.bool xo, .int .i64 xn, .int .i64 xc, .string xd] 45) = W4 at *
  have HSEP := Lib.hid (show g < wz.heap.size ∧ a < wz.heap.size ∧ b < wz.heap.size from ⟨hpr.1, Nat.lt_of_lt_of_le HA2.out.1 HB2z.out.size, Nat.lt_of_lt_of_le HB2.out.1 HB2z.out.size⟩)
  generalize wz.heap.size = xb at *
  obtain ⟨q, hq⟩ : ∃ q, fl % (8 * xd.size) = q := ⟨_, rfl⟩
  have hq1 : q < 8 * xd.size := by rw [← hq]; exact Nat.mod_lt _ (by omega)
  have eq1 : (fl : Int) % (8 * (xd.size : Int)) = (q : Int) := by rw [← hq, Int.natCast_emod, Int.natCast_mul]; rfl
  have etq : (fl : Int).tmod (8 * (xd.size : Int)) = (q : Int) := by rw [Int.tmod_eq_emod_of_nonneg (by omega)]; exact eq1
  have ew8 : IntKind.i64.wrap (8 * (xd.size : Int)) = 8 * (xd.size : Int) := IntWalk.i64_in _ (by omega)
  have ewq : IntKind.i64.wrap (q : Int) = (q : Int) := IntWalk.i64_in _ (by omega)
  have h80 : ((8 * (xd.size : Int)) == 0) = false := beq_eq_false_iff_ne.2 (by omega)
  have h80' : ¬ 8 * (xd.size : Int) = 0 := by omega
  have x3 := hbx.at 3 (by show 3 < 4; omega) (v := .string xd) rfl
  have xf := hbx.fr 3 (by show 3 < 4; omega)
  have hxl := hbx.1
  clear hq
  obtain ⟨z, hz1', hz2'⟩ : ∃ z : Nat, z < 4294967296 ∧ bits BinOp.or IntKind.u32 (IntKind.u32.wrap (fl : Int)) 1 = (z : Int) := by
    have h := bits_within .or .u32 (IntKind.u32.wrap (fl : Int)) 1
    obtain ⟨h1, h2⟩ := h
    have h3 : (0 : Int) ≤ bits BinOp.or IntKind.u32 (IntKind.u32.wrap (fl : Int)) 1 := h1
    have h4 : bits BinOp.or IntKind.u32 (IntKind.u32.wrap (fl : Int)) 1 ≤ 4294967295 := h2
    exact ⟨(bits BinOp.or IntKind.u32 (IntKind.u32.wrap (fl : Int)) 1).toNat, by omega, by omega⟩
  have KF := Lib.hid (fun w => flip_any xd q z (by omega) hq1 hz1' w)
  have hfs : (bstr (Cr.flip xd.data.toList q z 32)).size = xd.size := by rw [show bstr (Cr.flip xd.data.toList q z 32) = fp xd q z from rfl, fp_size]
  generalize bstr (Cr.flip xd.data.toList q z 32) = xf' at *
  unfold Go.Proofs.Ytnapelocjcoofaa.u32 at KF
  have HX4 := Lib.hid (fun (w' : World) (gg : Bl W4 w') => (show w'.cell? ⟨xb, 3, none⟩ = some (.string xd) ∧ Hid (Bl W4 w') from ⟨(gg.cell (p := ⟨xb, 3, none⟩) hxl).trans x3, Lib.hid gg⟩))
  have HXB := Lib.hid hbx
  have HGX := Lib.hid hgx
  clear hz1' hbx hgx
  go_cut [12] (fun s1 w5 => Hid (s1 = .pointer (some ⟨xb, 0, none⟩) ∧ ∃ w6, Bl W4 w6 ∧ Bk w5 xb [.bool xo, .int .i64 xn, .int .i64 xc, .string xf'] ∧ w5 = w6.setCell ⟨xb, 3, none⟩ (.string xf')))
  case first =>
    go_region_with (go_at_call 19; (with_reducible refine (KF.out _).mono ?_); rintro e wn ⟨rfl, hgr⟩; have x3 := (HXB.out.bl (Bl.trans (Bl.refl W4).drew hgr)).at 3 (by show 3 < 4; omega) (v := .string xd) rfl; have xf := (HXB.out.bl (Bl.trans (Bl.refl W4).drew hgr)).fr 3 (by show 3 < 4; omega))
    all_goals (go_wp2_with fail; go_meet)
    all_goals exact Lib.hid ⟨rfl, wn, (Bl.refl W4).drew.trans hgr, (HXB.out.bl ((Bl.refl W4).drew.trans hgr)).set (i := 3) (by show 3 < 4; omega) (.string xf') rfl, rfl⟩
  obtain ⟨rfl, w6, hg6, hbx6, rfl⟩ := hcut.out
  have hsep := HSEP.out
  have hgx : xb ≠ g := by omega
  have hO6 := own_ne (own_bl (own_bl HO2.out HGX.out) hg6) (p := ⟨xb, 3, none⟩) hgx (.string xf')
  have hA6 := (((HA2.out.bl HB2z.out).bl HGX.out).bl hg6).far (p := ⟨xb, 3, none⟩) (show xb ≠ a by omega) (.string xf')
  have hB6 := (((HB2.out.bl HB2z.out).bl HGX.out).bl hg6).far (p := ⟨xb, 3, none⟩) (show xb ≠ b by omega) (.string xf')
  have hG6 := ((((HG2.out.trans HB2z.out).trans HGX.out).trans hg6).setCell (p := ⟨xb, 3, none⟩) hwx (.string xf'))
  have hag : a ≠ g ∧ b ≠ g := by have h1 := HA2.out.1; have h2 := HB2.out.1; omega
  have HS6 := Lib.hid (show W2.heap.size ≤ (w6.setCell ⟨xb, 3, none⟩ (.string xf')).heap.size by rw [World.size_setCell]; exact Nat.le_trans HB2z.out.size (Nat.le_trans HGX.out.size hg6.size))
  generalize w6.setCell ⟨xb, 3, none⟩ (.string xf') = W6 at *
  have HO6 := Lib.hid hO6
  have HA6 := Lib.hid hA6
  have HB6 := Lib.hid hB6
  have HG6 := Lib.hid hG6
  have HAG := Lib.hid hag
  have x0 := hbx6.at 0 (by show 0 < 4; omega) (v := .bool xo) rfl
  have x1 := hbx6.at 1 (by show 1 < 4; omega) (v := .int .i64 xn) rfl
  have x2 := hbx6.at 2 (by show 2 < 4; omega) (v := .int .i64 xc) rfl
  have x3 := hbx6.at 3 (by show 3 < 4; omega) (v := .string xf') rfl
  have y0 := hB6.at 0 (by show 0 < 4; omega) (v := .bool po) rfl
  have y1 := hB6.at 1 (by show 1 < 4; omega) (v := .int .i64 pn) rfl
  have y2 := hB6.at 2 (by show 2 < 4; omega) (v := .int .i64 pc) rfl
  have y3 := hB6.at 3 (by show 3 < 4; omega) (v := .string pD) rfl
  clear hcut hbx6 hO6 hA6 hB6 hG6 hag hsep HSEP HO2 HA2 HB2 HGX HG2 HB2z hg6 hwx HX4 HXB KF hgx hxl hq1 eq1 etq ew8 ewq h80 h80' HD2 hpr hz2'
  go_upto_region 6 with (at_builtin; refine wpList_appR _ rfl 4 (by decide) _ _ _ rfl W2.heap.size 45 i0 _ 40 Try.underlying35 hi hz0 hz1 hz2 rfl _ T (flP aq) rfl (own_bl HO6.out ((Bl.refl _).alloc _)) _ 2 2 (([⟨xo, xn, xc, xf'⟩, ⟨po, pn, pc, pD⟩] : List Pc).map Pc.l) l_four l_ones rfl rfl (rs_two _ _ _ _ _ _ _ _ _ _) (by unfold maxLen; omega) (by omega) (Nat.le_trans HS6.out ((Bl.refl W6).alloc _).size) ?_; intro v9 w9 hown9 hgrow9 hv9)
  have hcat : w9.ownsRow W2.heap.size 45 4 v9 (T + 2) (flP (aq ++ ([⟨xo, xn, xc, xf'⟩, ⟨po, pn, pc, pD⟩] : List Pc))) := by rw [flP_app]; exact hown9
  obtain ⟨-, g9, c10, rfl, hbg9, -, -, hpr9⟩ := Pr.of_own (by omega) hcat
  have hA9 := (HA6.out.alloc _).grown hgrow9 (fun e => HAG.out.1 (Option.some.inj e).symm)
  have hB9 := (HB6.out.alloc _).grown hgrow9 (fun e => HAG.out.2 (Option.some.inj e).symm)
  have hG9 := Bl.grownBy (HG6.out.alloc _) hgrow9 (fun j e => Nat.le_trans HYY.out (own_block_ge (own_bl HO6.out ((Bl.refl _).alloc (.cells #[] 0))) j e))
  have hAQs : ∀ x ∈ aq ++ ([⟨xo, xn, xc, xf'⟩, ⟨po, pn, pc, pD⟩] : List Pc), (x.data.size : Int) ≤ 4000 := fun x hx => by
    rcases List.mem_append.1 hx with h | h
    · have := HKK.out x h; omega
    · simp only [List.mem_cons, List.not_mem_nil, or_false] at h
      rcases h with rfl | rfl
      · show (xf'.size : Int) ≤ 4000; omega
      · show (pD.size : Int) ≤ 4000; omega
  have hAQl : (aq ++ ([⟨xo, xn, xc, xf'⟩, ⟨po, pn, pc, pD⟩] : List Pc)).length = T + 2 := by rw [List.length_append, HT.out]; rfl
  generalize aq ++ ([⟨xo, xn, xc, xf'⟩, ⟨po, pn, pc, pD⟩] : List Pc) = al at *
  obtain ⟨S, hS⟩ : ∃ S, T + 2 = S := ⟨_, rfl⟩
  have hS0 : 0 < S := by omega
  have hSm : S ≤ 64 := by omega
  rw [hS] at hAQl
  rw [hS]
  have HAS := Lib.hid hAQs
  have HSL := Lib.hid hAQl
  have HPR := Lib.hid (hpr9.go ((Bl.refl _).alloc (.cells #[.bool false, .int .i64 0, .int .i64 0, .string ⟨#[]⟩] 43)))
  have HA9 := Lib.hid (hA9.alloc (.cells #[.bool false, .int .i64 0, .int .i64 0, .string ⟨#[]⟩] 43))
  have HB9 := Lib.hid (hB9.alloc (.cells #[.bool false, .int .i64 0, .int .i64 0, .string ⟨#[]⟩] 43))
  have HM := Lib.hid (Bk.new w9 [.bool false, .int .i64 0, .int .i64 0, .string ⟨#[]⟩] 43)
  have HW9 := Lib.hid (hG9.alloc (.cells #[.bool false, .int .i64 0, .int .i64 0, .string ⟨#[]⟩] 43))
  have hmg : g9 ≠ w9.heap.size := Nat.ne_of_lt hpr9.1
  have hma : a ≠ w9.heap.size := Nat.ne_of_lt hA9.1
  have hmb : b ≠ w9.heap.size := Nat.ne_of_lt hB9.1
  have hmw : w.heap.size ≤ w9.heap.size := hG9.size
  clear hcat hown9 hgrow9 hv9 hbg9 hpr9 hA9 hB9 hG9 hAQs hAQl hS HA6 HB6 HG6 HO6 HS6 HAG HKK HT x0 x1 x2 x3 y0 y1 y2 y3 hi hz0 hz1 hz2 HLL
  go_wp2_with fail
  generalize w9.alloc (.cells #[.bool false, .int .i64 0, .int .i64 0, .string ⟨#[]⟩] 43) = W0 at *
  generalize w9.heap.size = sb at *
  go_loopw [14] (fun iv wr => ∃ k : Nat, k ≤ os.length ∧ k ≤ 30 ∧ iv = .int .i64 k ∧ Hid (∃ m, okM m = true ∧ Bk wr sb m.l) ∧ Hid (Pr wr g9 al) ∧ Hid (Bk wr a [.bool mo, .int .i64 mn, .int .i64 mx, .string mD]) ∧ Hid (Bk wr b [.bool po, .int .i64 pn, .int .i64 pc, .string pD]) ∧ Hid (Bl w wr)) (fun iv _ => os.length - (intOf iv).toNat)
  case atStart => exact ⟨0, Nat.zero_le _, Nat.zero_le _, rfl, Lib.hid ⟨zM, okM_zero, HM.out⟩, HPR, HA9, HB9, HW9⟩
  case round =>
    obtain ⟨k, hk, hk6, rfl, hbm, hpr, hab, hbb, hw⟩ := hrel
    by_cases hlt : k < os.length
    · by_cases hlt2 : k < 30
      · obtain ⟨b0, off, ea, hb, c0⟩ := (HO.out.go hw.out).1 k hlt
        have hu := HO.out.2 k
        generalize os.getD k 0 = o at *
        obtain ⟨j, hj⟩ : ∃ j, o % S = j := ⟨_, rfl⟩
        have hjT : j < S := by rw [← hj]; exact Nat.mod_lt _ hS0
        have ej : (o : Int) % (S : Int) = (j : Int) := by rw [← hj, Int.natCast_emod]
        subst ea
        obtain ⟨pp, hpp⟩ : ∃ pp, al.getD j ⟨false, 0, 0, ⟨#[]⟩⟩ = pp := ⟨_, rfl⟩
        have hmem : pp ∈ al := by rw [← hpp, List.getD_eq_getElem?_getD, List.getElem?_eq_getElem (by rw [HSL.out]; exact hjT)]; exact List.getElem_mem _
        obtain ⟨p0, p1, p2, p3⟩ := hpr.out.piece (k := j) (by rw [HSL.out]; exact hjT) hpp
        have hpz := HAS.out pp hmem
        clear hpp hmem hj
        obtain ⟨xo, xn, xc, xd⟩ := pp
        dsimp only at p0 p1 p2 p3 hpz
        have hgl := hpr.out.1
        have etm : (o : Int).tmod (S : Int) = (j : Int) := by rw [Int.tmod_eq_emod_of_nonneg (by omega)]; exact ej
        have ewo : IntKind.i64.wrap (o : Int) = (o : Int) := IntWalk.i64_in _ (by omega)
        have ewj : IntKind.i64.wrap (j : Int) = (j : Int) := IntWalk.i64_in _ (by omega)
        have hT0 : ((S : Int) == 0) = false := beq_eq_false_iff_ne.2 (by omega)
        have hki : (k : Int) < (os.length : Int) := by omega
        have hk60 : (k : Int) < 30 := by omega
        have hjTi : (j : Int) < (S : Int) := by omega
        have hT0' : ¬ (S : Int) = 0 := by omega
        go_upto_region 11 with fail
        clear p0 p1 p2 p3 etm ewo ewj hT0 hT0' hjTi
        have hbp : Bk (wr.alloc (.cells #[.bool xo, .int .i64 xn, .int .i64 xc, .string xd] 45)) wr.heap.size [.bool xo, .int .i64 xn, .int .i64 xc, .string xd] := Bk.new wr _ _
        have hg1 : Bl wr (wr.alloc (.cells #[.bool xo, .int .i64 xn, .int .i64 xc, .string xd] 45)) := (Bl.refl _).alloc _
        replace c0 := (hg1.cell (p := ⟨b0, off + k, none⟩) hb).trans c0
        have hwr : w.heap.size ≤ wr.heap.size := hw.out.size
        have hsep : a ≠ wr.heap.size ∧ b ≠ wr.heap.size ∧ g9 ≠ wr.heap.size := ⟨Nat.ne_of_lt hab.out.1, Nat.ne_of_lt hbb.out.1, Nat.ne_of_lt hpr.out.1⟩
        obtain ⟨st, hstk, hsb⟩ := hbm.out
        have hsbn : sb ≠ wr.heap.size := Nat.ne_of_lt hsb.1
        generalize wr.alloc (.cells #[.bool xo, .int .i64 xn, .int .i64 xc, .string xd] 45) = W1 at *
        generalize wr.heap.size = xb at *
        obtain ⟨r, hr⟩ : ∃ r : Nat, k % 3 = r := ⟨_, rfl⟩
        have er3 : (k : Int).tmod 3 = (r : Int) := by rw [Int.tmod_eq_emod_of_nonneg (by omega)]; omega
        have ewr : IntKind.i64.wrap (r : Int) = (r : Int) := IntWalk.i64_in _ (by omega)
        by_cases hr2 : (r : Int) = 2
        · have hrb : ((r : Int) == 2) = true := beq_iff_eq.2 hr2
          have x2 := hbp.at 2 (by show 2 < 4; omega) (v := .int .i64 xc) rfl
          have xf := hbp.fr 2 (by show 2 < 4; omega)
          obtain ⟨v, hv⟩ : ∃ v : Nat, o % 5 = v := ⟨_, rfl⟩
          have ev5 : (o : Int).tmod 5 = (v : Int) := by rw [Int.tmod_eq_emod_of_nonneg (by omega)]; omega
          have ewv : IntKind.u8.wrap (v : Int) = (v : Int) := IntWalk.u8_in _ (by omega)
          have ewv2 : IntKind.i64.wrap (v : Int) = (v : Int) := IntWalk.i64_in _ (by omega)
          go_upto_region 13 with fail
          have hA3 := (hab.out.bl hg1).far (p := ⟨xb, 2, none⟩) (Ne.symm hsep.1) (.int .i64 (v : Int))
          have hB3 := (hbb.out.bl hg1).far (p := ⟨xb, 2, none⟩) (Ne.symm hsep.2.1) (.int .i64 (v : Int))
          have hS3 := (hsb.bl hg1).far (p := ⟨xb, 2, none⟩) (Ne.symm hsbn) (.int .i64 (v : Int))
          have hP3 := (hpr.out.go hg1).far (p := ⟨xb, 2, none⟩) (Ne.symm hsep.2.2) (.int .i64 (v : Int))
          have hX3 := hbp.set (i := 2) (by show 2 < 4; omega) (.int .i64 (v : Int)) (us := [.bool xo, .int .i64 xn, .int .i64 (v : Int), .string xd]) rfl
          have hG3 := (hw.out.trans hg1).setCell (p := ⟨xb, 2, none⟩) hwr (.int .i64 (v : Int))
          generalize W1.setCell ⟨xb, 2, none⟩ (.int .i64 (v : Int)) = W3 at *
          have hzs : (st.data.size : Int) ≤ 1518 := by
            cases hon : st.on with
            | true => have := (okM_on hon).1 hstk; omega
            | false => rw [(okM_off hon).1 hstk]; decide
          have HSTK := Lib.hid hstk
          have HA3 := Lib.hid hA3
          have HB3 := Lib.hid hB3
          have HP3 := Lib.hid hP3
          have HX3 := Lib.hid hX3
          have HG3 := Lib.hid hG3
          obtain ⟨so, sn, sx, sd⟩ := st
          dsimp only at hzs
          have HS3 := Lib.hid (show Bk W3 sb [.bool so, .int .i64 sn, .int .i64 sx, .string sd] from hS3)
          have a0 := hA3.at 0 (by show 0 < 4; omega) (v := .bool mo) rfl
          have a1 := hA3.at 1 (by show 1 < 4; omega) (v := .int .i64 mn) rfl
          have a2 := hA3.at 2 (by show 2 < 4; omega) (v := .int .i64 mx) rfl
          have a3 := hA3.at 3 (by show 3 < 4; omega) (v := .string mD) rfl
          have s0 := hS3.at 0 (by show 0 < 4; omega) (v := .bool so) rfl
          have s1 := hS3.at 1 (by show 1 < 4; omega) (v := .int .i64 sn) rfl
          have s2 := hS3.at 2 (by show 2 < 4; omega) (v := .int .i64 sx) rfl
          have s3 := hS3.at 3 (by show 3 < 4; omega) (v := .string sd) rfl
          clear hA3 hB3 hP3 hX3 hG3 hS3 hab hbb hpr hw hg1 hsb hbp hbm hstk c0
          go_wp2_with fail
          clear a0 a1 a2 a3 s0 s1 s2 s3
          try clear nab
          try clear nac
          try clear nbc
          try clear HW
          try clear a0
          try clear a1
          try clear a2
          try clear a3
          try clear b1
          try clear b2
          try clear b3
          try clear HYY
          try clear hbg
          try clear hc2
          try clear hc1
          try clear hT2
          try clear hT1
          try clear hx1
          try clear hx2
          try clear ewo
          try clear x3
          try clear hfs
          try clear hS0
          try clear hSm
          try clear HAS
          try clear HSL
          try clear HPR
          try clear HA9
          try clear HB9
          try clear HW9
          try clear HM
          try clear hu
          try clear hjT
          try clear ej
          try clear hb
          try clear hgl
          try clear hwr
          try clear hsep
          try clear hsbn
          try clear hr
          try clear er3
          try clear ewr
          try clear hr2
          try clear hrb
          try clear x2
          try clear xf
          try clear hv
          try clear ev5
          try clear ewv
          try clear ewv2
          have SV := Lib.hid (two_states (m1 := ⟨mo, mn, mx, mD⟩) (m2 := ⟨so, sn, sx, sd⟩) (by show (mD.size : Int) ≤ 4000; omega) (by show (sd.size : Int) ≤ 4000; omega))
          dsimp only at SV
          go_loopw [104] (fun iv wq => ∃ t : Nat, t ≤ 2 ∧ iv = .int .i64 t ∧ Hid (Bl W3 wq)) (fun iv _ => 2 - (intOf iv).toNat)
          case atStart => exact ⟨0, by omega, rfl, Lib.hid (Bl.refl _)⟩
          case round =>
            obtain ⟨t, ht, rfl, hw2⟩ := hrel
            rename World => wq
            by_cases hlt3 : t < 2
            · obtain ⟨⟨ko, kn, kx, kd⟩, hks, hrun⟩ := SV.out t hlt3
              have hti : (t : Int) < 2 := by omega
              dsimp only at hks hrun
              have KJ := Lib.hid (fun w => join_any ⟨ko, kn, kx, kd⟩ ⟨xo, xn, (v : Int), xd⟩ hks hpz w)
              have KR := Lib.hid (fun w => rjoin_any ⟨ko, kn, kx, kd⟩ ⟨xo, xn, (v : Int), xd⟩ hks hpz w)
              have KC := Lib.hid (fun w => check_any ⟨ko, kn, kx, kd⟩ (Int.le_trans hks (by decide)) w)
              have KD := Lib.hid (fun w => rcheck_any ⟨ko, kn, kx, kd⟩ (Int.le_trans hks (by decide)) w)
              have KE := Lib.hid (fun w => checkPiece_any ⟨xo, xn, (v : Int), xd⟩ (Int.le_trans hpz (by decide)) w)
              have KG := Lib.hid (fun w => rcheckPiece_any ⟨xo, xn, (v : Int), xd⟩ (Int.le_trans hpz (by decide)) w)
              unfold jnV at KJ KR
              obtain ⟨n, fr, cd, hj⟩ : ∃ n fr cd, jnA ⟨ko, kn, kx, kd⟩ ⟨xo, xn, (v : Int), xd⟩ = ((n, fr), cd) := ⟨_, _, _, rfl⟩
              rw [hj] at KJ KR
              clear hj
              obtain ⟨no, nn, nx, nd⟩ := n
              generalize cmE ⟨ko, kn, kx, kd⟩ = ce at KC KD
              generalize cpE ⟨xo, xn, (v : Int), xd⟩ = pe at KE KG
              unfold Ms.v Pc.v at KJ KR
              unfold Ms.v at KC KD
              unfold Pc.v at KE KG
              dsimp only at KJ KR KC KD KE KG
              go_upto_region 16 with fail
              clear hrun
              have hkb : Bk (wq.alloc (.cells #[.bool ko, .int .i64 kn, .int .i64 kx, .string kd] 43)) wq.heap.size [.bool ko, .int .i64 kn, .int .i64 kx, .string kd] := Bk.new wq _ _
              have hxq := (HX3.out.bl hw2.out).alloc (.cells #[.bool ko, .int .i64 kn, .int .i64 kx, .string kd] 43)
              have hgq : Bl W3 (wq.alloc (.cells #[.bool ko, .int .i64 kn, .int .i64 kx, .string kd] 43)) := hw2.out.alloc _
              generalize wq.alloc (.cells #[.bool ko, .int .i64 kn, .int .i64 kx, .string kd] 43) = W4 at *
              generalize wq.heap.size = kb at *
              have k0 := hkb.at 0 (by show 0 < 4; omega) (v := .bool ko) rfl
              have k1 := hkb.at 1 (by show 1 < 4; omega) (v := .int .i64 kn) rfl
              have k2 := hkb.at 2 (by show 2 < 4; omega) (v := .int .i64 kx) rfl
              have k3 := hkb.at 3 (by show 3 < 4; omega) (v := .string kd) rfl
              have x0 := hxq.at 0 (by show 0 < 4; omega) (v := .bool xo) rfl
              have x1 := hxq.at 1 (by show 1 < 4; omega) (v := .int .i64 xn) rfl
              have x2 := hxq.at 2 (by show 2 < 4; omega) (v := .int .i64 (v : Int)) rfl
              have x3 := hxq.at 3 (by show 3 < 4; omega) (v := .string xd) rfl
              have HKB := Lib.hid hkb
              have HXQ := Lib.hid hxq
              have HGQ := Lib.hid hgq
              clear hkb hxq hgq
              go_upto_region 17 with (go_at_call 20; (with_reducible refine (KJ.out _).mono ?_); rintro e wn ⟨rfl, hgr⟩)
              clear k0 k1 k2 k3 x0 x1 x2 x3
              have hnb : Bk (wn.alloc (.cells #[.bool no, .int .i64 nn, .int .i64 nx, .string nd] 43)) wn.heap.size [.bool no, .int .i64 nn, .int .i64 nx, .string nd] := Bk.new wn _ _
              have hkb := (HKB.out.bl hgr).alloc (.cells #[.bool no, .int .i64 nn, .int .i64 nx, .string nd] 43)
              have hxq := (HXQ.out.bl hgr).alloc (.cells #[.bool no, .int .i64 nn, .int .i64 nx, .string nd] 43)
              have hgq := (HGQ.out.trans hgr).alloc (.cells #[.bool no, .int .i64 nn, .int .i64 nx, .string nd] 43)
              clear HKB HXQ HGQ hgr
              generalize wn.alloc (.cells #[.bool no, .int .i64 nn, .int .i64 nx, .string nd] 43) = W5 at *
              generalize wn.heap.size = nb at *
              have k0 := hkb.at 0 (by show 0 < 4; omega) (v := .bool ko) rfl
              have k1 := hkb.at 1 (by show 1 < 4; omega) (v := .int .i64 kn) rfl
              have k2 := hkb.at 2 (by show 2 < 4; omega) (v := .int .i64 kx) rfl
              have k3 := hkb.at 3 (by show 3 < 4; omega) (v := .string kd) rfl
              have x0 := hxq.at 0 (by show 0 < 4; omega) (v := .bool xo) rfl
              have x1 := hxq.at 1 (by show 1 < 4; omega) (v := .int .i64 xn) rfl
              have x2 := hxq.at 2 (by show 2 < 4; omega) (v := .int .i64 (v : Int)) rfl
              have x3 := hxq.at 3 (by show 3 < 4; omega) (v := .string xd) rfl
              have HKB := Lib.hid hkb
              have HXQ := Lib.hid hxq
              have HGQ := Lib.hid hgq
              have HNB := Lib.hid hnb
              clear hkb hxq hgq hnb
              go_upto_region 18 with (go_at_call 21; (with_reducible refine (KR.out _).mono ?_); rintro e wn ⟨rfl, hgr⟩)
              clear k0 k1 k2 k3 x0 x1 x2 x3
              have hrb : Bk (wn.alloc (.cells #[.bool no, .int .i64 nn, .int .i64 nx, .string nd] 43)) wn.heap.size [.bool no, .int .i64 nn, .int .i64 nx, .string nd] := Bk.new wn _ _
              have HKB2 := Lib.hid ((HKB.out.bl hgr).alloc (.cells #[.bool no, .int .i64 nn, .int .i64 nx, .string nd] 43))
              have HXQ2 := Lib.hid ((HXQ.out.bl hgr).alloc (.cells #[.bool no, .int .i64 nn, .int .i64 nx, .string nd] 43))
              have HGQ2 := Lib.hid ((HGQ.out.trans hgr).alloc (.cells #[.bool no, .int .i64 nn, .int .i64 nx, .string nd] 43))
              have HNB2 := Lib.hid ((HNB.out.bl hgr).alloc (.cells #[.bool no, .int .i64 nn, .int .i64 nx, .string nd] 43))
              have HRB2 := Lib.hid hrb
              clear HKB HXQ HGQ HNB hgr hrb
              generalize wn.alloc (.cells #[.bool no, .int .i64 nn, .int .i64 nx, .string nd] 43) = W6 at *
              generalize wn.heap.size = rb at *
              have HN := Lib.hid (fun (w' : World) (gg : Bl W6 w') => (show w'.cell? ⟨nb, 0, none⟩ = some (.bool no) ∧ w'.cell? ⟨nb, 1, none⟩ = some (.int .i64 nn) ∧ w'.cell? ⟨nb, 2, none⟩ = some (.int .i64 nx) ∧ w'.cell? ⟨nb, 3, none⟩ = some (.string nd) ∧ w'.cell? ⟨rb, 0, none⟩ = some (.bool no) ∧ w'.cell? ⟨rb, 1, none⟩ = some (.int .i64 nn) ∧ w'.cell? ⟨rb, 2, none⟩ = some (.int .i64 nx) ∧ w'.cell? ⟨rb, 3, none⟩ = some (.string nd) ∧ w'.cell? ⟨kb, 0, none⟩ = some (.bool ko) ∧ w'.cell? ⟨kb, 1, none⟩ = some (.int .i64 kn) ∧ w'.cell? ⟨kb, 2, none⟩ = some (.int .i64 kx) ∧ w'.cell? ⟨kb, 3, none⟩ = some (.string kd) ∧ w'.cell? ⟨xb, 0, none⟩ = some (.bool xo) ∧ w'.cell? ⟨xb, 1, none⟩ = some (.int .i64 xn) ∧ w'.cell? ⟨xb, 2, none⟩ = some (.int .i64 (v : Int)) ∧ w'.cell? ⟨xb, 3, none⟩ = some (.string xd) ∧ Hid (Bl W6 w') from ⟨(HNB2.out.bl gg).at 0 (by show 0 < 4; omega) rfl, (HNB2.out.bl gg).at 1 (by show 1 < 4; omega) rfl, (HNB2.out.bl gg).at 2 (by show 2 < 4; omega) rfl, (HNB2.out.bl gg).at 3 (by show 3 < 4; omega) rfl, (HRB2.out.bl gg).at 0 (by show 0 < 4; omega) rfl, (HRB2.out.bl gg).at 1 (by show 1 < 4; omega) rfl, (HRB2.out.bl gg).at 2 (by show 2 < 4; omega) rfl, (HRB2.out.bl gg).at 3 (by show 3 < 4; omega) rfl, (HKB2.out.bl gg).at 0 (by show 0 < 4; omega) rfl, (HKB2.out.bl gg).at 1 (by show 1 < 4; omega) rfl, (HKB2.out.bl gg).at 2 (by show 2 < 4; omega) rfl, (HKB2.out.bl gg).at 3 (by show 3 < 4; omega) rfl, (HXQ2.out.bl gg).at 0 (by show 0 < 4; omega) rfl, (HXQ2.out.bl gg).at 1 (by show 1 < 4; omega) rfl, (HXQ2.out.bl gg).at 2 (by show 2 < 4; omega) rfl, (HXQ2.out.bl gg).at 3 (by show 3 < 4; omega) rfl, Lib.hid gg⟩))
              clear KJ KR hks
              go_cut [147] (fun s1 w7 => Hid (s1 = .bool false ∧ Bl W6 w7))
              case first =>
                first | (go_region_held3 (fun w' => w'.cell? ⟨nb, 0, none⟩ = some (.bool no) ∧ w'.cell? ⟨nb, 1, none⟩ = some (.int .i64 nn) ∧ w'.cell? ⟨nb, 2, none⟩ = some (.int .i64 nx) ∧ w'.cell? ⟨nb, 3, none⟩ = some (.string nd) ∧ w'.cell? ⟨rb, 0, none⟩ = some (.bool no) ∧ w'.cell? ⟨rb, 1, none⟩ = some (.int .i64 nn) ∧ w'.cell? ⟨rb, 2, none⟩ = some (.int .i64 nx) ∧ w'.cell? ⟨rb, 3, none⟩ = some (.string nd) ∧ w'.cell? ⟨kb, 0, none⟩ = some (.bool ko) ∧ w'.cell? ⟨kb, 1, none⟩ = some (.int .i64 kn) ∧ w'.cell? ⟨kb, 2, none⟩ = some (.int .i64 kx) ∧ w'.cell? ⟨kb, 3, none⟩ = some (.string kd) ∧ w'.cell? ⟨xb, 0, none⟩ = some (.bool xo) ∧ w'.cell? ⟨xb, 1, none⟩ = some (.int .i64 xn) ∧ w'.cell? ⟨xb, 2, none⟩ = some (.int .i64 (v : Int)) ∧ w'.cell? ⟨xb, 3, none⟩ = some (.string xd) ∧ Hid (Bl W6 w')) (first | with_reducible assumption | (refine HN.out _ ?_; (repeat (first | exact Bl.refl _ | with_reducible refine Bl.drew ?_ | with_reducible refine Bl.trans ?_ hg1' | with_reducible refine Bl.trans ?_ hg2' | with_reducible refine Bl.trans ?_ hg3' | with_reducible refine Bl.trans ?_ hg4')); done) | fail) (first | (go_at_call 22; (with_reducible refine (KC.out _).mono ?_); rintro e wn ⟨rfl, hg1'⟩) | (go_at_call 23; (with_reducible refine (KD.out _).mono ?_); rintro e wn ⟨rfl, hg2'⟩) | (go_at_call 24; (with_reducible refine (KE.out _).mono ?_); rintro e wn ⟨rfl, hg3'⟩) | (go_at_call 25; (with_reducible refine (KG.out _).mono ?_); rintro e wn ⟨rfl, hg4'⟩) | fail)) | fail
                all_goals (rename _ ∧ _ ∧ _ ∧ _ ∧ _ ∧ _ ∧ _ ∧ _ ∧ _ ∧ _ ∧ _ ∧ _ ∧ _ ∧ _ ∧ _ ∧ _ ∧ Hid (Bl W6 _) => hq)
                all_goals (go_wp2_with fail; go_meet)
                all_goals exact Lib.hid ⟨rfl, hq.2.2.2.2.2.2.2.2.2.2.2.2.2.2.2.2.out⟩
              obtain ⟨rfl, h67⟩ := hcut.out
              rename World => w7
              have HG7 := Lib.hid (HGQ2.out.trans h67)
              clear hcut h67 HN HKB2 HXQ2 HNB2 HRB2 HGQ2
              go_wp2_with fail
              go_roundw
              case rel => exact ⟨t + 1, by omega, by go_num, HG7⟩
              case measure => first | (simp [intOf]; omega) | simp [intOf]
            · obtain rfl : t = 2 := by omega
              have KQ := Lib.hid (fun w => rjoin_any ⟨so, sn, sx, sd⟩ ⟨xo, xn, (v : Int), xd⟩ (Int.le_trans hzs (by decide)) hpz w)
              have hok2 := jnA_okM (p := ⟨xo, xn, (v : Int), xd⟩) HSTK.out
              unfold jnV at KQ
              obtain ⟨n, fr, cd, hj⟩ : ∃ n fr cd, jnA ⟨so, sn, sx, sd⟩ ⟨xo, xn, (v : Int), xd⟩ = ((n, fr), cd) := ⟨_, _, _, rfl⟩
              rw [hj] at KQ hok2
              clear hj
              obtain ⟨no, nn, nx, nd⟩ := n
              unfold Ms.v Pc.v at KQ
              dsimp only at KQ hok2
              have hSq := HS3.out.bl hw2.out
              have hXq := HX3.out.bl hw2.out
              have s0 := hSq.at 0 (by show 0 < 4; omega) (v := .bool so) rfl
              have s1 := hSq.at 1 (by show 1 < 4; omega) (v := .int .i64 sn) rfl
              have s2 := hSq.at 2 (by show 2 < 4; omega) (v := .int .i64 sx) rfl
              have s3 := hSq.at 3 (by show 3 < 4; omega) (v := .string sd) rfl
              have x0 := hXq.at 0 (by show 0 < 4; omega) (v := .bool xo) rfl
              have x1 := hXq.at 1 (by show 1 < 4; omega) (v := .int .i64 xn) rfl
              have x2 := hXq.at 2 (by show 2 < 4; omega) (v := .int .i64 (v : Int)) rfl
              have x3 := hXq.at 3 (by show 3 < 4; omega) (v := .string xd) rfl
              have HSQ := Lib.hid hSq
              have HG4 := Lib.hid (HG3.out.trans hw2.out)
              have HA4 := Lib.hid (HA3.out.bl hw2.out)
              have HB4 := Lib.hid (HB3.out.bl hw2.out)
              have HP4 := Lib.hid (HP3.out.go hw2.out)
              have HOK := Lib.hid hok2
              clear hSq hXq hw2 HG3 HA3 HB3 HP3 HX3 hok2 SV
              go_wp2_with (go_at_call 21; (with_reducible refine (KQ.out _).mono ?_); rintro e wn ⟨rfl, hgr⟩; have z0 := (HSQ.out.bl hgr).at 0 (by show 0 < 4; omega) (v := .bool so) rfl; have zf0 := (HSQ.out.bl hgr).fr 0 (by show 0 < 4; omega); have z1 := (HSQ.out.bl hgr).at 1 (by show 1 < 4; omega) (v := .int .i64 sn) rfl; have zf1 := (HSQ.out.bl hgr).fr 1 (by show 1 < 4; omega); have z2 := (HSQ.out.bl hgr).at 2 (by show 2 < 4; omega) (v := .int .i64 sx) rfl; have zf2 := (HSQ.out.bl hgr).fr 2 (by show 2 < 4; omega); have z3 := (HSQ.out.bl hgr).at 3 (by show 3 < 4; omega) (v := .string sd) rfl; have zf3 := (HSQ.out.bl hgr).fr 3 (by show 3 < 4; omega))
              go_roundw
              case rel => exact ⟨k + 1, by omega, by omega, by go_num, Lib.hid ⟨⟨no, nn, nx, nd⟩, HOK.out, (HSQ.out.bl hgr).fourV (.bool no) (.int .i64 nn) (.int .i64 nx) (.string nd)⟩, Lib.hid (((((HP4.out.go hgr).far (p := ⟨sb, 0, none⟩) (Ne.symm hmg) (.bool no)).far (p := ⟨sb, 1, none⟩) (Ne.symm hmg) (.int .i64 nn)).far (p := ⟨sb, 2, none⟩) (Ne.symm hmg) (.int .i64 nx)).far (p := ⟨sb, 3, none⟩) (Ne.symm hmg) (.string nd)), Lib.hid (((((HA4.out.bl hgr).far (p := ⟨sb, 0, none⟩) (Ne.symm hma) (.bool no)).far (p := ⟨sb, 1, none⟩) (Ne.symm hma) (.int .i64 nn)).far (p := ⟨sb, 2, none⟩) (Ne.symm hma) (.int .i64 nx)).far (p := ⟨sb, 3, none⟩) (Ne.symm hma) (.string nd)), Lib.hid (((((HB4.out.bl hgr).far (p := ⟨sb, 0, none⟩) (Ne.symm hmb) (.bool no)).far (p := ⟨sb, 1, none⟩) (Ne.symm hmb) (.int .i64 nn)).far (p := ⟨sb, 2, none⟩) (Ne.symm hmb) (.int .i64 nx)).far (p := ⟨sb, 3, none⟩) (Ne.symm hmb) (.string nd)), Lib.hid ((HG4.out.trans hgr).four hmw (.bool no) (.int .i64 nn) (.int .i64 nx) (.string nd))⟩
              case measure => first | (simp [intOf]; omega) | simp [intOf]
        · have hrb : ((r : Int) == 2) = false := beq_eq_false_iff_ne.2 hr2
          go_upto_region 13 with fail
          have hA3 := hab.out.bl hg1
          have hB3 := hbb.out.bl hg1
          have hS3 := hsb.bl hg1
          have hP3 := hpr.out.go hg1
          have hX3 := hbp
          have hG3 := hw.out.trans hg1
          generalize W1 = W3 at *
          have hzs : (st.data.size : Int) ≤ 1518 := by
            cases hon : st.on with
            | true => have := (okM_on hon).1 hstk; omega
            | false => rw [(okM_off hon).1 hstk]; decide
          have HSTK := Lib.hid hstk
          have HA3 := Lib.hid hA3
          have HB3 := Lib.hid hB3
          have HP3 := Lib.hid hP3
          have HX3 := Lib.hid hX3
          have HG3 := Lib.hid hG3
          obtain ⟨so, sn, sx, sd⟩ := st
          dsimp only at hzs
          have HS3 := Lib.hid (show Bk W3 sb [.bool so, .int .i64 sn, .int .i64 sx, .string sd] from hS3)
          have a0 := hA3.at 0 (by show 0 < 4; omega) (v := .bool mo) rfl
          have a1 := hA3.at 1 (by show 1 < 4; omega) (v := .int .i64 mn) rfl
          have a2 := hA3.at 2 (by show 2 < 4; omega) (v := .int .i64 mx) rfl
          have a3 := hA3.at 3 (by show 3 < 4; omega) (v := .string mD) rfl
          have s0 := hS3.at 0 (by show 0 < 4; omega) (v := .bool so) rfl
          have s1 := hS3.at 1 (by show 1 < 4; omega) (v := .int .i64 sn) rfl
          have s2 := hS3.at 2 (by show 2 < 4; omega) (v := .int .i64 sx) rfl
          have s3 := hS3.at 3 (by show 3 < 4; omega) (v := .string sd) rfl
          clear hA3 hB3 hP3 hX3 hG3 hS3 hab hbb hpr hw hg1 hsb hbp hbm hstk c0
          go_wp2_with fail
          clear a0 a1 a2 a3 s0 s1 s2 s3
          try clear nab
          try clear nac
          try clear nbc
          try clear HW
          try clear a0
          try clear a1
          try clear a2
          try clear a3
          try clear b1
          try clear b2
          try clear b3
          try clear HYY
          try clear hbg
          try clear hc2
          try clear hc1
          try clear hT2
          try clear hT1
          try clear hx1
          try clear hx2
          try clear ewo
          try clear x3
          try clear hfs
          try clear hS0
          try clear hSm
          try clear HAS
          try clear HSL
          try clear HPR
          try clear HA9
          try clear HB9
          try clear HW9
          try clear HM
          try clear hu
          try clear hjT
          try clear ej
          try clear hb
          try clear hgl
          try clear hwr
          try clear hsep
          try clear hsbn
          try clear hr
          try clear er3
          try clear ewr
          try clear hr2
          try clear hrb
          try clear x2
          try clear xf
          try clear hv
          try clear ev5
          try clear ewv
          try clear ewv2
          have SV := Lib.hid (two_states (m1 := ⟨mo, mn, mx, mD⟩) (m2 := ⟨so, sn, sx, sd⟩) (by show (mD.size : Int) ≤ 4000; omega) (by show (sd.size : Int) ≤ 4000; omega))
          dsimp only at SV
          go_loopw [104] (fun iv wq => ∃ t : Nat, t ≤ 2 ∧ iv = .int .i64 t ∧ Hid (Bl W3 wq)) (fun iv _ => 2 - (intOf iv).toNat)
          case atStart => exact ⟨0, by omega, rfl, Lib.hid (Bl.refl _)⟩
          case round =>
            obtain ⟨t, ht, rfl, hw2⟩ := hrel
            rename World => wq
            by_cases hlt3 : t < 2
            · obtain ⟨⟨ko, kn, kx, kd⟩, hks, hrun⟩ := SV.out t hlt3
              have hti : (t : Int) < 2 := by omega
              dsimp only at hks hrun
              have KJ := Lib.hid (fun w => join_any ⟨ko, kn, kx, kd⟩ ⟨xo, xn, xc, xd⟩ hks hpz w)
              have KR := Lib.hid (fun w => rjoin_any ⟨ko, kn, kx, kd⟩ ⟨xo, xn, xc, xd⟩ hks hpz w)
              have KC := Lib.hid (fun w => check_any ⟨ko, kn, kx, kd⟩ (Int.le_trans hks (by decide)) w)
              have KD := Lib.hid (fun w => rcheck_any ⟨ko, kn, kx, kd⟩ (Int.le_trans hks (by decide)) w)
              have KE := Lib.hid (fun w => checkPiece_any ⟨xo, xn, xc, xd⟩ (Int.le_trans hpz (by decide)) w)
              have KG := Lib.hid (fun w => rcheckPiece_any ⟨xo, xn, xc, xd⟩ (Int.le_trans hpz (by decide)) w)
              unfold jnV at KJ KR
              obtain ⟨n, fr, cd, hj⟩ : ∃ n fr cd, jnA ⟨ko, kn, kx, kd⟩ ⟨xo, xn, xc, xd⟩ = ((n, fr), cd) := ⟨_, _, _, rfl⟩
              rw [hj] at KJ KR
              clear hj
              obtain ⟨no, nn, nx, nd⟩ := n
              generalize cmE ⟨ko, kn, kx, kd⟩ = ce at KC KD
              generalize cpE ⟨xo, xn, xc, xd⟩ = pe at KE KG
              unfold Ms.v Pc.v at KJ KR
              unfold Ms.v at KC KD
              unfold Pc.v at KE KG
              dsimp only at KJ KR KC KD KE KG
              go_upto_region 16 with fail
              clear hrun
              have hkb : Bk (wq.alloc (.cells #[.bool ko, .int .i64 kn, .int .i64 kx, .string kd] 43)) wq.heap.size [.bool ko, .int .i64 kn, .int .i64 kx, .string kd] := Bk.new wq _ _
              have hxq := (HX3.out.bl hw2.out).alloc (.cells #[.bool ko, .int .i64 kn, .int .i64 kx, .string kd] 43)
              have hgq : Bl W3 (wq.alloc (.cells #[.bool ko, .int .i64 kn, .int .i64 kx, .string kd] 43)) := hw2.out.alloc _
              generalize wq.alloc (.cells #[.bool ko, .int .i64 kn, .int .i64 kx, .string kd] 43) = W4 at *
              generalize wq.heap.size = kb at *
              have k0 := hkb.at 0 (by show 0 < 4; omega) (v := .bool ko) rfl
              have k1 := hkb.at 1 (by show 1 < 4; omega) (v := .int .i64 kn) rfl
              have k2 := hkb.at 2 (by show 2 < 4; omega) (v := .int .i64 kx) rfl
              have k3 := hkb.at 3 (by show 3 < 4; omega) (v := .string kd) rfl
              have x0 := hxq.at 0 (by show 0 < 4; omega) (v := .bool xo) rfl
              have x1 := hxq.at 1 (by show 1 < 4; omega) (v := .int .i64 xn) rfl
              have x2 := hxq.at 2 (by show 2 < 4; omega) (v := .int .i64 xc) rfl
              have x3 := hxq.at 3 (by show 3 < 4; omega) (v := .string xd) rfl
              have HKB := Lib.hid hkb
              have HXQ := Lib.hid hxq
              have HGQ := Lib.hid hgq
              clear hkb hxq hgq
              go_upto_region 17 with (go_at_call 20; (with_reducible refine (KJ.out _).mono ?_); rintro e wn ⟨rfl, hgr⟩)
              clear k0 k1 k2 k3 x0 x1 x2 x3
              have hnb : Bk (wn.alloc (.cells #[.bool no, .int .i64 nn, .int .i64 nx, .string nd] 43)) wn.heap.size [.bool no, .int .i64 nn, .int .i64 nx, .string nd] := Bk.new wn _ _
              have hkb := (HKB.out.bl hgr).alloc (.cells #[.bool no, .int .i64 nn, .int .i64 nx, .string nd] 43)
              have hxq := (HXQ.out.bl hgr).alloc (.cells #[.bool no, .int .i64 nn, .int .i64 nx, .string nd] 43)
              have hgq := (HGQ.out.trans hgr).alloc (.cells #[.bool no, .int .i64 nn, .int .i64 nx, .string nd] 43)
              clear HKB HXQ HGQ hgr
              generalize wn.alloc (.cells #[.bool no, .int .i64 nn, .int .i64 nx, .string nd] 43) = W5 at *
              generalize wn.heap.size = nb at *
              have k0 := hkb.at 0 (by show 0 < 4; omega) (v := .bool ko) rfl
              have k1 := hkb.at 1 (by show 1 < 4; omega) (v := .int .i64 kn) rfl
              have k2 := hkb.at 2 (by show 2 < 4; omega) (v := .int .i64 kx) rfl
              have k3 := hkb.at 3 (by show 3 < 4; omega) (v := .string kd) rfl
              have x0 := hxq.at 0 (by show 0 < 4; omega) (v := .bool xo) rfl
              have x1 := hxq.at 1 (by show 1 < 4; omega) (v := .int .i64 xn) rfl
              have x2 := hxq.at 2 (by show 2 < 4; omega) (v := .int .i64 xc) rfl
              have x3 := hxq.at 3 (by show 3 < 4; omega) (v := .string xd) rfl
              have HKB := Lib.hid hkb
              have HXQ := Lib.hid hxq
              have HGQ := Lib.hid hgq
              have HNB := Lib.hid hnb
              clear hkb hxq hgq hnb
              go_upto_region 18 with (go_at_call 21; (with_reducible refine (KR.out _).mono ?_); rintro e wn ⟨rfl, hgr⟩)
              clear k0 k1 k2 k3 x0 x1 x2 x3
              have hrb : Bk (wn.alloc (.cells #[.bool no, .int .i64 nn, .int .i64 nx, .string nd] 43)) wn.heap.size [.bool no, .int .i64 nn, .int .i64 nx, .string nd] := Bk.new wn _ _
              have HKB2 := Lib.hid ((HKB.out.bl hgr).alloc (.cells #[.bool no, .int .i64 nn, .int .i64 nx, .string nd] 43))
              have HXQ2 := Lib.hid ((HXQ.out.bl hgr).alloc (.cells #[.bool no, .int .i64 nn, .int .i64 nx, .string nd] 43))
              have HGQ2 := Lib.hid ((HGQ.out.trans hgr).alloc (.cells #[.bool no, .int .i64 nn, .int .i64 nx, .string nd] 43))
              have HNB2 := Lib.hid ((HNB.out.bl hgr).alloc (.cells #[.bool no, .int .i64 nn, .int .i64 nx, .string nd] 43))
              have HRB2 := Lib.hid hrb
              clear HKB HXQ HGQ HNB hgr hrb
              generalize wn.alloc (.cells #[.bool no, .int .i64 nn, .int .i64 nx, .string nd] 43) = W6 at *
              generalize wn.heap.size = rb at *
              have HN := Lib.hid (fun (w' : World) (gg : Bl W6 w') => (show w'.cell? ⟨nb, 0, none⟩ = some (.bool no) ∧ w'.cell? ⟨nb, 1, none⟩ = some (.int .i64 nn) ∧ w'.cell? ⟨nb, 2, none⟩ = some (.int .i64 nx) ∧ w'.cell? ⟨nb, 3, none⟩ = some (.string nd) ∧ w'.cell? ⟨rb, 0, none⟩ = some (.bool no) ∧ w'.cell? ⟨rb, 1, none⟩ = some (.int .i64 nn) ∧ w'.cell? ⟨rb, 2, none⟩ = some (.int .i64 nx) ∧ w'.cell? ⟨rb, 3, none⟩ = some (.string nd) ∧ w'.cell? ⟨kb, 0, none⟩ = some (.bool ko) ∧ w'.cell? ⟨kb, 1, none⟩ = some (.int .i64 kn) ∧ w'.cell? ⟨kb, 2, none⟩ = some (.int .i64 kx) ∧ w'.cell? ⟨kb, 3, none⟩ = some (.string kd) ∧ w'.cell? ⟨xb, 0, none⟩ = some (.bool xo) ∧ w'.cell? ⟨xb, 1, none⟩ = some (.int .i64 xn) ∧ w'.cell? ⟨xb, 2, none⟩ = some (.int .i64 xc) ∧ w'.cell? ⟨xb, 3, none⟩ = some (.string xd) ∧ Hid (Bl W6 w') from ⟨(HNB2.out.bl gg).at 0 (by show 0 < 4; omega) rfl, (HNB2.out.bl gg).at 1 (by show 1 < 4; omega) rfl, (HNB2.out.bl gg).at 2 (by show 2 < 4; omega) rfl, (HNB2.out.bl gg).at 3 (by show 3 < 4; omega) rfl, (HRB2.out.bl gg).at 0 (by show 0 < 4; omega) rfl, (HRB2.out.bl gg).at 1 (by show 1 < 4; omega) rfl, (HRB2.out.bl gg).at 2 (by show 2 < 4; omega) rfl, (HRB2.out.bl gg).at 3 (by show 3 < 4; omega) rfl, (HKB2.out.bl gg).at 0 (by show 0 < 4; omega) rfl, (HKB2.out.bl gg).at 1 (by show 1 < 4; omega) rfl, (HKB2.out.bl gg).at 2 (by show 2 < 4; omega) rfl, (HKB2.out.bl gg).at 3 (by show 3 < 4; omega) rfl, (HXQ2.out.bl gg).at 0 (by show 0 < 4; omega) rfl, (HXQ2.out.bl gg).at 1 (by show 1 < 4; omega) rfl, (HXQ2.out.bl gg).at 2 (by show 2 < 4; omega) rfl, (HXQ2.out.bl gg).at 3 (by show 3 < 4; omega) rfl, Lib.hid gg⟩))
              clear KJ KR hks
              go_cut [147] (fun s1 w7 => Hid (s1 = .bool false ∧ Bl W6 w7))
              case first =>
                first | (go_region_held3 (fun w' => w'.cell? ⟨nb, 0, none⟩ = some (.bool no) ∧ w'.cell? ⟨nb, 1, none⟩ = some (.int .i64 nn) ∧ w'.cell? ⟨nb, 2, none⟩ = some (.int .i64 nx) ∧ w'.cell? ⟨nb, 3, none⟩ = some (.string nd) ∧ w'.cell? ⟨rb, 0, none⟩ = some (.bool no) ∧ w'.cell? ⟨rb, 1, none⟩ = some (.int .i64 nn) ∧ w'.cell? ⟨rb, 2, none⟩ = some (.int .i64 nx) ∧ w'.cell? ⟨rb, 3, none⟩ = some (.string nd) ∧ w'.cell? ⟨kb, 0, none⟩ = some (.bool ko) ∧ w'.cell? ⟨kb, 1, none⟩ = some (.int .i64 kn) ∧ w'.cell? ⟨kb, 2, none⟩ = some (.int .i64 kx) ∧ w'.cell? ⟨kb, 3, none⟩ = some (.string kd) ∧ w'.cell? ⟨xb, 0, none⟩ = some (.bool xo) ∧ w'.cell? ⟨xb, 1, none⟩ = some (.int .i64 xn) ∧ w'.cell? ⟨xb, 2, none⟩ = some (.int .i64 xc) ∧ w'.cell? ⟨xb, 3, none⟩ = some (.string xd) ∧ Hid (Bl W6 w')) (first | with_reducible assumption | (refine HN.out _ ?_; (repeat (first | exact Bl.refl _ | with_reducible refine Bl.drew ?_ | with_reducible refine Bl.trans ?_ hg1' | with_reducible refine Bl.trans ?_ hg2' | with_reducible refine Bl.trans ?_ hg3' | with_reducible refine Bl.trans ?_ hg4')); done) | fail) (first | (go_at_call 22; (with_reducible refine (KC.out _).mono ?_); rintro e wn ⟨rfl, hg1'⟩) | (go_at_call 23; (with_reducible refine (KD.out _).mono ?_); rintro e wn ⟨rfl, hg2'⟩) | (go_at_call 24; (with_reducible refine (KE.out _).mono ?_); rintro e wn ⟨rfl, hg3'⟩) | (go_at_call 25; (with_reducible refine (KG.out _).mono ?_); rintro e wn ⟨rfl, hg4'⟩) | fail)) | fail
                all_goals (rename _ ∧ _ ∧ _ ∧ _ ∧ _ ∧ _ ∧ _ ∧ _ ∧ _ ∧ _ ∧ _ ∧ _ ∧ _ ∧ _ ∧ _ ∧ _ ∧ Hid (Bl W6 _) => hq)
                all_goals (go_wp2_with fail; go_meet)
                all_goals exact Lib.hid ⟨rfl, hq.2.2.2.2.2.2.2.2.2.2.2.2.2.2.2.2.out⟩
              obtain ⟨rfl, h67⟩ := hcut.out
              rename World => w7
              have HG7 := Lib.hid (HGQ2.out.trans h67)
              clear hcut h67 HN HKB2 HXQ2 HNB2 HRB2 HGQ2
              go_wp2_with fail
              go_roundw
              case rel => exact ⟨t + 1, by omega, by go_num, HG7⟩
              case measure => first | (simp [intOf]; omega) | simp [intOf]
            · obtain rfl : t = 2 := by omega
              have KQ := Lib.hid (fun w => rjoin_any ⟨so, sn, sx, sd⟩ ⟨xo, xn, xc, xd⟩ (Int.le_trans hzs (by decide)) hpz w)
              have hok2 := jnA_okM (p := ⟨xo, xn, xc, xd⟩) HSTK.out
              unfold jnV at KQ
              obtain ⟨n, fr, cd, hj⟩ : ∃ n fr cd, jnA ⟨so, sn, sx, sd⟩ ⟨xo, xn, xc, xd⟩ = ((n, fr), cd) := ⟨_, _, _, rfl⟩
              rw [hj] at KQ hok2
              clear hj
              obtain ⟨no, nn, nx, nd⟩ := n
              unfold Ms.v Pc.v at KQ
              dsimp only at KQ hok2
              have hSq := HS3.out.bl hw2.out
              have hXq := HX3.out.bl hw2.out
              have s0 := hSq.at 0 (by show 0 < 4; omega) (v := .bool so) rfl
              have s1 := hSq.at 1 (by show 1 < 4; omega) (v := .int .i64 sn) rfl
              have s2 := hSq.at 2 (by show 2 < 4; omega) (v := .int .i64 sx) rfl
              have s3 := hSq.at 3 (by show 3 < 4; omega) (v := .string sd) rfl
              have x0 := hXq.at 0 (by show 0 < 4; omega) (v := .bool xo) rfl
              have x1 := hXq.at 1 (by show 1 < 4; omega) (v := .int .i64 xn) rfl
              have x2 := hXq.at 2 (by show 2 < 4; omega) (v := .int .i64 xc) rfl
              have x3 := hXq.at 3 (by show 3 < 4; omega) (v := .string xd) rfl
              have HSQ := Lib.hid hSq
              have HG4 := Lib.hid (HG3.out.trans hw2.out)
              have HA4 := Lib.hid (HA3.out.bl hw2.out)
              have HB4 := Lib.hid (HB3.out.bl hw2.out)
              have HP4 := Lib.hid (HP3.out.go hw2.out)
              have HOK := Lib.hid hok2
              clear hSq hXq hw2 HG3 HA3 HB3 HP3 HX3 hok2 SV
              go_wp2_with (go_at_call 21; (with_reducible refine (KQ.out _).mono ?_); rintro e wn ⟨rfl, hgr⟩; have z0 := (HSQ.out.bl hgr).at 0 (by show 0 < 4; omega) (v := .bool so) rfl; have zf0 := (HSQ.out.bl hgr).fr 0 (by show 0 < 4; omega); have z1 := (HSQ.out.bl hgr).at 1 (by show 1 < 4; omega) (v := .int .i64 sn) rfl; have zf1 := (HSQ.out.bl hgr).fr 1 (by show 1 < 4; omega); have z2 := (HSQ.out.bl hgr).at 2 (by show 2 < 4; omega) (v := .int .i64 sx) rfl; have zf2 := (HSQ.out.bl hgr).fr 2 (by show 2 < 4; omega); have z3 := (HSQ.out.bl hgr).at 3 (by show 3 < 4; omega) (v := .string sd) rfl; have zf3 := (HSQ.out.bl hgr).fr 3 (by show 3 < 4; omega))
              go_roundw
              case rel => exact ⟨k + 1, by omega, by omega, by go_num, Lib.hid ⟨⟨no, nn, nx, nd⟩, HOK.out, (HSQ.out.bl hgr).fourV (.bool no) (.int .i64 nn) (.int .i64 nx) (.string nd)⟩, Lib.hid (((((HP4.out.go hgr).far (p := ⟨sb, 0, none⟩) (Ne.symm hmg) (.bool no)).far (p := ⟨sb, 1, none⟩) (Ne.symm hmg) (.int .i64 nn)).far (p := ⟨sb, 2, none⟩) (Ne.symm hmg) (.int .i64 nx)).far (p := ⟨sb, 3, none⟩) (Ne.symm hmg) (.string nd)), Lib.hid (((((HA4.out.bl hgr).far (p := ⟨sb, 0, none⟩) (Ne.symm hma) (.bool no)).far (p := ⟨sb, 1, none⟩) (Ne.symm hma) (.int .i64 nn)).far (p := ⟨sb, 2, none⟩) (Ne.symm hma) (.int .i64 nx)).far (p := ⟨sb, 3, none⟩) (Ne.symm hma) (.string nd)), Lib.hid (((((HB4.out.bl hgr).far (p := ⟨sb, 0, none⟩) (Ne.symm hmb) (.bool no)).far (p := ⟨sb, 1, none⟩) (Ne.symm hmb) (.int .i64 nn)).far (p := ⟨sb, 2, none⟩) (Ne.symm hmb) (.int .i64 nx)).far (p := ⟨sb, 3, none⟩) (Ne.symm hmb) (.string nd)), Lib.hid ((HG4.out.trans hgr).four hmw (.bool no) (.int .i64 nn) (.int .i64 nx) (.string nd))⟩
              case measure => first | (simp [intOf]; omega) | simp [intOf]
      · obtain rfl : k = 30 := by omega
        have hki : ((30 : Nat) : Int) < (os.length : Int) := by omega
        have KJ := Lib.hid (fun w => join_any ⟨mo, mn, mx, mD⟩ ⟨po, pn, pc, pD⟩ (Int.le_trans hms (by decide)) (Int.le_trans hps (by decide)) w)
        have KR := Lib.hid (fun w => rjoin_any ⟨mo, mn, mx, mD⟩ ⟨po, pn, pc, pD⟩ (Int.le_trans hms (by decide)) (Int.le_trans hps (by decide)) w)
        unfold jnV at KJ KR
        obtain ⟨n, fr, cd, hj⟩ : ∃ n fr cd, jnA ⟨mo, mn, mx, mD⟩ ⟨po, pn, pc, pD⟩ = ((n, fr), cd) := ⟨_, _, _, rfl⟩
        rw [hj] at KJ KR
        clear hj
        obtain ⟨no, nn, nx, nd⟩ := n
        unfold Ms.v Pc.v at KJ KR
        dsimp only at KJ KR
        try clear nab
        try clear nac
        try clear nbc
        try clear HW
        try clear a0
        try clear a1
        try clear a2
        try clear a3
        try clear b1
        try clear b2
        try clear b3
        try clear HYY
        try clear hbg
        try clear hc2
        try clear hc1
        try clear hT2
        try clear hT1
        try clear hx1
        try clear hx2
        try clear ewo
        try clear x3
        try clear hfs
        try clear hS0
        try clear hSm
        try clear HAS
        try clear HSL
        try clear HPR
        try clear HA9
        try clear HB9
        try clear HW9
        try clear HM
        try clear hu
        try clear hjT
        try clear ej
        try clear hb
        try clear hgl
        try clear hwr
        try clear hsep
        try clear hsbn
        try clear hr
        try clear er3
        try clear ewr
        try clear hr2
        try clear hrb
        try clear x2
        try clear xf
        try clear hv
        try clear ev5
        try clear ewv
        try clear ewv2
        try clear a0
        try clear a1
        try clear a2
        try clear a3
        try clear hpr
        try clear hbm
        have a0 := hab.out.at 0 (by show 0 < 4; omega) (v := .bool mo) rfl
        have a1 := hab.out.at 1 (by show 1 < 4; omega) (v := .int .i64 mn) rfl
        have a2 := hab.out.at 2 (by show 2 < 4; omega) (v := .int .i64 mx) rfl
        have a3 := hab.out.at 3 (by show 3 < 4; omega) (v := .string mD) rfl
        have b0 := hbb.out.at 0 (by show 0 < 4; omega) (v := .bool po) rfl
        have b1 := hbb.out.at 1 (by show 1 < 4; omega) (v := .int .i64 pn) rfl
        have b2 := hbb.out.at 2 (by show 2 < 4; omega) (v := .int .i64 pc) rfl
        have b3 := hbb.out.at 3 (by show 3 < 4; omega) (v := .string pD) rfl
        go_upto_region 23 with (go_at_call 20; (with_reducible refine (KJ.out _).mono ?_); rintro e wn ⟨rfl, hgr⟩)
        clear a0 a1 a2 a3 b0 b1 b2 b3
        have HNB := Lib.hid (show Bk (wn.alloc (.cells #[.bool no, .int .i64 nn, .int .i64 nx, .string nd] 43)) wn.heap.size [.bool no, .int .i64 nn, .int .i64 nx, .string nd] from Bk.new wn _ _)
        have ha2 := (hab.out.bl hgr).alloc (.cells #[.bool no, .int .i64 nn, .int .i64 nx, .string nd] 43)
        have hb2 := (hbb.out.bl hgr).alloc (.cells #[.bool no, .int .i64 nn, .int .i64 nx, .string nd] 43)
        have HGQ := Lib.hid ((hw.out.trans hgr).alloc (.cells #[.bool no, .int .i64 nn, .int .i64 nx, .string nd] 43))
        clear hgr hab hbb hw
        generalize wn.alloc (.cells #[.bool no, .int .i64 nn, .int .i64 nx, .string nd] 43) = W5 at *
        generalize wn.heap.size = nb at *
        have a0 := ha2.at 0 (by show 0 < 4; omega) (v := .bool mo) rfl
        have a1 := ha2.at 1 (by show 1 < 4; omega) (v := .int .i64 mn) rfl
        have a2 := ha2.at 2 (by show 2 < 4; omega) (v := .int .i64 mx) rfl
        have a3 := ha2.at 3 (by show 3 < 4; omega) (v := .string mD) rfl
        have b0 := hb2.at 0 (by show 0 < 4; omega) (v := .bool po) rfl
        have b1 := hb2.at 1 (by show 1 < 4; omega) (v := .int .i64 pn) rfl
        have b2 := hb2.at 2 (by show 2 < 4; omega) (v := .int .i64 pc) rfl
        have b3 := hb2.at 3 (by show 3 < 4; omega) (v := .string pD) rfl
        clear ha2 hb2
        go_upto_region 24 with (go_at_call 21; (with_reducible refine (KR.out _).mono ?_); rintro e wn ⟨rfl, hgr⟩)
        clear a0 a1 a2 a3 b0 b1 b2 b3
        have hrb : Bk (wn.alloc (.cells #[.bool no, .int .i64 nn, .int .i64 nx, .string nd] 43)) wn.heap.size [.bool no, .int .i64 nn, .int .i64 nx, .string nd] := Bk.new wn _ _
        have hnb := (HNB.out.bl hgr).alloc (.cells #[.bool no, .int .i64 nn, .int .i64 nx, .string nd] 43)
        have HGR := Lib.hid ((HGQ.out.trans hgr).alloc (.cells #[.bool no, .int .i64 nn, .int .i64 nx, .string nd] 43))
        clear HGQ hgr HNB
        generalize wn.alloc (.cells #[.bool no, .int .i64 nn, .int .i64 nx, .string nd] 43) = W6 at *
        generalize wn.heap.size = rb at *
        have a0 := hnb.at 0 (by show 0 < 4; omega) (v := .bool no) rfl
        have a1 := hnb.at 1 (by show 1 < 4; omega) (v := .int .i64 nn) rfl
        have a2 := hnb.at 2 (by show 2 < 4; omega) (v := .int .i64 nx) rfl
        have a3 := hnb.at 3 (by show 3 < 4; omega) (v := .string nd) rfl
        have b0 := hrb.at 0 (by show 0 < 4; omega) (v := .bool no) rfl
        have b1 := hrb.at 1 (by show 1 < 4; omega) (v := .int .i64 nn) rfl
        have b2 := hrb.at 2 (by show 2 < 4; omega) (v := .int .i64 nx) rfl
        have b3 := hrb.at 3 (by show 3 < 4; omega) (v := .string nd) rfl
        clear hnb hrb
        go_wp2_with (go_at_call 16; (with_reducible refine (KW.out _).mono ?_); rintro e wz ⟨rfl, hgz⟩)
        go_ret
        exact ⟨rfl, HGR.out.trans hgz⟩
    · have hnl : ¬ (k : Int) < (os.length : Int) := by omega
      have KJ := Lib.hid (fun w => join_any ⟨mo, mn, mx, mD⟩ ⟨po, pn, pc, pD⟩ (Int.le_trans hms (by decide)) (Int.le_trans hps (by decide)) w)
      have KR := Lib.hid (fun w => rjoin_any ⟨mo, mn, mx, mD⟩ ⟨po, pn, pc, pD⟩ (Int.le_trans hms (by decide)) (Int.le_trans hps (by decide)) w)
      unfold jnV at KJ KR
      obtain ⟨n, fr, cd, hj⟩ : ∃ n fr cd, jnA ⟨mo, mn, mx, mD⟩ ⟨po, pn, pc, pD⟩ = ((n, fr), cd) := ⟨_, _, _, rfl⟩
      rw [hj] at KJ KR
      clear hj
      obtain ⟨no, nn, nx, nd⟩ := n
      unfold Ms.v Pc.v at KJ KR
      dsimp only at KJ KR
      try clear nab
      try clear nac
      try clear nbc
      try clear HW
      try clear a0
      try clear a1
      try clear a2
      try clear a3
      try clear b1
      try clear b2
      try clear b3
      try clear HYY
      try clear hbg
      try clear hc2
      try clear hc1
      try clear hT2
      try clear hT1
      try clear hx1
      try clear hx2
      try clear ewo
      try clear x3
      try clear hfs
      try clear hS0
      try clear hSm
      try clear HAS
      try clear HSL
      try clear HPR
      try clear HA9
      try clear HB9
      try clear HW9
      try clear HM
      try clear hu
      try clear hjT
      try clear ej
      try clear hb
      try clear hgl
      try clear hwr
      try clear hsep
      try clear hsbn
      try clear hr
      try clear er3
      try clear ewr
      try clear hr2
      try clear hrb
      try clear x2
      try clear xf
      try clear hv
      try clear ev5
      try clear ewv
      try clear ewv2
      try clear a0
      try clear a1
      try clear a2
      try clear a3
      try clear hpr
      try clear hbm
      have a0 := hab.out.at 0 (by show 0 < 4; omega) (v := .bool mo) rfl
      have a1 := hab.out.at 1 (by show 1 < 4; omega) (v := .int .i64 mn) rfl
      have a2 := hab.out.at 2 (by show 2 < 4; omega) (v := .int .i64 mx) rfl
      have a3 := hab.out.at 3 (by show 3 < 4; omega) (v := .string mD) rfl
      have b0 := hbb.out.at 0 (by show 0 < 4; omega) (v := .bool po) rfl
      have b1 := hbb.out.at 1 (by show 1 < 4; omega) (v := .int .i64 pn) rfl
      have b2 := hbb.out.at 2 (by show 2 < 4; omega) (v := .int .i64 pc) rfl
      have b3 := hbb.out.at 3 (by show 3 < 4; omega) (v := .string pD) rfl
      go_upto_region 23 with (go_at_call 20; (with_reducible refine (KJ.out _).mono ?_); rintro e wn ⟨rfl, hgr⟩)
      clear a0 a1 a2 a3 b0 b1 b2 b3
      have HNB := Lib.hid (show Bk (wn.alloc (.cells #[.bool no, .int .i64 nn, .int .i64 nx, .string nd] 43)) wn.heap.size [.bool no, .int .i64 nn, .int .i64 nx, .string nd] from Bk.new wn _ _)
      have ha2 := (hab.out.bl hgr).alloc (.cells #[.bool no, .int .i64 nn, .int .i64 nx, .string nd] 43)
      have hb2 := (hbb.out.bl hgr).alloc (.cells #[.bool no, .int .i64 nn, .int .i64 nx, .string nd] 43)
      have HGQ := Lib.hid ((hw.out.trans hgr).alloc (.cells #[.bool no, .int .i64 nn, .int .i64 nx, .string nd] 43))
      clear hgr hab hbb hw
      generalize wn.alloc (.cells #[.bool no, .int .i64 nn, .int .i64 nx, .string nd] 43) = W5 at *
      generalize wn.heap.size = nb at *
      have a0 := ha2.at 0 (by show 0 < 4; omega) (v := .bool mo) rfl
      have a1 := ha2.at 1 (by show 1 < 4; omega) (v := .int .i64 mn) rfl
      have a2 := ha2.at 2 (by show 2 < 4; omega) (v := .int .i64 mx) rfl
      have a3 := ha2.at 3 (by show 3 < 4; omega) (v := .string mD) rfl
      have b0 := hb2.at 0 (by show 0 < 4; omega) (v := .bool po) rfl
      have b1 := hb2.at 1 (by show 1 < 4; omega) (v := .int .i64 pn) rfl
      have b2 := hb2.at 2 (by show 2 < 4; omega) (v := .int .i64 pc) rfl
      have b3 := hb2.at 3 (by show 3 < 4; omega) (v := .string pD) rfl
      clear ha2 hb2
      go_upto_region 24 with (go_at_call 21; (with_reducible refine (KR.out _).mono ?_); rintro e wn ⟨rfl, hgr⟩)
      clear a0 a1 a2 a3 b0 b1 b2 b3
      have hrb : Bk (wn.alloc (.cells #[.bool no, .int .i64 nn, .int .i64 nx, .string nd] 43)) wn.heap.size [.bool no, .int .i64 nn, .int .i64 nx, .string nd] := Bk.new wn _ _
      have hnb := (HNB.out.bl hgr).alloc (.cells #[.bool no, .int .i64 nn, .int .i64 nx, .string nd] 43)
      have HGR := Lib.hid ((HGQ.out.trans hgr).alloc (.cells #[.bool no, .int .i64 nn, .int .i64 nx, .string nd] 43))
      clear HGQ hgr HNB
      generalize wn.alloc (.cells #[.bool no, .int .i64 nn, .int .i64 nx, .string nd] 43) = W6 at *
      generalize wn.heap.size = rb at *
      have a0 := hnb.at 0 (by show 0 < 4; omega) (v := .bool no) rfl
      have a1 := hnb.at 1 (by show 1 < 4; omega) (v := .int .i64 nn) rfl
      have a2 := hnb.at 2 (by show 2 < 4; omega) (v := .int .i64 nx) rfl
      have a3 := hnb.at 3 (by show 3 < 4; omega) (v := .string nd) rfl
      have b0 := hrb.at 0 (by show 0 < 4; omega) (v := .bool no) rfl
      have b1 := hrb.at 1 (by show 1 < 4; omega) (v := .int .i64 nn) rfl
      have b2 := hrb.at 2 (by show 2 < 4; omega) (v := .int .i64 nx) rfl
      have b3 := hrb.at 3 (by show 3 < 4; omega) (v := .string nd) rfl
      clear hnb hrb
      go_wp2_with (go_at_call 16; (with_reducible refine (KW.out _).mono ?_); rintro e wz ⟨rfl, hgz⟩)
      go_ret
      exact ⟨rfl, HGR.out.trans hgz⟩


end Go.Proofs.Ytnapelocjcoofaa
