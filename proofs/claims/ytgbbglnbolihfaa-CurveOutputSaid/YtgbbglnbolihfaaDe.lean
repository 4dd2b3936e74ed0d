/-
  CurveOutput: frames of a conforming trace that leave in order, each at most Delay after its arrival, conform to Output.
-/
import Derived.Test.YtgbbglnbolihfaaCk
import Derived.Test.YtgbbglnbolihfaaCl
import Derived.Test.YtgbbglnbolihfaaCy
import Derived.Test.YtgbbglnbolihfaaDd
import Derived.Test.YtgbbglnbolihfaaBw
namespace Go.Proofs.Ytgbbglnbolihfaa
open Go.ChangeShapes Go.WideShapes Go.ChangeAt Go.WideMaps Go.WideElems Go.RowKit

theorem own_go {w w' : World} {base : Nat} {e : TypeId} {size : Nat} {v : Value} {n : Nat} {xs : List Value} (h : w.ownsRow base e size v n xs) (g : Bl w w') : w'.ownsRow base e size v n xs := by
  refine ⟨h.1, ?_⟩
  rcases h.2 with h0 | ⟨b, cap, cur, h1, h2, h3, h4⟩
  · exact .inl h0
  · exact .inr ⟨b, cap, cur, h1, h2, (Below.block g b (heap_lt h3)).trans h3, h4⟩
theorem wr_of_own {w : World} {base : Nat} {e : TypeId} {v : Value} {n : Nat} {ps : List (Int × Int)} (h : w.ownsRow base e 2 v n (flat ps)) :
    n = ps.length ∧ ∃ A c, v = .slice A n c ∧ Tr w A ps ∧ (0 < n → ∃ g, A = some ⟨g, 0, none⟩ ∧ base ≤ g ∧ Wr g n (fs ps) (sn ps) w) := by
  obtain ⟨hn, A, c, rfl, _, _, hT, hb⟩ := Tr.of_own h
  refine ⟨hn, A, c, rfl, hT, fun h0 => ?_⟩
  rcases h.2 with ⟨e1, h1⟩ | ⟨g, cap, cur, e1, hb1, hg, _⟩
  · omega
  · injection e1 with e2 _ _
    subst e2
    refine ⟨g, rfl, hb1, heap_lt hg, fun k hk => ?_, fun k hk => ?_, fun k hk => ?_⟩
    · obtain ⟨b, off, e3, _, c0, _⟩ := hT k (by omega)
      cases e3
      rw [Nat.zero_add] at c0; exact c0
    · obtain ⟨b, off, e3, _, _, c1⟩ := hT k (by omega)
      cases e3
      rw [Nat.zero_add] at c1; exact c1
    · unfold World.frozen?; simp [hg]
/-- A slice of numbers of 32 bits. -/
def Us32 (w : World) (A : Option Addr) (zs : List Int) : Prop :=
  ∀ k, k < zs.length → (∃ b off, A = some ⟨b, off, none⟩ ∧ w.cell? ⟨b, off + k, none⟩ = some (.int .u32 (zs.getD k 0))) ∧ 0 ≤ zs.getD k 0 ∧ zs.getD k 0 ≤ 4294967295
theorem Us32.go {w w' : World} {A : Option Addr} {zs : List Int} (h : Us32 w A zs) (g : Bl w w') : Us32 w' A zs := fun k hk => by
  obtain ⟨⟨b, off, h1, h3⟩, h4⟩ := h k hk
  exact ⟨⟨b, off, h1, (g.cell (p := ⟨b, _, none⟩) (cell_lt h3)).trans h3⟩, h4⟩
/-- The times behind the first i. -/
def cur (ys : List (Int × Int)) (wv : Nat → Int) (i k : Nat) : Int := if k < i then nx (fs ys) wv (k + 1) else fs ys k
theorem cnf_late {u R : Int} {gs ss : List Int} (ug : U16 gs) (us : U16 ss) : ∀ k, k < (cnf u R (dTr gs ss)).length → fs (cnf u R (dTr gs ss)) k ≤ 1966050 := by
  intro k hk
  have h0 : rtB (dTr gs ss) = true := dT_ok ug us (by omega)
  obtain ⟨h1, h2⟩ := cnfS_ok (u := u) (R := R) h0 (dTr gs ss).length (Nat.le_refl _)
  have hl : (dTr gs ss).length ≤ 30 := by unfold dTr; rw [dT_len]; omega
  have h3 : prev (dTr gs ss) (dTr gs ss).length ≤ 1966050 := by
    obtain ⟨n, hn⟩ : ∃ n, (dTr gs ss).length = n := ⟨_, rfl⟩
    rw [hn] at hl ⊢
    cases n with
    | zero => exact (by decide : (0 : Int) ≤ 1966050)
    | succ n =>
      have e : fs (dTr gs ss) n = atA gs (n + 1) := by
        have : dTr gs ss = dT gs ss (min ss.length 30) := rfl
        rw [this] at hn ⊢
        rw [dT_len] at hn
        exact (dT_fs (by omega)).1
      show fs (dTr gs ss) n ≤ _
      rw [e]
      have := atA_bd ug (n + 1)
      omega
  have e2 : cnf u R (dTr gs ss) = cnfS u R (dTr gs ss) (dTr gs ss).length := rfl
  rw [e2] at hk ⊢
  generalize cnfS u R (dTr gs ss) (dTr gs ss).length = zs at *
  obtain ⟨m, hm⟩ : ∃ m, k + m + 1 = zs.length := ⟨zs.length - k - 1, by omega⟩
  have h4 := fs_mono (rtB_iff.1 h1).2 k m (by omega)
  rw [← hm] at h2
  have : prev zs (k + m + 1) = fs zs (k + m) := rfl
  omega

theorem tr_delv {w : World} {A : Option Addr} {ys : List (Int × Int)} {wv : Nat → Int} {b0 : Nat} (h : 0 < ys.length → ∃ g, A = some ⟨g, 0, none⟩ ∧ b0 ≤ g ∧ Wr g ys.length (cur ys wv ys.length) (sn ys) w) : Tr w A (delv ys wv) := by
  intro k hk
  rw [delv_len] at hk
  obtain ⟨g, rfl, _, hw⟩ := h (by omega)
  have h0 := hw.at0 k hk
  have h1 := hw.at1 k hk
  have e : cur ys wv ys.length k = nx (fs ys) wv (k + 1) := by unfold cur; rw [if_pos hk]
  rw [e] at h0
  rw [(delv_fs hk).1, (delv_fs hk).2]
  exact ⟨g, 0, rfl, hw.lt, by rw [Nat.zero_add]; exact h0, by rw [Nat.zero_add]; exact h1⟩

set_option maxRecDepth 100000 in
set_option maxHeartbeats 4000000 in
theorem output_law (B R0 : Int) (gA : Option Addr) (gc : Nat) (sA : Option Addr) (sc : Nat) (gs ss : List Int) (m l : Int) (wA : Option Addr) (wc : Nat) (wz : List Int) (w : World) (hB : 0 ≤ B ∧ B ≤ 4294967295) (hR : 0 ≤ R0 ∧ R0 ≤ 4294967295) (hg : Us w gA gs) (hs : Us w sA ss) (ug : U16 gs) (us : U16 ss) (sl : (ss.length : Int) ≤ 9223372036854775807) (hm : 0 ≤ m ∧ m ≤ 4294967295) (hl : 0 ≤ l ∧ l ≤ 65535) (hw : Us32 w wA wz) (hwl : (wz.length : Int) ≤ 9223372036854775807) :
    Calls Try.prog 11 #[drV B R0 gA gs.length gc sA ss.length sc, .int .u32 m, .int .u16 l, .slice wA wz.length wc] w fun e w' => e = .returned (.bool true) ∧ Bl w w' := by
  obtain ⟨m0, m1⟩ := hm
  obtain ⟨l0, l1⟩ := hl
  have HWZ := Lib.hid hw
  have HWL := Lib.hid hwl
  unfold drV
  have KW := Lib.hid (fun w => cworks_any w)
  go_enter Try.func11, Try.ntmps11
  go_wp2_with fail
  refine (KW.out _).mono ?_; rintro e w1 ⟨rfl, gr⟩
  have k0 := (gr.cell (p := ⟨w.heap.size, 0, none⟩) (by simp <;> omega)).trans (show _ = some (Value.int .u32 B) by simp [go_sem])
  have k1 := (gr.cell (p := ⟨w.heap.size, 1, none⟩) (by simp <;> omega)).trans (show _ = some (Value.int .u32 R0) by simp [go_sem])
  have k2 := (gr.cell (p := ⟨w.heap.size, 2, none⟩) (by simp <;> omega)).trans (show _ = some (Value.slice gA gs.length gc) by simp [go_sem])
  have k3 := (gr.cell (p := ⟨w.heap.size, 3, none⟩) (by simp <;> omega)).trans (show _ = some (Value.slice sA ss.length sc) by simp [go_sem])
  have BW1 := Lib.hid (Bl.trans ((Bl.refl w).alloc _) gr)
  have pl := cell_lt k0
  have HD4 := Lib.hid (show ∀ w', Bl w1 w' → w'.cell? ⟨w.heap.size, 0, none⟩ = some (.int .u32 B) ∧ w'.cell? ⟨w.heap.size, 1, none⟩ = some (.int .u32 R0) ∧ w'.cell? ⟨w.heap.size, 2, none⟩ = some (.slice gA gs.length gc) ∧ w'.cell? ⟨w.heap.size, 3, none⟩ = some (.slice sA ss.length sc) from fun w' g => ⟨(g.cell (p := ⟨w.heap.size, 0, none⟩) pl).trans k0, (g.cell (p := ⟨w.heap.size, 1, none⟩) pl).trans k1, (g.cell (p := ⟨w.heap.size, 2, none⟩) pl).trans k2, (g.cell (p := ⟨w.heap.size, 3, none⟩) pl).trans k3⟩)
  clear gr
  have HCN := Lib.hid (fun (w' : World) (g : Bl w w') => by have := dconf_any B R0 gA gc sA sc gs ss w' hB hR (hg.go g) (hs.go g) ug us sl; unfold drV at this; exact this)
  have hlen0 : (dTr gs ss).length ≤ 30 := by unfold dTr; rw [dT_len]; omega
  have hok0 : rtB (dTr gs ss) = true := dT_ok ug us (by omega)
  have bu := dB_ok B R0
  have ok1 := (cnfS_ok (u := dBu B) (R := dRa R0) hok0 (dTr gs ss).length (Nat.le_refl _)).1
  have ft1 := cnfS_fit (u := dBu B) (R := dRa R0) (xs := dTr gs ss) (dTr gs ss).length
  have le1 := cnfS_len (dBu B) (dRa R0) (dTr gs ss) (dTr gs ss).length
  have lt1 := cnf_late (u := dBu B) (R := dRa R0) ug us
  have H0 := Lib.hid (fun w' => (by have := dbucket_any B R0 gA gs.length gc sA ss.length sc w' hB hR; unfold drV at this; exact this : Calls Try.prog 16 #[.agg #[.int .u32 B, .int .u32 R0, .slice gA gs.length gc, .slice sA ss.length sc]] w' fun e w'' => e = .returned (.agg #[.int .i64 (dBu B), .int .i64 (dRa R0)]) ∧ Bl w' w''))
  generalize w.heap.size = a at *
  have CN := Lib.hid (show rtB (cnf (dBu B) (dRa R0) (dTr gs ss)) = true ∧ fitB (cnf (dBu B) (dRa R0) (dTr gs ss)) (dBu B) (dRa R0) = true ∧ (cnf (dBu B) (dRa R0) (dTr gs ss)).length ≤ 30 ∧ ∀ k, k < (cnf (dBu B) (dRa R0) (dTr gs ss)).length → fs (cnf (dBu B) (dRa R0) (dTr gs ss)) k ≤ 1966050 from ⟨ok1, ft1, Nat.le_trans le1 hlen0, lt1⟩)
  clear ok1 ft1 le1 lt1 hok0 hlen0 hg hs ug us sl hB hR hw hwl
  generalize cnf (dBu B) (dRa R0) (dTr gs ss) = ys at *
  generalize dBu B = u at *
  generalize dRa R0 = R at *
  have BU := Lib.hid bu
  obtain ⟨⟨u1, u2⟩, R1, R2⟩ := bkB_iff.1 bu
  clear bu
  go_wp2_with fail
  refine (H0.out _).mono ?_; rintro e w2 ⟨rfl, gr⟩
  have BW2 := Lib.hid gr
  clear gr k0 k1 k2 k3 H0 pl
  go_upto_region 5 with fail
  obtain ⟨r, hr⟩ : ∃ r, (if R + m % 262144 < 2097152 then R + m % 262144 else 2097152) = r := ⟨_, rfl⟩
  have hr1 : R ≤ r ∧ r ≤ 2097152 := by rw [← hr]; split <;> omega
  rw [hr]
  clear hr
  have hsv : svB r l = true := svB_iff.2 (by omega)
  have hfl := fl_alike BU.out hsv hr1.1 (xs := [(u, R)]) ⟨by simp, by simp⟩ (alike1 u R)
  have hde := de_alike BU.out hsv hr1.1 (xs := [(u, R)]) ⟨by simp, by simp⟩ (alike1 u R)
  have hq := cl_self_le (n := u * 1048576) (show 0 < r by omega) (by omega)
  have hq0 := cl_nonneg (n := u * 1048576) (show 0 < r by omega) (by omega)
  obtain ⟨D, hD⟩ : ∃ D, deV [(u, R)] r l = D := ⟨_, rfl⟩
  rw [hD] at hde
  have hD0 : 0 ≤ D ∧ D ≤ 65535 + u * 1048576 := by omega
  obtain ⟨q, hqq⟩ : ∃ q, cl (R * D) 1048576 = q := ⟨_, rfl⟩
  have hqg : R * D ≤ q * 1048576 := by rw [← hqq]; exact cl_ge (by decide)
  have hRD : D ≤ R * D := by have := Int.mul_le_mul_of_nonneg_right R1 hD0.1; omega
  have hoU : ouU u R r l = u + q := by unfold ouU; rw [hD, hqq]
  have KD := Lib.hid (fun (c : Nat) (W : World) h0 h1 => delay1 (c := c) (w := W) hD hfl h0 h1)
  have hOE : ouE u R r l = if u + q ≤ 1048576 then 0 else 6 := by unfold ouE; rw [if_pos hfl, hoU]
  have SB2 := Lib.hid ((Sl.new w2 u R 30).go ((Bl.refl _).alloc (.cells #[.int .i64 r, .int .i64 l] 54)))
  have SA2 := Lib.hid (show Sl (w2.heap.size + 1) r l ((w2.alloc (.cells #[.int .i64 u, .int .i64 R] 30)).alloc (.cells #[.int .i64 r, .int .i64 l] 54)) by have h := Sl.new (w2.alloc (.cells #[.int .i64 u, .int .i64 R] 30)) r l 54; rw [World.size_alloc] at h; exact h)
  have BX := Lib.hid (BW2.out.trans (((Bl.refl w2).alloc (.cells #[.int .i64 u, .int .i64 R] 30)).alloc (.cells #[.int .i64 r, .int .i64 l] 54)))
  clear BW2
  generalize ((w2.alloc (.cells #[.int .i64 u, .int .i64 R] 30)).alloc (.cells #[.int .i64 r, .int .i64 l] 54)) = w3 at *
  generalize w2.heap.size = b at *
  by_cases hbig : u + q ≤ 1048576
  · rw [if_pos hbig] at hOE
    have hOB : ouB u R r l = u + q := by unfold ouB; rw [if_pos hOE, hoU]
    have hOR : ouR u R r l = R := by unfold ouR; rw [if_pos hOE]
    have KO := Lib.hid (fun (W : World) => by have := output_any u R r l W; rw [hOB, hOR, hOE] at this; exact this)
    have hDb : D ≤ 549755846656 := by omega
    have KIN := Lib.hid (fun (wv : Nat → Int) (h : ∀ k, 0 ≤ wv k ∧ wv k ≤ D) => And.intro (delv_ok CN.out.1 hD0.1 h (fun k hk => by have := CN.out.2.2.2 k hk; omega)) (delv_fit (rtB_iff.1 CN.out.1).2 hD0.1 h (by omega) hqg CN.out.2.1))
    have HNX := Lib.hid (fun (wv : Nat → Int) (h : ∀ k, 0 ≤ wv k ∧ wv k ≤ D) i hi => nx_bd (rtB_iff.1 CN.out.1).2 hD0.1 h i hi)
    have HOB := Lib.hid (show bkB (u + q) R = true from bkB_iff.2 (by have := cl_nonneg (n := R * D) (d := 1048576) (by decide) (by omega); omega))
    clear hOE hOB hOR hoU hqq hqg hRD hD hde hq hq0 hfl hsv
    have hys30 := CN.out.2.2.1
    have cB0 := SB2.out.c0
    have cB1 := SB2.out.c1
    have cBl := SB2.out.lt
    have cA0 := SA2.out.c0
    have cA1 := SA2.out.c1
    have cAl := SA2.out.lt
    have w3r := Lib.hid (Bl.refl w3)
    have BW3 := Lib.hid (BW1.out.trans BX.out)
    have SB3 := SB2
    have SA3 := SA2
    go_wp2_with fail
    refine Calls.mono (KD.out _ _ ?_ ?_) ?_
    iterate 2 (· simp [go_sem])
    rintro e w4 ⟨rfl, gr⟩
    have g4 := Lib.hid (show Bl w3 w4 from Bl.trans (by (repeat (first | exact Bl.refl _ | with_reducible refine Bl.alloc ?_ _))) gr)
    have SB4 := Lib.hid (SB3.out.go g4.out)
    have SA4 := Lib.hid (SA3.out.go g4.out)
    have BW4 := Lib.hid (BW3.out.trans g4.out)
    clear gr BW3 cB0 cB1 cBl cA0 cA1 cAl
    have cB0 := SB4.out.c0
    have cB1 := SB4.out.c1
    have cBl := SB4.out.lt
    have cA0 := SA4.out.c0
    have cA1 := SA4.out.c1
    have cAl := SA4.out.lt
    go_wp2_with fail
    refine Calls.mono (KO.out _) ?_
    rintro e w5 ⟨rfl, gr⟩
    have BX5 := Lib.hid (BX.out.trans (g4.out.trans (Bl.trans (by (repeat (first | exact Bl.refl _ | with_reducible refine Bl.alloc ?_ _))) gr)))
    have g5 := Lib.hid (show Bl w4 w5 from Bl.trans (by (repeat (first | exact Bl.refl _ | with_reducible refine Bl.alloc ?_ _))) gr)
    have SB5 := Lib.hid (SB4.out.go g5.out)
    have SA5 := Lib.hid (SA4.out.go g5.out)
    have BW5 := Lib.hid (BW4.out.trans g5.out)
    clear gr BW4 cB0 cB1 cBl cA0 cA1 cAl
    have cB0 := SB5.out.c0
    have cB1 := SB5.out.c1
    have cBl := SB5.out.lt
    have cA0 := SA5.out.c0
    have cA1 := SA5.out.c1
    have cAl := SA5.out.lt
    have SO5 := Lib.hid (Sl.new w5 (u + q) R 30)
    have BX6 := Lib.hid (BX5.out.alloc (.cells #[.int .i64 (u + q), .int .i64 R] 30))
    have BW6 := Lib.hid (BW5.out.alloc (.cells #[.int .i64 (u + q), .int .i64 R] 30))
    go_upto_region 9 with fail
    clear cA0 cA1 cAl cB0 cB1 cBl SA5 SB5 BX5 BW5
    generalize (w5.alloc (.cells #[.int .i64 (u + q), .int .i64 R] 30)) = w6 at *
    generalize w5.heap.size = ob at *
    obtain ⟨k0, k1, k2, k3⟩ := HD4.out (w6.alloc (.cells #[] 35)) (BX6.out.alloc _)
    go_wp2_with fail
    refine (HCN.out _ (BW6.out.alloc _)).mono ?_
    rintro e w7 ⟨A, c7, rfl, hc7, hT7, gr, _⟩
    have T7 := Lib.hid hT7
    have OWN := Lib.hid (own_go (World.ownsRow_lit (base := w6.heap.size) (e := 35) (size := 2) w6 #[] 0 (Nat.le_refl _) (Nat.zero_le _) rfl) gr)
    have G7 := Lib.hid (Bl.trans ((Bl.refl w6).alloc (.cells #[] 35)) gr)
    obtain ⟨i0, hi, hz0, hz1, hz2⟩ := info_parts info_arr
    have HI := Lib.hid (And.intro hi (And.intro hz0 (And.intro hz1 hz2)))
    clear gr hT7 hc7 hi hz0 hz1 hz2 k0 k1 k2 k3 HCN HD4
    have hsz6 : w6.heap.size ≤ w7.heap.size := G7.out.size
    go_wp2_with (at_builtin; refine wpList_app _ rfl _ _ _ rfl w6.heap.size 35 i0 _ 16 Try.underlying32 HI.out.1 HI.out.2.1 HI.out.2.2.1 HI.out.2.2.2 rfl (.slice (some ⟨w6.heap.size, 0, none⟩) 0 0) 0 [] rfl OWN.out A ys.length c7 ys rfl rfl T7.out (by unfold maxLen; omega) (by omega) hsz6 ?_; intro v1 w8 hown1 hgrow hat; clear hat; rw [List.nil_append, Nat.zero_add] at hown1; obtain ⟨_, A1, c1, rfl, _, hW1⟩ := wr_of_own hown1; have G8 := Lib.hid (Bl.grownBy G7.out hgrow (own_block_ge OWN.out)); have W8 := Lib.hid hW1; clear hown1 hgrow hW1)
    clear OWN T7 G7 HI hsz6
    have hwv : ∀ k, 0 ≤ (fun k => if k < wz.length then wz.getD k 0 % (D + 1) else 0 : Nat → Int) k ∧ (fun k => if k < wz.length then wz.getD k 0 % (D + 1) else 0 : Nat → Int) k ≤ D := fun k => by
      show 0 ≤ (if k < wz.length then wz.getD k 0 % (D + 1) else 0) ∧ (if k < wz.length then wz.getD k 0 % (D + 1) else 0) ≤ D
      split
      · have h1 := Int.emod_nonneg (wz.getD k 0) (show D + 1 ≠ 0 by omega)
        have h2 := Int.emod_lt_of_pos (wz.getD k 0) (show 0 < D + 1 by omega)
        omega
      · omega
    have hwy : ∀ k, k < wz.length → (fun k => if k < wz.length then wz.getD k 0 % (D + 1) else 0 : Nat → Int) k = wz.getD k 0 % (D + 1) := fun k hk => if_pos hk
    have hwn : ∀ k, ¬ k < wz.length → (fun k => if k < wz.length then wz.getD k 0 % (D + 1) else 0 : Nat → Int) k = 0 := fun k hk => if_neg hk
    generalize (fun k => if k < wz.length then wz.getD k 0 % (D + 1) else 0 : Nat → Int) = wv at *
    have HV := Lib.hid (And.intro hwv (And.intro hwy hwn))
    clear hwv hwy hwn
    have W0 := Lib.hid (show 0 < ys.length → ∃ g, A1 = some ⟨g, 0, none⟩ ∧ w6.heap.size ≤ g ∧ Wr g ys.length (cur ys wv 0) (sn ys) w8 from fun h => by
      obtain ⟨g, h1, h2, h3⟩ := W8.out h
      exact ⟨g, h1, h2, h3.congr (fun k _ => by unfold cur; rw [if_neg (by omega)])⟩)
    clear W8
    have hD1 : IntKind.i64.wrap (D + 1) = D + 1 := IntWalk.i64_in _ (by omega)
    have hDn : ¬ D + 1 = 0 := by omega
    have hys31 : (ys.length : Int) ≤ 30 := by omega
    go_loopw [16, 17] (fun lv iv wr => ∃ i : Nat, i ≤ ys.length ∧ i ≤ wz.length ∧ iv = .int .i64 i ∧ lv = .int .i64 (nx (fs ys) wv i) ∧ Hid (0 < ys.length → ∃ g, A1 = some ⟨g, 0, none⟩ ∧ w6.heap.size ≤ g ∧ Wr g ys.length (cur ys wv i) (sn ys) wr) ∧ Hid (Bl w6 wr)) (fun _ iv _ => ys.length - (intOf iv).toNat)
    case atStart => exact ⟨0, by omega, by omega, rfl, rfl, W0, G8⟩
    case round =>
      clear W0 G8
      obtain ⟨i, hi, hiw, rfl, rfl, hW, hB⟩ := hrel
      by_cases hin : i < ys.length
      · by_cases hiz : i < wz.length
        · obtain ⟨g, rfl, hg6, hWr⟩ := hW.out (by omega)
          obtain ⟨⟨b2, o2, e2, d0⟩, d1, d2⟩ := (HWZ.out.go (BW6.out.trans hB.out)) i hiz
          subst e2
          have c0 := hWr.at0 i hin
          have cf := hWr.fr i hin
          have ec : cur ys wv i i = fs ys i := by unfold cur; rw [if_neg (by omega)]
          rw [ec] at c0
          have bd := HNX.out wv HV.out.1 i hi
          have ok := (rtB_iff.1 CN.out.1).2 i hin
          have lt9 := CN.out.2.2.2 i hin
          have pvb := prev_bd (xs := ys) (k := i) (fun j hj => (rtB_iff.1 CN.out.1).2 j (by omega))
          unfold okAt at ok
          have en : nx (fs ys) wv (i + 1) = max (nx (fs ys) wv i) (fs ys i + wv i) := rfl
          have ew := HV.out.2.1 i hiz
          have wb := HV.out.1 i
          obtain ⟨y, hy⟩ : ∃ y, fs ys i = y := ⟨_, rfl⟩
          obtain ⟨M, hM⟩ : ∃ M, nx (fs ys) wv i = M := ⟨_, rfl⟩
          obtain ⟨z, hz⟩ : ∃ z, wz.getD i 0 = z := ⟨_, rfl⟩
          obtain ⟨x, hx⟩ : ∃ x, wv i = x := ⟨_, rfl⟩
          rw [hy] at c0 ok lt9 en
          rw [hM] at en bd ⊢
          rw [hz] at d0 d1 d2 ew
          rw [hx] at ew wb en
          have w1' : IntKind.i64.wrap z = z := IntWalk.i64_in _ (by omega)
          have w2' : z.tmod (D + 1) = x := by rw [Int.tmod_eq_emod_of_nonneg d1]; exact ew.symm
          have w3' : z % (D + 1) = x := ew.symm
          have w4' : IntKind.i64.wrap (y + x) = y + x := IntWalk.i64_in _ (by omega)
          have w5' : IntKind.i64.wrap x = x := IntWalk.i64_in _ (by omega)
          have hinI : (i : Int) < (ys.length : Int) := by omega
          have hizI : (i : Int) < (wz.length : Int) := by omega
          have hi0 : (0 : Int) ≤ (i : Int) := by omega
          have EN := Lib.hid en
          have WP := Lib.hid (fun (v : Int) (wq : World) (h : Bl wr wq) => (hWr.go h).put hin v)
          have hM2 : 0 ≤ M ∧ M ≤ 1099511627776 := by omega
          clear en ew wb bd ok lt9 pvb hy hM hz hx ec hWr
          by_cases hmx : M < y + x
          · go_wp2_with fail
            go_quiet (fail)
            go_wp2_with fail
            refine ⟨⟨i + 1, by omega, by omega, by go_num, ?_, Lib.hid (fun _ => ⟨g, rfl, hg6, ?_⟩), Lib.hid ?_⟩, ?_⟩
            · rw [EN.out, show max M (y + x) = y + x by omega]
            · refine (WP.out _ _ ?_).congr (fun k _ => ?_)
              · exact (Bl.refl wr).drewN _
              · unfold cur
                by_cases e : k = i
                · subst e
                  rw [if_pos rfl, if_pos (by omega), EN.out, show max M (y + x) = y + x by omega]
                · rw [if_neg e]
                  by_cases e2 : k < i
                  · rw [if_pos e2, if_pos (by omega)]
                  · rw [if_neg e2, if_neg (by omega)]
            · exact (hB.out.drewN _).setCell hg6 _
            · simp [intOf]; omega
          · go_wp2_with fail
            go_quiet (fail)
            go_wp2_with fail
            refine ⟨⟨i + 1, by omega, by omega, by go_num, ?_, Lib.hid (fun _ => ⟨g, rfl, hg6, ?_⟩), Lib.hid ?_⟩, ?_⟩
            · rw [EN.out, show max M (y + x) = M by omega]
            · refine (WP.out _ _ ?_).congr (fun k _ => ?_)
              · exact (Bl.refl wr).drewN _
              · unfold cur
                by_cases e : k = i
                · subst e
                  rw [if_pos rfl, if_pos (by omega), EN.out, show max M (y + x) = M by omega]
                · rw [if_neg e]
                  by_cases e2 : k < i
                  · rw [if_pos e2, if_pos (by omega)]
                  · rw [if_neg e2, if_neg (by omega)]
            · exact (hB.out.drewN _).setCell hg6 _
            · simp [intOf]; omega
        · obtain rfl : i = wz.length := by omega
          go_wp2_with fail
          have hst : min wz.length ys.length = wz.length := by omega
          go_loopw [16, 18] (fun lv jv wq => ∃ j : Nat, wz.length ≤ j ∧ jv = .int .i64 j ∧ lv = .int .i64 (nx (fs ys) wv (min j ys.length)) ∧ Hid (0 < ys.length → ∃ g, A1 = some ⟨g, 0, none⟩ ∧ w6.heap.size ≤ g ∧ Wr g ys.length (cur ys wv (min j ys.length)) (sn ys) wq) ∧ Hid (Bl w6 wq)) (fun _ jv _ => ys.length - (intOf jv).toNat)
          case atStart => exact ⟨wz.length, Nat.le_refl _, rfl, by rw [hst], by rw [hst]; exact hW, hB⟩
          case round =>
            clear hW hB hst hin HWZ
            obtain ⟨j, hjw, rfl, rfl, hW, hB⟩ := hrel
            by_cases hjn : j < ys.length
            · rw [show min j ys.length = j by omega] at hW ⊢
              obtain ⟨g, rfl, hg6, hWr⟩ := hW.out (by omega)
              have c0 := hWr.at0 j hjn
              have cf := hWr.fr j hjn
              have ec : cur ys wv j j = fs ys j := by unfold cur; rw [if_neg (by omega)]
              rw [ec] at c0
              have en : nx (fs ys) wv (j + 1) = max (nx (fs ys) wv j) (fs ys j + wv j) := rfl
              rw [HV.out.2.2 j (by omega), Int.add_zero] at en
              obtain ⟨y, hy⟩ : ∃ y, fs ys j = y := ⟨_, rfl⟩
              obtain ⟨M, hM⟩ : ∃ M, nx (fs ys) wv j = M := ⟨_, rfl⟩
              rw [hy] at c0 en
              rw [hM] at en ⊢
              have hjnI : (j : Int) < (ys.length : Int) := by omega
              have hj0 : (0 : Int) ≤ (j : Int) := by omega
              have EN := Lib.hid en
              have WP := Lib.hid (fun (v : Int) (wq : World) (h : Bl wr wq) => (hWr.go h).put hjn v)
              clear en hy hM ec hWr
              by_cases hmx : M < y
              · go_wp2_with fail
                refine ⟨⟨j + 1, by omega, by go_num, ?_, Lib.hid (fun _ => ⟨g, rfl, hg6, ?_⟩), Lib.hid ?_⟩, ?_⟩
                · rw [show min (j + 1) ys.length = j + 1 by omega, EN.out, show max M y = y by omega]
                · refine (WP.out _ _ ?_).congr (fun k _ => ?_)
                  · exact Bl.refl wr
                  · rw [show min (j + 1) ys.length = j + 1 by omega]
                    unfold cur
                    by_cases e : k = j
                    · subst e
                      rw [if_pos rfl, if_pos (by omega), EN.out, show max M y = y by omega]
                    · rw [if_neg e]
                      by_cases e2 : k < j
                      · rw [if_pos e2, if_pos (by omega)]
                      · rw [if_neg e2, if_neg (by omega)]
                · exact hB.out.setCell hg6 _
                · simp [intOf]; omega
              · go_wp2_with fail
                refine ⟨⟨j + 1, by omega, by go_num, ?_, Lib.hid (fun _ => ⟨g, rfl, hg6, ?_⟩), Lib.hid ?_⟩, ?_⟩
                · rw [show min (j + 1) ys.length = j + 1 by omega, EN.out, show max M y = M by omega]
                · refine (WP.out _ _ ?_).congr (fun k _ => ?_)
                  · exact Bl.refl wr
                  · rw [show min (j + 1) ys.length = j + 1 by omega]
                    unfold cur
                    by_cases e : k = j
                    · subst e
                      rw [if_pos rfl, if_pos (by omega), EN.out, show max M y = M by omega]
                    · rw [if_neg e]
                      by_cases e2 : k < j
                      · rw [if_pos e2, if_pos (by omega)]
                      · rw [if_neg e2, if_neg (by omega)]
                · exact hB.out.setCell hg6 _
                · simp [intOf]; omega
            · rw [show min j ys.length = ys.length by omega] at hW ⊢
              have hjnI : ¬ (j : Int) < (ys.length : Int) := by omega
              have TD := Lib.hid (tr_delv hW.out)
              have o0 := (SO5.out.go hB.out).c0
              have o1 := (SO5.out.go hB.out).c1
              have hk := KIN.out wv HV.out.1
              have hco : coV (u + q) R (delv ys wv) = (true, 0) := by rw [coV_pair HOB.out hk.1, hk.2]
              have KC := Lib.hid (fun c w h => by have := conforms_v hco A1 c w (by rw [delv_len]; omega) h; rw [delv_len] at this; exact this)
              clear hco hk hW
              go_wp2_with fail
              refine (KC.out _ _ TD.out).mono ?_
              rintro e w9 ⟨rfl, gr⟩
              have B9 := Lib.hid (BW6.out.trans (hB.out.trans gr))
              clear gr
              go_wp2_with fail
              go_ret
              exact ⟨rfl, B9.out⟩
      · obtain rfl : i = ys.length := by omega
        go_wp2_with fail
        have hst : min wz.length ys.length = ys.length := by omega
        go_loopw [16, 18] (fun lv jv wq => ∃ j : Nat, wz.length ≤ j ∧ jv = .int .i64 j ∧ lv = .int .i64 (nx (fs ys) wv (min j ys.length)) ∧ Hid (0 < ys.length → ∃ g, A1 = some ⟨g, 0, none⟩ ∧ w6.heap.size ≤ g ∧ Wr g ys.length (cur ys wv (min j ys.length)) (sn ys) wq) ∧ Hid (Bl w6 wq)) (fun _ jv _ => ys.length - (intOf jv).toNat)
        case atStart => exact ⟨wz.length, Nat.le_refl _, rfl, by rw [hst], by rw [hst]; exact hW, hB⟩
        case round =>
          clear hW hB hst hin HWZ
          obtain ⟨j, hjw, rfl, rfl, hW, hB⟩ := hrel
          by_cases hjn : j < ys.length
          · exfalso; omega
          · rw [show min j ys.length = ys.length by omega] at hW ⊢
            have hjnI : ¬ (j : Int) < (ys.length : Int) := by omega
            have TD := Lib.hid (tr_delv hW.out)
            have o0 := (SO5.out.go hB.out).c0
            have o1 := (SO5.out.go hB.out).c1
            have hk := KIN.out wv HV.out.1
            have hco : coV (u + q) R (delv ys wv) = (true, 0) := by rw [coV_pair HOB.out hk.1, hk.2]
            have KC := Lib.hid (fun c w h => by have := conforms_v hco A1 c w (by rw [delv_len]; omega) h; rw [delv_len] at this; exact this)
            clear hco hk hW
            go_wp2_with fail
            refine (KC.out _ _ TD.out).mono ?_
            rintro e w9 ⟨rfl, gr⟩
            have B9 := Lib.hid (BW6.out.trans (hB.out.trans gr))
            clear gr
            go_wp2_with fail
            go_ret
            exact ⟨rfl, B9.out⟩
  · rw [if_neg hbig] at hOE
    have KO := Lib.hid (fun (W : World) => by have := output_any u R r l W; rw [hOE] at this; exact this)
    generalize ouB u R r l = ob' at *
    generalize ouR u R r l = or' at *
    clear hOE hoU hqq hqg hRD hD hde hq hq0 hfl hsv hbig HCN HD4 CN HWZ HWL
    have cB0 := SB2.out.c0
    have cB1 := SB2.out.c1
    have cBl := SB2.out.lt
    have cA0 := SA2.out.c0
    have cA1 := SA2.out.c1
    have cAl := SA2.out.lt
    have w3r := Lib.hid (Bl.refl w3)
    have BW3 := Lib.hid (BW1.out.trans BX.out)
    have SB3 := SB2
    have SA3 := SA2
    go_wp2_with fail
    refine Calls.mono (KD.out _ _ ?_ ?_) ?_
    iterate 2 (· simp [go_sem])
    rintro e w4 ⟨rfl, gr⟩
    have g4 := Lib.hid (show Bl w3 w4 from Bl.trans (by (repeat (first | exact Bl.refl _ | with_reducible refine Bl.alloc ?_ _))) gr)
    have SB4 := Lib.hid (SB3.out.go g4.out)
    have SA4 := Lib.hid (SA3.out.go g4.out)
    have BW4 := Lib.hid (BW3.out.trans g4.out)
    clear gr BW3 cB0 cB1 cBl cA0 cA1 cAl
    have cB0 := SB4.out.c0
    have cB1 := SB4.out.c1
    have cBl := SB4.out.lt
    have cA0 := SA4.out.c0
    have cA1 := SA4.out.c1
    have cAl := SA4.out.lt
    go_wp2_with fail
    refine Calls.mono (KO.out _) ?_
    rintro e w5 ⟨rfl, gr⟩
    have g5 := Lib.hid (show Bl w4 w5 from Bl.trans (by (repeat (first | exact Bl.refl _ | with_reducible refine Bl.alloc ?_ _))) gr)
    have SB5 := Lib.hid (SB4.out.go g5.out)
    have SA5 := Lib.hid (SA4.out.go g5.out)
    have BW5 := Lib.hid (BW4.out.trans g5.out)
    clear gr BW4 cB0 cB1 cBl cA0 cA1 cAl
    have cB0 := SB5.out.c0
    have cB1 := SB5.out.c1
    have cBl := SB5.out.lt
    have cA0 := SA5.out.c0
    have cA1 := SA5.out.c1
    have cAl := SA5.out.lt
    go_wp2_with fail
    go_ret
    exact ⟨rfl, BW5.out.alloc _⟩

end Go.Proofs.Ytgbbglnbolihfaa
