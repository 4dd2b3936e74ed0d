/-
  CurveDelays: Delay returns what the reference does.
-/
import Derived.Test.YtgbbglnbolihfaaCk
import Derived.Test.YtgbbglnbolihfaaCg
import Derived.Test.YtgbbglnbolihfaaCn
import Derived.Test.YtgbbglnbolihfaaCv
import Derived.Test.YtgbbglnbolihfaaBu
import Derived.Test.YtgbbglnbolihfaaBw
import Derived.Test.YtgbbglnbolihfaaCqa
import Derived.RegionTactic
import Derived.BigRegion
import Derived.ChangeAlike
namespace Go.Proofs.Ytgbbglnbolihfaa
open Go.ChangeShapes Go.WideShapes Go.ChangeAt Go.WideMaps Go.WideElems Go.RowKit

/-- A slice of drafts. -/
def Ds (w : World) (A : Option Addr) (n : Nat) : Prop := ∀ k, k < n → ∃ b off B R gA gn gc sA sn sc, A = some ⟨b, off, none⟩ ∧ b < w.heap.size ∧ w.cell? ⟨b, off + k * 4, none⟩ = some (.int .u32 B) ∧ w.cell? ⟨b, off + k * 4 + 1, none⟩ = some (.int .u32 R) ∧ w.cell? ⟨b, off + k * 4 + 2, none⟩ = some (.slice gA gn gc) ∧ w.cell? ⟨b, off + k * 4 + 3, none⟩ = some (.slice sA sn sc) ∧ (0 ≤ B ∧ B ≤ 4294967295) ∧ (0 ≤ R ∧ R ≤ 4294967295)
theorem Ds.go {w w' : World} {A : Option Addr} {n : Nat} (h : Ds w A n) (g : Bl w w') : Ds w' A n := fun k hk => by
  obtain ⟨b, off, B, R, gA, gn, gc, sA, sn, sc, h0, h1, h2, h3, h4, h5, h6, h7⟩ := h k hk
  exact ⟨b, off, B, R, gA, gn, gc, sA, sn, sc, h0, Nat.lt_of_lt_of_le h1 g.size, (g.cell (p := ⟨b, _, none⟩) h1).trans h2, (g.cell (p := ⟨b, _, none⟩) h1).trans h3, (g.cell (p := ⟨b, _, none⟩) h1).trans h4, (g.cell (p := ⟨b, _, none⟩) h1).trans h5, h6, h7⟩
theorem own_went {w w' : World} {base : Nat} {e : TypeId} {size : Nat} {v : Value} {n : Nat} {xs : List Value} (h : w.ownsRow base e size v n xs) (g : Bl w w') : w'.ownsRow base e size v n xs := by
  refine ⟨h.1, ?_⟩
  rcases h.2 with h0 | ⟨b, cap, cur, h1, h2, h3, h4⟩
  · exact .inl h0
  · exact .inr ⟨b, cap, cur, h1, h2, (Below.block g b (heap_lt h3)).trans h3, h4⟩
theorem Sl.put0 {a : Nat} {x y : Int} {w : World} (h : Sl a x y w) (v : Int) : Sl a v y ((w.setCell ⟨a, 0, none⟩ (.int .i64 v)).drew) := by
  have hs : (w.cell? ⟨a, 0, none⟩).isSome = true := by rw [h.c0]; rfl
  have h1 := h.c1
  have h2 := h.f0
  have h3 := h.f1
  have h4 := h.lt
  exact ⟨World.cell?_setCell_same' _ _ _ hs, by simp [go_sem, h1], by simp [go_sem, h2], by simp [go_sem, h3], by simpa [World.setCell] using h4⟩
theorem lit_one (w : World) (e : TypeId) (x y : Int) : (w.alloc (.cells #[.int .i64 x, .int .i64 y] e)).ownsRow w.heap.size e 2 (.slice (some ⟨w.heap.size, 0, none⟩) 1 1) 1 [.int .i64 x, .int .i64 y] :=
  World.ownsRow_lit w #[.int .i64 x, .int .i64 y] 1 (Nat.le_refl _) (by unfold maxLen; omega) rfl
theorem tr_new (w : World) (x y : Int) (e : TypeId) : Tr (w.alloc (.cells #[.int .i64 x, .int .i64 y] e)) (some ⟨w.heap.size, 0, none⟩) [(x, y)] :=
  Tr.one (by simp [go_sem]) (by simp [go_sem])
theorem four_lists {w : World} (A0 : Option Addr) (m0 c0 : Nat) (A1 : Option Addr) (m1 c1 : Nat) (A2 : Option Addr) (m2 c2 : Nat) (A3 : Option Addr) (m3 c3 : Nat) (xs ys zs us : List (Int × Int)) (hm0 : m0 = xs.length) (hm1 : m1 = ys.length) (hm2 : m2 = zs.length) (hm3 : m3 = us.length) (h0 : Tr w A0 xs) (h1 : Tr w A1 ys) (h2 : Tr w A2 zs) (h3 : Tr w A3 us) (l0 : m0 ≤ 1000) (l1 : m1 ≤ 1000) (l2 : m2 ≤ 1000) (l3 : m3 ≤ 1000) (k : Nat) (hk : k < 4) :
    ∃ vs A c, Tr w A vs ∧ vs.length ≤ 1000 ∧ ∀ w, (Instr.index 65 (.agg #[.slice A0 m0 c0, .slice A1 m1 c1, .slice A2 m2 c2, .slice A3 m3 c3]) (.int .i64 k)).run Try.prog w = .ok (.slice A (List.length vs) c) w := by
  subst hm0 hm1 hm2 hm3
  match k, hk with
  | 0, _ => exact ⟨xs, A0, c0, h0, l0, fun _ => by kernel_rfl⟩
  | 1, _ => exact ⟨ys, A1, c1, h1, l1, fun _ => by kernel_rfl⟩
  | 2, _ => exact ⟨zs, A2, c2, h2, l2, fun _ => by kernel_rfl⟩
  | 3, _ => exact ⟨us, A3, c3, h3, l3, fun _ => by kernel_rfl⟩
theorem three_services (x0 x1 x2 x3 x4 x5 : Int) (k : Nat) (hk : k < 3) : ∃ p q : Int, ∀ w, (Instr.index 66 (.agg #[.int .i64 x0, .int .i64 x1, .int .i64 x2, .int .i64 x3, .int .i64 x4, .int .i64 x5]) (.int .i64 k)).run Try.prog w = .ok (.agg #[.int .i64 p, .int .i64 q]) w := by
  match k, hk with
  | 0, _ => exact ⟨x0, x1, fun _ => by kernel_rfl⟩
  | 1, _ => exact ⟨x2, x3, fun _ => by kernel_rfl⟩
  | 2, _ => exact ⟨x4, x5, fun _ => by kernel_rfl⟩

set_option maxRecDepth 100000 in
set_option maxHeartbeats 4000000 in
theorem delays_law (xs : List (Int × Int)) (A : Option Addr) (cap k : Nat) (dA : Option Addr) (dn dc : Nat) (sr sl' n0 n1 bu bR : Int) (w : World) (hl : (xs.length : Int) ≤ 9223372036854775807) (hcap : xs.length ≤ cap) (hT : Tr w A xs) (hk : k = min xs.length 13) (hD : Ds w dA dn) (hdn : (dn : Int) ≤ 9223372036854775807) (h0 : 0 ≤ n0 ∧ n0 ≤ 4294967295) (h1 : 0 ≤ n1 ∧ n1 ≤ 4294967295) :
    Calls Try.prog 6 #[.slice A xs.length cap, .slice dA dn dc, .agg #[.int .i64 sr, .int .i64 sl'], .agg #[.int .u32 n0, .int .u32 n1], .agg #[.int .i64 bu, .int .i64 bR]] w fun e w' => e = .returned (.bool true) ∧ Bl w w' := by
  have KW := Lib.hid (fun w => cworks_any w)
  have KO := Lib.hid (fun w => of_any n0 n1 h0 h1 w)
  generalize ofR n0 = o0 at *
  generalize ofL n1 = o1 at *
  have HT := Lib.hid hT
  have HDS := Lib.hid hD
  obtain ⟨h2, h3⟩ := h1
  clear hT hD h0
  go_enter Try.func6, Try.ntmps6
  have m13 : (if (13 : Int) < (xs.length : Int) then (13 : Int) else (xs.length : Int)) = (k : Int) := by split <;> omega
  obtain ⟨e131, e132⟩ : (k : Int) ≤ 13 ∧ (k : Int) ≤ (xs.length : Int) := by omega
  have HTK := Lib.hid (And.intro (HT.out.take k) (show k = (xs.take k).length by rw [List.length_take]; omega))
  clear hk HT
  have HC := Lib.hid (show ∀ w1, Bl (((w.alloc (.cells #[.int .i64 sr, .int .i64 sl'] 54)).alloc (.cells #[.int .u32 n0, .int .u32 n1] 64)).alloc (.cells #[.int .i64 bu, .int .i64 bR] 30)) w1 → (w1.cell? ⟨w.heap.size, 0, none⟩ = some (.int .i64 sr) ∧ w1.cell? ⟨w.heap.size, 1, none⟩ = some (.int .i64 sl') ∧ w1.cell? ⟨w.heap.size + 1, 0, none⟩ = some (.int .u32 n0) ∧ w1.cell? ⟨w.heap.size + 1, 1, none⟩ = some (.int .u32 n1) ∧ w1.cell? ⟨w.heap.size + 1 + 1, 0, none⟩ = some (.int .i64 bu) ∧ w1.cell? ⟨w.heap.size + 1 + 1, 1, none⟩ = some (.int .i64 bR)) from fun w1 g => by
    refine ⟨?_, ?_, ?_, ?_, ?_, ?_⟩
    · exact (g.cell (p := ⟨w.heap.size, 0, none⟩) (by simp <;> omega)).trans (by simp [go_sem])
    · exact (g.cell (p := ⟨w.heap.size, 1, none⟩) (by simp <;> omega)).trans (by simp [go_sem])
    · exact (g.cell (p := ⟨w.heap.size + 1, 0, none⟩) (by simp <;> omega)).trans (by simp [go_sem])
    · exact (g.cell (p := ⟨w.heap.size + 1, 1, none⟩) (by simp <;> omega)).trans (by simp [go_sem])
    · exact (g.cell (p := ⟨w.heap.size + 1 + 1, 0, none⟩) (by simp <;> omega)).trans (by simp [go_sem])
    · exact (g.cell (p := ⟨w.heap.size + 1 + 1, 1, none⟩) (by simp <;> omega)).trans (by simp [go_sem]))
  have HB := Lib.hid (show Bl w (((w.alloc (.cells #[.int .i64 sr, .int .i64 sl'] 54)).alloc (.cells #[.int .u32 n0, .int .u32 n1] 64)).alloc (.cells #[.int .i64 bu, .int .i64 bR] 30)) from (((Bl.refl w).alloc _).alloc _).alloc _)
  go_wp2_with fail
  refine (KO.out _).mono ?_
  rintro e w1 ⟨rfl, gr⟩
  have SO := Lib.hid (Sl.new w1 o0 o1 54)
  have BX := Lib.hid (gr.alloc (.cells #[.int .i64 o0, .int .i64 o1] 54))
  clear gr KO
  go_wp2_with fail
  generalize (w1.alloc (.cells #[.int .i64 o0, .int .i64 o1] 54)) = w2 at *
  generalize w1.heap.size = oa at *
  generalize w.heap.size = a at *
  generalize (((w.alloc (.cells #[.int .i64 sr, .int .i64 sl'] 54)).alloc (.cells #[.int .u32 n0, .int .u32 n1] 64)).alloc (.cells #[.int .i64 bu, .int .i64 bR] 30)) = W at *
  clear m13
  obtain ⟨i0, hi, hz0, hz1, hz2⟩ := info_parts info_bkt
  have HI := Lib.hid (And.intro hi (And.intro hz0 (And.intro hz1 hz2)))
  clear hi hz0 hz1 hz2
  go_loopw [12, 13] (fun lv iv wr => ∃ (i : Nat) (ps : List (Int × Int)) (A1 : Option Addr) (c1 : Nat), i ≤ dn ∧ i ≤ 6 ∧ iv = .int .i64 i ∧ lv = .slice A1 i c1 ∧ Hid (ps.length = i ∧ wr.ownsRow w2.heap.size 30 2 (.slice A1 i c1) i (flat ps)) ∧ Hid (Bl w2 wr)) (fun _ iv _ => 6 - (intOf iv).toNat)
  case atStart => exact ⟨0, [], none, 0, by omega, by omega, rfl, rfl, Lib.hid ⟨rfl, World.ownsRow_nil _ _ _ _⟩, Bl.refl _⟩
  case round =>
    obtain ⟨i, ps, A1, c1, hid, hi6, rfl, rfl, hOW, hw⟩ := hrel
    by_cases hlt : i < dn
    · by_cases hlt6 : i < 6
      · obtain ⟨b2, o2, B, R, gA, gn, gc, sA, sn, sc, e2, _, d0, d1, d2, d3, hB, hR⟩ := (HDS.out.go (HB.out.trans (BX.out.trans hw.out))) i hlt
        subst e2
        have H0 := Lib.hid (fun w' => (by have := dbucket_any B R gA gn gc sA sn sc w' hB hR; unfold drV at this; exact this : Calls Try.prog 16 #[.agg #[.int .u32 B, .int .u32 R, .slice gA gn gc, .slice sA sn sc]] w' fun e w'' => e = .returned (.agg #[.int .i64 (dBu B), .int .i64 (dRa R)]) ∧ Bl w' w''))
        have hltI : (i : Int) < (dn : Int) := by omega
        have hlt6I : (i : Int) < 6 := by omega
        clear hB hR
        go_wp2_with fail
        refine (H0.out _).mono ?_
        rintro e w3 ⟨rfl, gr⟩
        clear d0 d1 d2 d3 H0
        generalize dBu B = p at *
        generalize dRa R = q at *
        have B3 := Lib.hid (hw.out.trans (gr.alloc (.cells #[.int .i64 p, .int .i64 q] 30)))
        have OW := Lib.hid (own_went hOW.out.2 (gr.alloc (.cells #[.int .i64 p, .int .i64 q] 30)))
        have HPL := Lib.hid hOW.out.1
        have hsz : w2.heap.size ≤ (w3.alloc (.cells #[.int .i64 p, .int .i64 q] 30)).heap.size := B3.out.size
        clear hOW gr
        go_wp2_with (at_builtin; refine wpList_app _ rfl _ _ _ rfl w2.heap.size 30 i0 _ 16 Try.underlying39 HI.out.1 HI.out.2.1 HI.out.2.2.1 HI.out.2.2.2 rfl (.slice A1 i c1) i (flat ps) rfl OW.out (some ⟨w3.heap.size, 0, none⟩) 1 1 [(p, q)] rfl rfl (tr_new w3 p q _) (by unfold maxLen; omega) (by omega) hsz ?_; intro v1 w4 hown1 hgrow hat; clear hat; rw [← flat_append] at hown1; have G4 := Lib.hid (Bl.grownBy B3.out hgrow (own_block_ge OW.out)); obtain ⟨-, A4, c4, rfl, -⟩ := Tr.of_own hown1; have OW4 := Lib.hid hown1; clear hown1 hgrow)
        go_roundw
        case rel => exact ⟨i + 1, ps ++ [(p, q)], A4, c4, by omega, by omega, by go_num, rfl, Lib.hid ⟨by rw [List.length_append, HPL.out]; rfl, OW4.out⟩, G4⟩
        case measure => simp [intOf]; omega
      · have hltI : (i : Int) < (dn : Int) := by omega
        have hlt6I : ¬ (i : Int) < 6 := by omega
        have hpI : (0 : Int) < (i : Int) := by omega
        have o0' := (SO.out.go hw.out).c0
        have o1' := (SO.out.go hw.out).c1
        have ol := (SO.out.go hw.out).lt
        have SF := Lib.hid (Sl.new wr o0 o1 54)
        have GF := Lib.hid ((Bl.refl wr).alloc (.cells #[.int .i64 o0, .int .i64 o1] 54))
        have TA := Lib.hid (show Tr wr A1 ps from by obtain ⟨_, A', c', e', _, _, hT, _⟩ := Tr.of_own hOW.out.2; cases e'; exact hT)
        have HPL := Lib.hid hOW.out.1
        clear hOW
        go_upto_region 10 with fail
        clear o0' o1' ol
        generalize (wr.alloc (.cells #[.int .i64 o0, .int .i64 o1] 54)) = wf at *
        obtain ⟨fb, hfb⟩ : ∃ fb, wr.heap.size = fb := ⟨_, rfl⟩
        have HFB := Lib.hid (show wr.heap.size ≤ fb by omega)
        rw [hfb] at SF ⊢
        clear hfb
        have TF := Lib.hid (TA.out.go GF.out)
        obtain ⟨b1, of1, rfl, lt1, _, dR⟩ := TF.out 0 (by rw [HPL.out]; omega)
        rw [Nat.zero_mul, Nat.add_zero] at dR
        obtain ⟨q0, hq0⟩ : ∃ v, sn ps 0 = v := ⟨_, rfl⟩
        rw [hq0] at dR
        clear hq0 TF
        have et1 : n1.tmod 3 = n1 % 3 := Int.tmod_eq_emod_of_nonneg h2
        have hw3 : IntKind.i64.wrap (n1 % 3) = n1 % 3 := IntWalk.i64_in _ (by omega)
        obtain ⟨_, _, _, kn1, _, _⟩ := HC.out wf (BX.out.trans (hw.out.trans GF.out))
        have f0 := SF.out.c0
        have f1 := SF.out.c1
        have ff := SF.out.f0
        have fl := SF.out.lt
        go_wp2_with fail
        go_region
        generalize (if wrap64 (q0 + n1 % 3) < 2097152 then wrap64 (q0 + n1 % 3) else 2097152) = r0 at *
        have SQ := Lib.hid (SF.out.put0 r0)
        have GQ := Lib.hid ((GF.out.setCell (p := ⟨fb, 0, none⟩) HFB.out (.int .i64 r0)).drew)
        clear et1 hw3 kn1 f0 f1 ff fl dR lt1 SF GF HFB
        generalize ((wf.setCell ⟨fb, 0, none⟩ (.int .i64 r0)).drew) = wq at *
        have TW := Lib.hid (TA.out.go GQ.out)
        have BQ := Lib.hid (hw.out.trans GQ.out)
        have SOQ := Lib.hid (SO.out.go BQ.out)
        have HCQ := Lib.hid (HC.out wq (BX.out.trans BQ.out))
        have BWQ := Lib.hid (HB.out.trans (BX.out.trans BQ.out))
        have TK := Lib.hid (HTK.out.1.go BWQ.out)
        have HK2 := Lib.hid HTK.out.2
        clear TA GQ HC SO hw BQ BX HB HTK HDS
        obtain ⟨_, _, _, _, kb0, kb1⟩ := HCQ.out
        go_wp2_with (first
          | (at_builtin; refine wpList_app _ rfl _ _ _ rfl wq.heap.size 30 i0 _ 16 Try.underlying39 HI.out.1 HI.out.2.1 HI.out.2.2.1 HI.out.2.2.2 rfl (.slice (some ⟨wq.heap.size, 0, none⟩) 1 1) 1 [.int .i64 bu, .int .i64 bR] rfl (lit_one wq _ bu bR) (some ⟨b1, of1, none⟩) i c1 ps rfl HPL.out.symm (TW.out.go ((Bl.refl wq).alloc _)) (by unfold maxLen; omega) (by omega) (by simp <;> omega) ?_; intro v1 wa hown1 hgrow hat; clear hat; have G1 := Lib.hid (Bl.grownBy ((Bl.refl wq).alloc _) hgrow (own_block_ge (lit_one wq 30 bu bR))); obtain ⟨-, A5, c5, rfl, -, -, hT5, -⟩ := Tr.of_own (ps := (bu, bR) :: ps) hown1; have T5 := Lib.hid hT5; clear hown1 hgrow hT5)
          | (at_builtin; refine wpList_app _ rfl _ _ _ rfl wa.heap.size 30 i0 _ 16 Try.underlying39 HI.out.1 HI.out.2.1 HI.out.2.2.1 HI.out.2.2.2 rfl (.slice (some ⟨wa.heap.size, 0, none⟩) 0 0) 0 [] rfl (World.ownsRow_lit (base := wa.heap.size) (e := 30) (size := 2) wa #[] 0 (Nat.le_refl _) (Nat.zero_le _) rfl) (some ⟨b1, of1, none⟩) i c1 ps rfl HPL.out.symm (TW.out.go (G1.out.alloc _)) (by unfold maxLen; omega) (by omega) (by simp <;> omega) ?_; intro v2 wb hown2 hgrow hat; clear hat; rw [List.nil_append, Nat.zero_add] at hown2; have G2 := Lib.hid (Bl.grownBy ((Bl.refl wa).alloc _) hgrow (own_block_ge (World.ownsRow_lit (base := wa.heap.size) (e := 30) (size := 2) wa #[] 0 (Nat.le_refl _) (Nat.zero_le _) rfl))); obtain ⟨-, A6, c6, rfl, -⟩ := Tr.of_own hown2; have OW6 := Lib.hid hown2; have hsz6 : wa.heap.size ≤ wb.heap.size := G2.out.size; clear hown2 hgrow)
          | (at_builtin; refine wpList_app _ rfl _ _ _ rfl wa.heap.size 30 i0 _ 16 Try.underlying39 HI.out.1 HI.out.2.1 HI.out.2.2.1 HI.out.2.2.2 rfl (.slice A6 i c6) i (flat ps) rfl OW6.out A k cap (xs.take k) rfl HK2.out (TK.out.go (G1.out.trans G2.out)) (by unfold maxLen; omega) (by omega) hsz6 ?_; intro v3 wc hown3 hgrow hat; clear hat; rw [← flat_append] at hown3; have G3 := Lib.hid (Bl.grownBy G2.out hgrow (own_block_ge OW6.out)); obtain ⟨-, A8, c8, rfl, -, -, hT8, -⟩ := Tr.of_own hown3; have T8 := Lib.hid hT8; clear hown3 hgrow hT8 OW6 hsz6))
        have GC := Lib.hid (G1.out.trans G3.out)
        have HEL := Lib.hid (four_lists (w := wc) A k cap (some ⟨b1, of1, none⟩) i c1 A5 (1 + i) c5 A8 (i + k) c8 (xs.take k) ps ((bu, bR) :: ps) (ps ++ xs.take k) HK2.out HPL.out.symm (by rw [List.length_cons, HPL.out]; omega) (by rw [List.length_append, HPL.out, ← HK2.out]) (TK.out.go GC.out) (TW.out.go GC.out) (T5.out.go G3.out) T8.out (by omega) (by omega) (by omega) (by omega))
        have BWC := Lib.hid (BWQ.out.trans GC.out)
        have SOC := Lib.hid (SOQ.out.go GC.out)
        have SFC := Lib.hid (SQ.out.go GC.out)
        have h7 : a < wq.heap.size := cell_lt HCQ.out.1
        have HS := Lib.hid (And.intro h7 (And.intro ((GC.out.cell (p := ⟨a, 0, none⟩) h7).trans HCQ.out.1) ((GC.out.cell (p := ⟨a, 1, none⟩) h7).trans HCQ.out.2.1)))
        have HSZ := Lib.hid GC.out.size
        clear kb0 kb1 h7 HCQ SOQ SQ BWQ GC G1 G2 G3 T5 T8 TK TW HPL HK2 HI
        go_loopw [82] (fun iv wx => ∃ m : Nat, m ≤ 4 ∧ iv = .int .i64 m ∧ Hid (Bl wc wx)) (fun iv _ => 4 - (intOf iv).toNat)
        case atStart => exact ⟨0, by omega, rfl, Bl.refl _⟩
        case round =>
          obtain ⟨m, hm, rfl, hx⟩ := hrel
          by_cases hlm : m < 4
          · obtain ⟨zs, A9, c9, hT9, hl9, hrun⟩ := HEL.out m hlm
            have T9 := Lib.hid (hT9.go hx.out)
            clear hT9
            have hlmI : (m : Int) < 4 := by omega
            have s0 := (hx.out.cell (p := ⟨a, 0, none⟩) (Nat.lt_of_lt_of_le HS.out.1 HSZ.out)).trans HS.out.2.1
            have s1 := (hx.out.cell (p := ⟨a, 1, none⟩) (Nat.lt_of_lt_of_le HS.out.1 HSZ.out)).trans HS.out.2.2
            have o0' := (SOC.out.go hx.out).c0
            have o1' := (SOC.out.go hx.out).c1
            have f0' := (SFC.out.go hx.out).c0
            have f1' := (SFC.out.go hx.out).c1
            go_wp2_with fail
            clear s0 s1 o0' o1' f0' f1' hrun
            obtain ⟨wo, rfl⟩ : ∃ wo : World, wo = wr := ⟨_, rfl⟩
            go_loopw [89] (fun jv wj => ∃ j : Nat, j ≤ 3 ∧ jv = .int .i64 j ∧ Hid (Bl wo wj)) (fun jv _ => 3 - (intOf jv).toNat)
            case atStart => exact ⟨0, by omega, rfl, Bl.refl _⟩
            case round =>
              obtain ⟨j, hj, rfl, hwj⟩ := hrel
              by_cases hlj : j < 3
              · obtain ⟨p, q, hrun⟩ := three_services sr sl' o0 o1 r0 o1 j hlj
                have KD := Lib.hid (fun W (h : Tr W A9 zs) => delay_any zs A9 c9 p q W (by omega) h)
                have KR := Lib.hid (fun W (h : Tr W A9 zs) => rdelay_any zs A9 c9 p q W (by omega) h)
                generalize deV zs p q = D at *
                generalize flE zs p q = E at *
                have hljI : (j : Int) < 3 := by omega
                have T10 := Lib.hid (T9.out.go hwj.out)
                go_wp2_with fail
                refine (KD.out _ (T10.out.go ((Bl.refl _).alloc _))).mono ?_
                rintro e w3 ⟨rfl, gr⟩
                have SX3 := Lib.hid (Sl.newP gr)
                have G3 := Lib.hid (Bl.trans ((Bl.refl wr).alloc _) gr)
                have T11 := Lib.hid (T10.out.go G3.out)
                clear gr hrun
                generalize wr.heap.size = xb at *
                have cX0 := SX3.out.c0
                have cX1 := SX3.out.c1
                go_wp2_with fail
                refine (KR.out _ T11.out).mono ?_
                rintro e w4 ⟨rfl, gr⟩
                have B4 := Lib.hid (hwj.out.trans (G3.out.trans gr))
                clear gr cX0 cX1
                go_wp2_with fail
                go_roundw
                case rel => exact ⟨j + 1, by omega, by go_num, B4⟩
                case measure => simp [intOf]; omega
              · obtain rfl : j = 3 := by omega
                go_wp2_with fail
                go_roundw
                case rel => exact ⟨m + 1, by omega, by go_num, Lib.hid (hx.out.trans hwj.out)⟩
                case measure => simp [intOf]; omega
          · obtain rfl : m = 4 := by omega
            go_wp2_with fail
            refine (KW.out _).mono ?_; rintro e w9 ⟨rfl, gr⟩
            have B9 := Lib.hid (BWC.out.trans (hx.out.trans gr))
            clear gr
            go_wp2_with fail
            go_ret
            exact ⟨rfl, B9.out⟩
    · have hltI : ¬ (i : Int) < (dn : Int) := by omega
      by_cases hz : 0 < i
      · have hpI : (0 : Int) < (i : Int) := by omega
        have o0' := (SO.out.go hw.out).c0
        have o1' := (SO.out.go hw.out).c1
        have ol := (SO.out.go hw.out).lt
        have SF := Lib.hid (Sl.new wr o0 o1 54)
        have GF := Lib.hid ((Bl.refl wr).alloc (.cells #[.int .i64 o0, .int .i64 o1] 54))
        have TA := Lib.hid (show Tr wr A1 ps from by obtain ⟨_, A', c', e', _, _, hT, _⟩ := Tr.of_own hOW.out.2; cases e'; exact hT)
        have HPL := Lib.hid hOW.out.1
        clear hOW
        go_upto_region 10 with fail
        clear o0' o1' ol
        generalize (wr.alloc (.cells #[.int .i64 o0, .int .i64 o1] 54)) = wf at *
        obtain ⟨fb, hfb⟩ : ∃ fb, wr.heap.size = fb := ⟨_, rfl⟩
        have HFB := Lib.hid (show wr.heap.size ≤ fb by omega)
        rw [hfb] at SF ⊢
        clear hfb
        have TF := Lib.hid (TA.out.go GF.out)
        obtain ⟨b1, of1, rfl, lt1, _, dR⟩ := TF.out 0 (by rw [HPL.out]; omega)
        rw [Nat.zero_mul, Nat.add_zero] at dR
        obtain ⟨q0, hq0⟩ : ∃ v, sn ps 0 = v := ⟨_, rfl⟩
        rw [hq0] at dR
        clear hq0 TF
        have et1 : n1.tmod 3 = n1 % 3 := Int.tmod_eq_emod_of_nonneg h2
        have hw3 : IntKind.i64.wrap (n1 % 3) = n1 % 3 := IntWalk.i64_in _ (by omega)
        obtain ⟨_, _, _, kn1, _, _⟩ := HC.out wf (BX.out.trans (hw.out.trans GF.out))
        have f0 := SF.out.c0
        have f1 := SF.out.c1
        have ff := SF.out.f0
        have fl := SF.out.lt
        go_wp2_with fail
        go_region
        generalize (if wrap64 (q0 + n1 % 3) < 2097152 then wrap64 (q0 + n1 % 3) else 2097152) = r0 at *
        have SQ := Lib.hid (SF.out.put0 r0)
        have GQ := Lib.hid ((GF.out.setCell (p := ⟨fb, 0, none⟩) HFB.out (.int .i64 r0)).drew)
        clear et1 hw3 kn1 f0 f1 ff fl dR lt1 SF GF HFB
        generalize ((wf.setCell ⟨fb, 0, none⟩ (.int .i64 r0)).drew) = wq at *
        have TW := Lib.hid (TA.out.go GQ.out)
        have BQ := Lib.hid (hw.out.trans GQ.out)
        have SOQ := Lib.hid (SO.out.go BQ.out)
        have HCQ := Lib.hid (HC.out wq (BX.out.trans BQ.out))
        have BWQ := Lib.hid (HB.out.trans (BX.out.trans BQ.out))
        have TK := Lib.hid (HTK.out.1.go BWQ.out)
        have HK2 := Lib.hid HTK.out.2
        clear TA GQ HC SO hw BQ BX HB HTK HDS
        obtain ⟨_, _, _, _, kb0, kb1⟩ := HCQ.out
        go_wp2_with (first
          | (at_builtin; refine wpList_app _ rfl _ _ _ rfl wq.heap.size 30 i0 _ 16 Try.underlying39 HI.out.1 HI.out.2.1 HI.out.2.2.1 HI.out.2.2.2 rfl (.slice (some ⟨wq.heap.size, 0, none⟩) 1 1) 1 [.int .i64 bu, .int .i64 bR] rfl (lit_one wq _ bu bR) (some ⟨b1, of1, none⟩) i c1 ps rfl HPL.out.symm (TW.out.go ((Bl.refl wq).alloc _)) (by unfold maxLen; omega) (by omega) (by simp <;> omega) ?_; intro v1 wa hown1 hgrow hat; clear hat; have G1 := Lib.hid (Bl.grownBy ((Bl.refl wq).alloc _) hgrow (own_block_ge (lit_one wq 30 bu bR))); obtain ⟨-, A5, c5, rfl, -, -, hT5, -⟩ := Tr.of_own (ps := (bu, bR) :: ps) hown1; have T5 := Lib.hid hT5; clear hown1 hgrow hT5)
          | (at_builtin; refine wpList_app _ rfl _ _ _ rfl wa.heap.size 30 i0 _ 16 Try.underlying39 HI.out.1 HI.out.2.1 HI.out.2.2.1 HI.out.2.2.2 rfl (.slice (some ⟨wa.heap.size, 0, none⟩) 0 0) 0 [] rfl (World.ownsRow_lit (base := wa.heap.size) (e := 30) (size := 2) wa #[] 0 (Nat.le_refl _) (Nat.zero_le _) rfl) (some ⟨b1, of1, none⟩) i c1 ps rfl HPL.out.symm (TW.out.go (G1.out.alloc _)) (by unfold maxLen; omega) (by omega) (by simp <;> omega) ?_; intro v2 wb hown2 hgrow hat; clear hat; rw [List.nil_append, Nat.zero_add] at hown2; have G2 := Lib.hid (Bl.grownBy ((Bl.refl wa).alloc _) hgrow (own_block_ge (World.ownsRow_lit (base := wa.heap.size) (e := 30) (size := 2) wa #[] 0 (Nat.le_refl _) (Nat.zero_le _) rfl))); obtain ⟨-, A6, c6, rfl, -⟩ := Tr.of_own hown2; have OW6 := Lib.hid hown2; have hsz6 : wa.heap.size ≤ wb.heap.size := G2.out.size; clear hown2 hgrow)
          | (at_builtin; refine wpList_app _ rfl _ _ _ rfl wa.heap.size 30 i0 _ 16 Try.underlying39 HI.out.1 HI.out.2.1 HI.out.2.2.1 HI.out.2.2.2 rfl (.slice A6 i c6) i (flat ps) rfl OW6.out A k cap (xs.take k) rfl HK2.out (TK.out.go (G1.out.trans G2.out)) (by unfold maxLen; omega) (by omega) hsz6 ?_; intro v3 wc hown3 hgrow hat; clear hat; rw [← flat_append] at hown3; have G3 := Lib.hid (Bl.grownBy G2.out hgrow (own_block_ge OW6.out)); obtain ⟨-, A8, c8, rfl, -, -, hT8, -⟩ := Tr.of_own hown3; have T8 := Lib.hid hT8; clear hown3 hgrow hT8 OW6 hsz6))
        have GC := Lib.hid (G1.out.trans G3.out)
        have HEL := Lib.hid (four_lists (w := wc) A k cap (some ⟨b1, of1, none⟩) i c1 A5 (1 + i) c5 A8 (i + k) c8 (xs.take k) ps ((bu, bR) :: ps) (ps ++ xs.take k) HK2.out HPL.out.symm (by rw [List.length_cons, HPL.out]; omega) (by rw [List.length_append, HPL.out, ← HK2.out]) (TK.out.go GC.out) (TW.out.go GC.out) (T5.out.go G3.out) T8.out (by omega) (by omega) (by omega) (by omega))
        have BWC := Lib.hid (BWQ.out.trans GC.out)
        have SOC := Lib.hid (SOQ.out.go GC.out)
        have SFC := Lib.hid (SQ.out.go GC.out)
        have h7 : a < wq.heap.size := cell_lt HCQ.out.1
        have HS := Lib.hid (And.intro h7 (And.intro ((GC.out.cell (p := ⟨a, 0, none⟩) h7).trans HCQ.out.1) ((GC.out.cell (p := ⟨a, 1, none⟩) h7).trans HCQ.out.2.1)))
        have HSZ := Lib.hid GC.out.size
        clear kb0 kb1 h7 HCQ SOQ SQ BWQ GC G1 G2 G3 T5 T8 TK TW HPL HK2 HI
        go_loopw [82] (fun iv wx => ∃ m : Nat, m ≤ 4 ∧ iv = .int .i64 m ∧ Hid (Bl wc wx)) (fun iv _ => 4 - (intOf iv).toNat)
        case atStart => exact ⟨0, by omega, rfl, Bl.refl _⟩
        case round =>
          obtain ⟨m, hm, rfl, hx⟩ := hrel
          by_cases hlm : m < 4
          · obtain ⟨zs, A9, c9, hT9, hl9, hrun⟩ := HEL.out m hlm
            have T9 := Lib.hid (hT9.go hx.out)
            clear hT9
            have hlmI : (m : Int) < 4 := by omega
            have s0 := (hx.out.cell (p := ⟨a, 0, none⟩) (Nat.lt_of_lt_of_le HS.out.1 HSZ.out)).trans HS.out.2.1
            have s1 := (hx.out.cell (p := ⟨a, 1, none⟩) (Nat.lt_of_lt_of_le HS.out.1 HSZ.out)).trans HS.out.2.2
            have o0' := (SOC.out.go hx.out).c0
            have o1' := (SOC.out.go hx.out).c1
            have f0' := (SFC.out.go hx.out).c0
            have f1' := (SFC.out.go hx.out).c1
            go_wp2_with fail
            clear s0 s1 o0' o1' f0' f1' hrun
            obtain ⟨wo, rfl⟩ : ∃ wo : World, wo = wr := ⟨_, rfl⟩
            go_loopw [89] (fun jv wj => ∃ j : Nat, j ≤ 3 ∧ jv = .int .i64 j ∧ Hid (Bl wo wj)) (fun jv _ => 3 - (intOf jv).toNat)
            case atStart => exact ⟨0, by omega, rfl, Bl.refl _⟩
            case round =>
              obtain ⟨j, hj, rfl, hwj⟩ := hrel
              by_cases hlj : j < 3
              · obtain ⟨p, q, hrun⟩ := three_services sr sl' o0 o1 r0 o1 j hlj
                have KD := Lib.hid (fun W (h : Tr W A9 zs) => delay_any zs A9 c9 p q W (by omega) h)
                have KR := Lib.hid (fun W (h : Tr W A9 zs) => rdelay_any zs A9 c9 p q W (by omega) h)
                generalize deV zs p q = D at *
                generalize flE zs p q = E at *
                have hljI : (j : Int) < 3 := by omega
                have T10 := Lib.hid (T9.out.go hwj.out)
                go_wp2_with fail
                refine (KD.out _ (T10.out.go ((Bl.refl _).alloc _))).mono ?_
                rintro e w3 ⟨rfl, gr⟩
                have SX3 := Lib.hid (Sl.newP gr)
                have G3 := Lib.hid (Bl.trans ((Bl.refl wr).alloc _) gr)
                have T11 := Lib.hid (T10.out.go G3.out)
                clear gr hrun
                generalize wr.heap.size = xb at *
                have cX0 := SX3.out.c0
                have cX1 := SX3.out.c1
                go_wp2_with fail
                refine (KR.out _ T11.out).mono ?_
                rintro e w4 ⟨rfl, gr⟩
                have B4 := Lib.hid (hwj.out.trans (G3.out.trans gr))
                clear gr cX0 cX1
                go_wp2_with fail
                go_roundw
                case rel => exact ⟨j + 1, by omega, by go_num, B4⟩
                case measure => simp [intOf]; omega
              · obtain rfl : j = 3 := by omega
                go_wp2_with fail
                go_roundw
                case rel => exact ⟨m + 1, by omega, by go_num, Lib.hid (hx.out.trans hwj.out)⟩
                case measure => simp [intOf]; omega
          · obtain rfl : m = 4 := by omega
            go_wp2_with fail
            refine (KW.out _).mono ?_; rintro e w9 ⟨rfl, gr⟩
            have B9 := Lib.hid (BWC.out.trans (hx.out.trans gr))
            clear gr
            go_wp2_with fail
            go_ret
            exact ⟨rfl, B9.out⟩
      · have hpI : ¬ (0 : Int) < (i : Int) := by omega
        have o0' := (SO.out.go hw.out).c0
        have o1' := (SO.out.go hw.out).c1
        have ol := (SO.out.go hw.out).lt
        have SF := Lib.hid (Sl.new wr o0 o1 54)
        have GF := Lib.hid ((Bl.refl wr).alloc (.cells #[.int .i64 o0, .int .i64 o1] 54))
        have TA := Lib.hid (show Tr wr A1 ps from by obtain ⟨_, A', c', e', _, _, hT, _⟩ := Tr.of_own hOW.out.2; cases e'; exact hT)
        have HPL := Lib.hid hOW.out.1
        clear hOW
        go_upto_region 11 with fail
        clear o0' o1' ol
        have SQ := SF
        have GQ := GF
        generalize (wr.alloc (.cells #[.int .i64 o0, .int .i64 o1] 54)) = wq at *
        generalize wr.heap.size = fb at *
        clear SF GF
        have TW := Lib.hid (TA.out.go GQ.out)
        have BQ := Lib.hid (hw.out.trans GQ.out)
        have SOQ := Lib.hid (SO.out.go BQ.out)
        have HCQ := Lib.hid (HC.out wq (BX.out.trans BQ.out))
        have BWQ := Lib.hid (HB.out.trans (BX.out.trans BQ.out))
        have TK := Lib.hid (HTK.out.1.go BWQ.out)
        have HK2 := Lib.hid HTK.out.2
        clear TA GQ HC SO hw BQ BX HB HTK HDS
        obtain ⟨_, _, _, _, kb0, kb1⟩ := HCQ.out
        go_wp2_with (first
          | (at_builtin; refine wpList_app _ rfl _ _ _ rfl wq.heap.size 30 i0 _ 16 Try.underlying39 HI.out.1 HI.out.2.1 HI.out.2.2.1 HI.out.2.2.2 rfl (.slice (some ⟨wq.heap.size, 0, none⟩) 1 1) 1 [.int .i64 bu, .int .i64 bR] rfl (lit_one wq _ bu bR) A1 i c1 ps rfl HPL.out.symm (TW.out.go ((Bl.refl wq).alloc _)) (by unfold maxLen; omega) (by omega) (by simp <;> omega) ?_; intro v1 wa hown1 hgrow hat; clear hat; have G1 := Lib.hid (Bl.grownBy ((Bl.refl wq).alloc _) hgrow (own_block_ge (lit_one wq 30 bu bR))); obtain ⟨-, A5, c5, rfl, -, -, hT5, -⟩ := Tr.of_own (ps := (bu, bR) :: ps) hown1; have T5 := Lib.hid hT5; clear hown1 hgrow hT5)
          | (at_builtin; refine wpList_app _ rfl _ _ _ rfl wa.heap.size 30 i0 _ 16 Try.underlying39 HI.out.1 HI.out.2.1 HI.out.2.2.1 HI.out.2.2.2 rfl (.slice (some ⟨wa.heap.size, 0, none⟩) 0 0) 0 [] rfl (World.ownsRow_lit (base := wa.heap.size) (e := 30) (size := 2) wa #[] 0 (Nat.le_refl _) (Nat.zero_le _) rfl) A1 i c1 ps rfl HPL.out.symm (TW.out.go (G1.out.alloc _)) (by unfold maxLen; omega) (by omega) (by simp <;> omega) ?_; intro v2 wb hown2 hgrow hat; clear hat; rw [List.nil_append, Nat.zero_add] at hown2; have G2 := Lib.hid (Bl.grownBy ((Bl.refl wa).alloc _) hgrow (own_block_ge (World.ownsRow_lit (base := wa.heap.size) (e := 30) (size := 2) wa #[] 0 (Nat.le_refl _) (Nat.zero_le _) rfl))); obtain ⟨-, A6, c6, rfl, -⟩ := Tr.of_own hown2; have OW6 := Lib.hid hown2; have hsz6 : wa.heap.size ≤ wb.heap.size := G2.out.size; clear hown2 hgrow)
          | (at_builtin; refine wpList_app _ rfl _ _ _ rfl wa.heap.size 30 i0 _ 16 Try.underlying39 HI.out.1 HI.out.2.1 HI.out.2.2.1 HI.out.2.2.2 rfl (.slice A6 i c6) i (flat ps) rfl OW6.out A k cap (xs.take k) rfl HK2.out (TK.out.go (G1.out.trans G2.out)) (by unfold maxLen; omega) (by omega) hsz6 ?_; intro v3 wc hown3 hgrow hat; clear hat; rw [← flat_append] at hown3; have G3 := Lib.hid (Bl.grownBy G2.out hgrow (own_block_ge OW6.out)); obtain ⟨-, A8, c8, rfl, -, -, hT8, -⟩ := Tr.of_own hown3; have T8 := Lib.hid hT8; clear hown3 hgrow hT8 OW6 hsz6))
        have GC := Lib.hid (G1.out.trans G3.out)
        have HEL := Lib.hid (four_lists (w := wc) A k cap A1 i c1 A5 (1 + i) c5 A8 (i + k) c8 (xs.take k) ps ((bu, bR) :: ps) (ps ++ xs.take k) HK2.out HPL.out.symm (by rw [List.length_cons, HPL.out]; omega) (by rw [List.length_append, HPL.out, ← HK2.out]) (TK.out.go GC.out) (TW.out.go GC.out) (T5.out.go G3.out) T8.out (by omega) (by omega) (by omega) (by omega))
        have BWC := Lib.hid (BWQ.out.trans GC.out)
        have SOC := Lib.hid (SOQ.out.go GC.out)
        have SFC := Lib.hid (SQ.out.go GC.out)
        have h7 : a < wq.heap.size := cell_lt HCQ.out.1
        have HS := Lib.hid (And.intro h7 (And.intro ((GC.out.cell (p := ⟨a, 0, none⟩) h7).trans HCQ.out.1) ((GC.out.cell (p := ⟨a, 1, none⟩) h7).trans HCQ.out.2.1)))
        have HSZ := Lib.hid GC.out.size
        clear kb0 kb1 h7 HCQ SOQ SQ BWQ GC G1 G2 G3 T5 T8 TK TW HPL HK2 HI
        go_loopw [82] (fun iv wx => ∃ m : Nat, m ≤ 4 ∧ iv = .int .i64 m ∧ Hid (Bl wc wx)) (fun iv _ => 4 - (intOf iv).toNat)
        case atStart => exact ⟨0, by omega, rfl, Bl.refl _⟩
        case round =>
          obtain ⟨m, hm, rfl, hx⟩ := hrel
          by_cases hlm : m < 4
          · obtain ⟨zs, A9, c9, hT9, hl9, hrun⟩ := HEL.out m hlm
            have T9 := Lib.hid (hT9.go hx.out)
            clear hT9
            have hlmI : (m : Int) < 4 := by omega
            have s0 := (hx.out.cell (p := ⟨a, 0, none⟩) (Nat.lt_of_lt_of_le HS.out.1 HSZ.out)).trans HS.out.2.1
            have s1 := (hx.out.cell (p := ⟨a, 1, none⟩) (Nat.lt_of_lt_of_le HS.out.1 HSZ.out)).trans HS.out.2.2
            have o0' := (SOC.out.go hx.out).c0
            have o1' := (SOC.out.go hx.out).c1
            have f0' := (SFC.out.go hx.out).c0
            have f1' := (SFC.out.go hx.out).c1
            go_wp2_with fail
            clear s0 s1 o0' o1' f0' f1' hrun
            obtain ⟨wo, rfl⟩ : ∃ wo : World, wo = wr := ⟨_, rfl⟩
            go_loopw [89] (fun jv wj => ∃ j : Nat, j ≤ 3 ∧ jv = .int .i64 j ∧ Hid (Bl wo wj)) (fun jv _ => 3 - (intOf jv).toNat)
            case atStart => exact ⟨0, by omega, rfl, Bl.refl _⟩
            case round =>
              obtain ⟨j, hj, rfl, hwj⟩ := hrel
              by_cases hlj : j < 3
              · obtain ⟨p, q, hrun⟩ := three_services sr sl' o0 o1 o0 o1 j hlj
                have KD := Lib.hid (fun W (h : Tr W A9 zs) => delay_any zs A9 c9 p q W (by omega) h)
                have KR := Lib.hid (fun W (h : Tr W A9 zs) => rdelay_any zs A9 c9 p q W (by omega) h)
                generalize deV zs p q = D at *
                generalize flE zs p q = E at *
                have hljI : (j : Int) < 3 := by omega
                have T10 := Lib.hid (T9.out.go hwj.out)
                go_wp2_with fail
                refine (KD.out _ (T10.out.go ((Bl.refl _).alloc _))).mono ?_
                rintro e w3 ⟨rfl, gr⟩
                have SX3 := Lib.hid (Sl.newP gr)
                have G3 := Lib.hid (Bl.trans ((Bl.refl wr).alloc _) gr)
                have T11 := Lib.hid (T10.out.go G3.out)
                clear gr hrun
                generalize wr.heap.size = xb at *
                have cX0 := SX3.out.c0
                have cX1 := SX3.out.c1
                go_wp2_with fail
                refine (KR.out _ T11.out).mono ?_
                rintro e w4 ⟨rfl, gr⟩
                have B4 := Lib.hid (hwj.out.trans (G3.out.trans gr))
                clear gr cX0 cX1
                go_wp2_with fail
                go_roundw
                case rel => exact ⟨j + 1, by omega, by go_num, B4⟩
                case measure => simp [intOf]; omega
              · obtain rfl : j = 3 := by omega
                go_wp2_with fail
                go_roundw
                case rel => exact ⟨m + 1, by omega, by go_num, Lib.hid (hx.out.trans hwj.out)⟩
                case measure => simp [intOf]; omega
          · obtain rfl : m = 4 := by omega
            go_wp2_with fail
            refine (KW.out _).mono ?_; rintro e w9 ⟨rfl, gr⟩
            have B9 := Lib.hid (BWC.out.trans (hx.out.trans gr))
            clear gr
            go_wp2_with fail
            go_ret
            exact ⟨rfl, B9.out⟩

end Go.Proofs.Ytgbbglnbolihfaa
