/-
  BucketConforms: Conforms and First return what the chapter specifies.
-/
import Derived.Test.YtlpbmhiipiaiaaaBw
import Derived.Test.YtlpbmhiipiaiaaaBx
import Derived.Test.YtlpbmhiipiaiaaaBr
import Derived.Test.YtlpbmhiipiaiaaaBt
namespace Go.Proofs.Ytlpbmhiipiaiaaa
open Go.ChangeShapes Go.WideShapes Go.ChangeAt Go.WideMaps Go.WideElems Go.RowKit

theorem rfirst_v {u R v E : Int} {xs : List (Int × Int)} (h : fiV u R xs = (v, E)) (A : Option Addr) (cap : Nat) (w : World) (hl : (xs.length : Int) ≤ 9223372036854775807) (hcap : xs.length ≤ cap) (hT : Tr w A xs) :
    Calls Try.prog 26 #[.agg #[.int .i64 u, .int .i64 R], .slice A xs.length cap] w fun e w' => e = .returned (.tuple #[.int .i64 v, .int .i64 E]) ∧ Bl w w' := by
  have := rfirst_any u R xs A cap w hl hcap hT; rw [h] at this; exact this
theorem Tr.goSet {w w' : World} {A : Option Addr} {xs : List (Int × Int)} (h : Tr w A xs) (g : Bl w w') {a : Nat} (ha : w.heap.size ≤ a) (u v : Value) : Tr ((w'.setCell ⟨a, 0, none⟩ u).setCell ⟨a, 1, none⟩ v) A xs := fun k hk => by
  obtain ⟨b, off, h1, h2, h3, h4⟩ := h k hk
  have hn : a ≠ b := by omega
  have hs : b < w'.heap.size := Nat.lt_of_lt_of_le h2 g.size
  exact ⟨b, off, h1, by simpa [World.setCell] using hs, by rw [World.cell?_setCell_far _ _ _ _ hn, World.cell?_setCell_far _ _ _ _ hn]; exact (g.cell (p := ⟨b, _, none⟩) h2).trans h3, by rw [World.cell?_setCell_far _ _ _ _ hn, World.cell?_setCell_far _ _ _ _ hn]; exact (g.cell (p := ⟨b, _, none⟩) h2).trans h4⟩
theorem Tr.newSet {w w' : World} {A : Option Addr} {xs : List (Int × Int)} {m : Nat} (h : Tr w A xs) (g : Bl w w') {a : Nat} (hf : ∀ b off, A = some ⟨b, off, none⟩ → m ≤ b) (ha : a < m) (u v : Value) : Tr ((w'.setCell ⟨a, 0, none⟩ u).setCell ⟨a, 1, none⟩ v) A xs :=
  ((h.go g).setCell 0 u (fun b off e => by have := hf b off e; omega)).setCell 1 v (fun b off e => by have := hf b off e; omega)
/-- What 'own, trace, fit := d.Bucket(), d.Trace(), d.Conforming()' leaves. -/
def Made3 (W : World) (u R : Int) (ps qs : List (Int × Int)) (s11 s12 s13 : Value) (wx : World) : Prop :=
  ∃ b A c A' c', s11 = .pointer (some ⟨b, 0, none⟩) ∧ s12 = .slice A ps.length c ∧ s13 = .slice A' qs.length c' ∧ ps.length ≤ c ∧ qs.length ≤ c' ∧ Sl b u R wx ∧ Tr wx A ps ∧ Tr wx A' qs ∧ Bl W wx
theorem four_buckets (a b c d e f g h : Int) (k : Nat) (hk : k < 4) : ∃ p q : Int, ∀ w, (Instr.index 48 (.agg #[.int .i64 a, .int .i64 b, .int .i64 c, .int .i64 d, .int .i64 e, .int .i64 f, .int .i64 g, .int .i64 h]) (.int .i64 k)).run Try.prog w = .ok (.agg #[.int .i64 p, .int .i64 q]) w := by
  match k, hk with
  | 0, _ => exact ⟨a, b, fun _ => by kernel_rfl⟩
  | 1, _ => exact ⟨c, d, fun _ => by kernel_rfl⟩
  | 2, _ => exact ⟨e, f, fun _ => by kernel_rfl⟩
  | 3, _ => exact ⟨g, h, fun _ => by kernel_rfl⟩
theorem four_slices {w : World} (A0 : Option Addr) (m0 c0 : Nat) (A1 : Option Addr) (c1 : Nat) (A2 : Option Addr) (c2 : Nat) (A3 : Option Addr) (c3 : Nat) (xs ys zs us : List (Int × Int)) (hm : m0 = xs.length) (h0 : Tr w A0 xs) (h1 : Tr w A1 ys) (h2 : Tr w A2 zs) (h3 : Tr w A3 us) (l0 : xs.length ≤ 1000) (l1 : ys.length ≤ 1000) (l2 : zs.length ≤ 1000) (l3 : us.length ≤ 1000)
    (q0 : xs.length ≤ c0) (q1 : ys.length ≤ c1) (q2 : zs.length ≤ c2) (q3 : us.length ≤ c3) (k : Nat) (hk : k < 4) :
    ∃ vs A c, Tr w A vs ∧ vs.length ≤ 1000 ∧ vs.length ≤ c ∧ ∀ w, (Instr.index 49 (.agg #[.slice A0 m0 c0, .slice A1 ys.length c1, .slice A2 zs.length c2, .slice A3 us.length c3]) (.int .i64 k)).run Try.prog w = .ok (.slice A (List.length vs) c) w := by
  subst hm
  match k, hk with
  | 0, _ => exact ⟨xs, A0, c0, h0, l0, q0, fun _ => by kernel_rfl⟩
  | 1, _ => exact ⟨ys, A1, c1, h1, l1, q1, fun _ => by kernel_rfl⟩
  | 2, _ => exact ⟨zs, A2, c2, h2, l2, q2, fun _ => by kernel_rfl⟩
  | 3, _ => exact ⟨us, A3, c3, h3, l3, q3, fun _ => by kernel_rfl⟩

set_option maxRecDepth 100000 in
set_option maxHeartbeats 8000000 in
theorem conforms_law (b0 b1 : Int) (xs : List (Int × Int)) (A : Option Addr) (cap n40 : Nat) (B R : Int) (gA : Option Addr) (gc : Nat) (sA : Option Addr) (sc : Nat) (gs ss : List Int) (x y t : Int) (w : World) (hl : (xs.length : Int) ≤ 9223372036854775807) (hcap : xs.length ≤ cap) (hT : Tr w A xs) (h40 : n40 = min xs.length 40)
    (hB : 0 ≤ B ∧ B ≤ 4294967295) (hR : 0 ≤ R ∧ R ≤ 4294967295) (hg : Us w gA gs) (hs : Us w sA ss) (ug : U16 gs) (us : U16 ss) (sl : (ss.length : Int) ≤ 9223372036854775807) (ht : 0 ≤ t ∧ t ≤ 255) :
    Calls Try.prog 4 #[.agg #[.int .i64 b0, .int .i64 b1], .slice A xs.length cap, drV B R gA gs.length gc sA ss.length sc, .agg #[.int .i64 x, .int .i64 y], .int .u8 t] w fun e w' => e = .returned (.bool true) ∧ Bl w w' := by
  unfold drV
  have HG := Lib.hid hg
  have HS := Lib.hid hs
  have KW := Lib.hid (fun w => works_any w)
  have HT0 := Lib.hid hT
  have H40 := Lib.hid h40
  have e40 : (n40 : Int) ≤ 40 ∧ (n40 : Int) ≤ (xs.length : Int) := by omega
  have m40 : (if (40 : Int) < (xs.length : Int) then (40 : Int) else (xs.length : Int)) = (n40 : Int) := by split <;> omega
  obtain ⟨e401, e402⟩ := e40
  have HTT := Lib.hid ht
  obtain ⟨t0, t1⟩ := ht
  clear hT h40
  go_enter Try.func4, Try.ntmps4
  go_wp2_with fail
  have hd : D4 (w.heap.size + 1) B R (.slice gA gs.length gc) (.slice sA ss.length sc) (((w.alloc (.cells #[.int .i64 b0, .int .i64 b1] 23)).alloc (.cells #[.int .u32 B, .int .u32 R, .slice gA gs.length gc, .slice sA ss.length sc] 27)).alloc (.cells #[.int .i64 x, .int .i64 y] 30)) (((w.alloc (.cells #[.int .i64 b0, .int .i64 b1] 23)).alloc (.cells #[.int .u32 B, .int .u32 R, .slice gA gs.length gc, .slice sA ss.length sc] 27)).alloc (.cells #[.int .i64 x, .int .i64 y] 30)) := ⟨by simp [go_sem], by simp [go_sem], by simp [go_sem], by simp [go_sem], Bl.refl _⟩
  have hb0 : Bl w (((w.alloc (.cells #[.int .i64 b0, .int .i64 b1] 23)).alloc (.cells #[.int .u32 B, .int .u32 R, .slice gA gs.length gc, .slice sA ss.length sc] 27)).alloc (.cells #[.int .i64 x, .int .i64 y] 30)) := (((Bl.refl w).alloc _).alloc _).alloc _
  have hsb : Sl w.heap.size b0 b1 (((w.alloc (.cells #[.int .i64 b0, .int .i64 b1] 23)).alloc (.cells #[.int .u32 B, .int .u32 R, .slice gA gs.length gc, .slice sA ss.length sc] 27)).alloc (.cells #[.int .i64 x, .int .i64 y] 30)) := ((Sl.new w b0 b1 _).go ((Bl.refl _).alloc _)).go ((Bl.refl _).alloc _)
  have hsx : Sl (w.heap.size + 1 + 1) x y (((w.alloc (.cells #[.int .i64 b0, .int .i64 b1] 23)).alloc (.cells #[.int .u32 B, .int .u32 R, .slice gA gs.length gc, .slice sA ss.length sc] 27)).alloc (.cells #[.int .i64 x, .int .i64 y] 30)) := by
    have h := Sl.new ((w.alloc (.cells #[.int .i64 b0, .int .i64 b1] 23)).alloc (.cells #[.int .u32 B, .int .u32 R, .slice gA gs.length gc, .slice sA ss.length sc] 27)) x y 30
    rw [World.size_alloc, World.size_alloc] at h
    exact h
  have k4 : w.heap.size + 1 < (((w.alloc (.cells #[.int .i64 b0, .int .i64 b1] 23)).alloc (.cells #[.int .u32 B, .int .u32 R, .slice gA gs.length gc, .slice sA ss.length sc] 27)).alloc (.cells #[.int .i64 x, .int .i64 y] 30)).heap.size := by simp <;> omega
  have HD := Lib.hid hd
  have HB0 := Lib.hid hb0
  have K4 := Lib.hid k4
  have HSB := Lib.hid hsb
  have HSX := Lib.hid hsx
  clear hd hb0 k4 hsb hsx
  generalize (((w.alloc (.cells #[.int .i64 b0, .int .i64 b1] 23)).alloc (.cells #[.int .u32 B, .int .u32 R, .slice gA gs.length gc, .slice sA ss.length sc] 27)).alloc (.cells #[.int .i64 x, .int .i64 y] 30)) = W at *
  have H1 := Lib.hid (fun w' => (by have := dbucket_any B R gA gs.length gc sA ss.length sc w' hB hR; unfold drV at this; exact this : Calls Try.prog 10 #[.agg #[.int .u32 B, .int .u32 R, .slice gA gs.length gc, .slice sA ss.length sc]] w' fun e w'' => e = .returned (.agg #[.int .i64 (dBu B), .int .i64 (dRa R)]) ∧ Bl w' w''))
  have H2 := Lib.hid (fun (w' : World) (h : Bl W w') => (by have := dtrace_any B R gA gc sA sc gs ss w' (HG.out.go (HB0.out.trans h)) (HS.out.go (HB0.out.trans h)) ug us sl; unfold drV at this; exact this : Calls Try.prog 17 #[.agg #[.int .u32 B, .int .u32 R, .slice gA gs.length gc, .slice sA ss.length sc]] w' (TrRes w' (dTr gs ss))))
  have H3 := Lib.hid (fun (w' : World) (h : Bl W w') => (by have := dconf_any B R gA gc sA sc gs ss w' hB hR (HG.out.go (HB0.out.trans h)) (HS.out.go (HB0.out.trans h)) ug us sl; unfold drV at this; exact this : Calls Try.prog 22 #[.agg #[.int .u32 B, .int .u32 R, .slice gA gs.length gc, .slice sA ss.length sc]] w' (TrRes w' (cnf (dBu B) (dRa R) (dTr gs ss)))))
  have hlen : (dTr gs ss).length ≤ 30 := by unfold dTr; rw [dT_len]; omega
  have hlen2 : (cnf (dBu B) (dRa R) (dTr gs ss)).length ≤ 30 := Nat.le_trans (cnfS_len _ _ _ _) hlen
  have hub : 1 ≤ dBu B ∧ dBu B ≤ 1048576 := by unfold dBu; omega
  clear hg hs ug us sl hB hR
  generalize cnf (dBu B) (dRa R) (dTr gs ss) = ys2 at *
  generalize dTr gs ss = ys at *
  generalize dRa R = dr at *
  generalize dBu B = du at *
  obtain ⟨hu1, hu2⟩ := hub
  have k0 := HD.out.1
  have k1 := HD.out.2.1
  have k2 := HD.out.2.2.1
  have k3 := HD.out.2.2.2.1
  obtain ⟨a0, ha0⟩ : ∃ a, w.heap.size + 1 = a := ⟨_, rfl⟩
  rw [ha0] at HD K4 HSX k0 k1 k2 k3 ⊢
  have HA0 := Lib.hid ha0
  clear ha0
  obtain ⟨aw, haw⟩ : ∃ a, w.heap.size = a := ⟨_, rfl⟩
  rw [haw] at HSB ⊢
  clear haw
  go_upto_region 2 with fail
  go_cut [11, 12, 13] (fun s11 s12 s13 wx => Hid (Made3 W du dr ys ys2 s11 s12 s13 wx))
  case first =>
    go_region_held3 (fun w' => w'.cell? ⟨a0, 0, none⟩ = some (.int .u32 B) ∧ w'.cell? ⟨a0, 1, none⟩ = some (.int .u32 R) ∧ w'.cell? ⟨a0, 2, none⟩ = some (.slice gA gs.length gc) ∧ w'.cell? ⟨a0, 3, none⟩ = some (.slice sA ss.length sc) ∧ Hid (Bl W w')) (first | with_reducible assumption | exact sb.out | exact D4.drew HD.out | (rename _ ∧ _ ∧ _ ∧ _ ∧ Hid (Bl W _) => hq; (first | exact D4.dalloc K4 _ hq | exact D4.alloc K4 _ hq | exact D4.alloc K4 _ sb.out | exact D4.set K4 (Nat.le_refl _) _ _ hq | exact D4.set K4 qz _ _ hq | exact D4.set K4 qz2 _ _ hq)) | fail) (first | (go_at_call 10; rename _ ∧ _ ∧ _ ∧ _ ∧ Hid (Bl W _) => hq; ((with_reducible refine (H1.out _).mono ?_); rintro e wa ⟨rfl, hgra⟩; have sb := Lib.hid (D4.step K4 hq hgra); have qz : W.heap.size ≤ wa.heap.size := sb.out.2.2.2.2.out.size; first | (with_reducible have q := Lib.hid (Sl.newD hgra)) | (have q := True.intro))) | (go_at_call 17; rename _ ∧ _ ∧ _ ∧ _ ∧ Hid (Bl W _) => hq; ((refine (H2.out _ hq.2.2.2.2.out).mono ?_); rintro e wb ⟨A1, ca, rfl, hca, hTa, hgrb, hfa⟩; have sb := Lib.hid (D4.step K4 hq hgrb); have qz2 : W.heap.size ≤ wb.heap.size := sb.out.2.2.2.2.out.size; first | (with_reducible have q2 := Lib.hid (Sl.newP hgrb)) | (with_reducible have q2 := Lib.hid (Sl.go (Hid.out q) hgrb)) | (have q2 := True.intro))) | (go_at_call 22; rename _ ∧ _ ∧ _ ∧ _ ∧ Hid (Bl W _) => hq; ((refine (H3.out _ hq.2.2.2.2.out).mono ?_); rintro e wd ⟨A2, cb, rfl, hcb, hTb, hgrd, hfb⟩; have sb := Lib.hid (D4.step K4 hq hgrd); first | ((with_reducible have q3 := Lib.hid (Sl.newP hgrd)); have p0 := q3.out.c0; have p1 := q3.out.c1; have p2 := q3.out.f0; have p3 := q3.out.f1) | ((with_reducible have q3 := Lib.hid (Sl.go (Hid.out q2) hgrd)); have p0 := q3.out.c0; have p1 := q3.out.c1; have p2 := q3.out.f0; have p3 := q3.out.f1) | (have q3 := True.intro))) | fail)
    all_goals go_wp2_with fail
    all_goals go_meet
    case rel => exact ⟨_, A1, ca, A2, cb, rfl, rfl, rfl, hca, hcb, Sl.new wd _ _ _, (hTa.go hgrd).go ((Bl.refl _).alloc _), hTb.go ((Bl.refl _).alloc _), sb.out.2.2.2.2.out.alloc _⟩
    case rel => exact ⟨_, A1, ca, A2, cb, rfl, rfl, rfl, hca, hcb, (q3.out.set0 _).set1 _, Tr.goSet hTa (((Bl.refl _).alloc _).trans hgrd) (Nat.le_refl _) _ _, Tr.newSet hTb (Bl.refl _) hfb (by simp) _ _, (sb.out.2.2.2.2.out.setCell qz2 _).setCell qz2 _⟩
    case rel => exact ⟨_, A1, ca, A2, cb, rfl, rfl, rfl, hca, hcb, (q3.out.set0 _).set1 _, Tr.newSet hTa hgrd hfa (by simp) _ _, Tr.newSet hTb (Bl.refl _) hfb q2.out.lt _ _, (sb.out.2.2.2.2.out.setCell qz _).setCell qz _⟩
    case rel => exact ⟨_, A1, ca, A2, cb, rfl, rfl, rfl, hca, hcb, (q3.out.set0 _).set1 _, Tr.newSet hTa hgrd hfa q.out.lt _ _, Tr.newSet hTb (Bl.refl _) hfb q2.out.lt _ _, (sb.out.2.2.2.2.out.setCell (Nat.le_refl _) _).setCell (Nat.le_refl _) _⟩
  obtain ⟨b, A1, ca, A2, cb, rfl, rfl, rfl, hca, hcb, hS, hT1, hT2, hB1⟩ := hcut.out
  have SO := Lib.hid hS
  have T1 := Lib.hid hT1
  have T2 := Lib.hid hT2
  have BW := Lib.hid hB1
  have LA := Lib.hid hca
  have LB := Lib.hid hcb
  clear hcut hS hT1 hT2 hB1 hca hcb k0 k1 k2 k3 HG HS HD H1 H2 H3
  have o0 := SO.out.c0
  have o1 := SO.out.c1
  have z0 := SO.out.lt
  have SBc := Lib.hid (HSB.out.go BW.out)
  have u0 := SBc.out.c0
  have u1 := SBc.out.c1
  have z1 := SBc.out.lt
  have SXc := Lib.hid (HSX.out.go BW.out)
  have w0 : IntKind.i64.wrap (du - t) = du - t := IntWalk.i64_in _ (by omega)
  obtain ⟨v, hv⟩ : ∃ v, (if (1 : Int) < du - t then du - t else 1) = v := ⟨_, rfl⟩
  go_wp2_with fail
  go_loopw [55] (fun kv wr => ∃ k : Nat, k ≤ 4 ∧ kv = .int .i64 k ∧ Hid (Bl wc wr)) (fun kv _ => 4 - (intOf kv).toNat)
  case atStart => exact ⟨0, by omega, rfl, (by (repeat (first | exact Bl.refl _ | refine Bl.setCell ?_ (by simp) _ | refine Bl.alloc ?_ _)))⟩
  case round =>
    obtain ⟨k, hk, rfl, hw⟩ := hrel
    clear o0 o1 z0 u0 u1 z1 w0 hv
    by_cases hk4 : k < 4
    · obtain ⟨p, q, hrun⟩ := four_buckets b0 b1 du dr v dr du b1 k hk4
      have SXr := Lib.hid (SXc.out.go hw.out)
      have x0 := SXr.out.c0
      have x1 := SXr.out.c1
      have xz := SXr.out.lt
      go_wp2_with fail
      refine (bent_any ys A1 ca x y t _ (by omega) HTT.out ((T1.out.go hw.out).go ((Bl.refl _).alloc _))).mono ?_
      rintro e we ⟨A3, cc, rfl, hcc, hT3, gr, hf3⟩
      have SP := Lib.hid ((Sl.new wr p q 23).go gr)
      have GE := Lib.hid (((Bl.refl wr).alloc (.cells #[.int .i64 p, .int .i64 q] 23)).trans gr)
      have T3 := Lib.hid hT3
      have LC := Lib.hid hcc
      clear hT3 gr hf3 hcc x0 x1 xz hrun
      have GW := Lib.hid ((HB0.out.trans BW.out).trans (hw.out.trans GE.out))
      have HEL := Lib.hid (four_slices (w := we) A n40 cap A1 ca A2 cb A3 cc (xs.take n40) ys ys2 (bentL ys x y t) (by rw [List.length_take]; have := H40.out; omega) ((HT0.out.take n40).go GW.out) (T1.out.go (hw.out.trans GE.out)) (T2.out.go (hw.out.trans GE.out)) T3.out (by rw [List.length_take]; omega) (by omega) (by omega) (by rw [bentL_len]; omega) (by rw [List.length_take]; omega) LA.out LB.out LC.out)
      generalize wr.heap.size = bq at *
      go_wp2_with fail
      go_loopw [66] (fun kv wr2 => ∃ k2 : Nat, k2 ≤ 4 ∧ kv = .int .i64 k2 ∧ Hid (Sl bq p q wr2) ∧ Hid (Bl we wr2)) (fun kv _ => 4 - (intOf kv).toNat)
      case atStart => exact ⟨0, by omega, rfl, SP.out, Bl.refl _⟩
      case round =>
        obtain ⟨k2, hk2, rfl, hsp, hw2⟩ := hrel
        by_cases hk24 : k2 < 4
        · obtain ⟨zs, A9, c9, hT9, hl9, hc9, hrun2⟩ := HEL.out k2 hk24
          have T9 := Lib.hid (hT9.go hw2.out)
          obtain ⟨⟨cB, cE⟩, hcv⟩ : ∃ r, coV p q zs = r := ⟨_, rfl⟩
          obtain ⟨⟨fV, fE⟩, hfv⟩ : ∃ r, fiV p q zs = r := ⟨_, rfl⟩
          have KC := Lib.hid (fun w h => conforms_v hcv A9 c9 w (by omega) h)
          have KRC := Lib.hid (fun w h => rconforms_v hcv A9 c9 w (by omega) h)
          have KF := Lib.hid (fun w h => first_v hfv A9 c9 w (by omega) h)
          have KRF := Lib.hid (fun w h => rfirst_v hfv A9 c9 w (by omega) hc9 h)
          clear hT9 hcv hfv hc9
          have s0 := hsp.out.c0
          have s1 := hsp.out.c1
          go_wp2_with fail
          refine (KC.out _ T9.out).mono ?_; rintro e v1 ⟨rfl, gr⟩
          have G1 := Lib.hid gr
          have Q1 := Lib.hid (hsp.out.go gr)
          clear gr s0 s1
          have s0 := Q1.out.c0
          have s1 := Q1.out.c1
          go_wp2_with fail
          refine (KRC.out _ (T9.out.go G1.out)).mono ?_; rintro e v2 ⟨rfl, gr⟩
          have G2 := Lib.hid (G1.out.trans gr)
          have Q2 := Lib.hid (Q1.out.go gr)
          clear gr s0 s1
          have s0 := Q2.out.c0
          have s1 := Q2.out.c1
          go_wp2_with fail
          refine (KF.out _ (T9.out.go G2.out)).mono ?_; rintro e v3 ⟨rfl, gr⟩
          have G3 := Lib.hid (G2.out.trans gr)
          have Q3 := Lib.hid (Q2.out.go gr)
          clear gr s0 s1
          have s0 := Q3.out.c0
          have s1 := Q3.out.c1
          go_wp2_with fail
          refine (KRF.out _ (T9.out.go G3.out)).mono ?_; rintro e v4 ⟨rfl, gr⟩
          have G4 := Lib.hid (G3.out.trans gr)
          have Q4 := Lib.hid (Q3.out.go gr)
          clear gr s0 s1
          go_wp2_with fail
          go_roundw
          case rel => exact ⟨k2 + 1, by omega, by go_num, Q4.out, hw2.out.trans G4.out⟩
          case measure => simp [intOf]; omega
        · go_wp2_with fail
          go_roundw
          case rel => exact ⟨k + 1, by omega, by go_num, (hw.out.trans GE.out).trans hw2.out⟩
          case measure => simp [intOf]; omega
    · go_wp2_with fail
      refine (KW.out _).mono ?_; rintro e w9 ⟨rfl, gr⟩
      have G9 := Lib.hid gr
      clear gr
      go_wp2_with fail
      go_ret
      exact ⟨rfl, ((HB0.out.trans BW.out).trans hw.out).trans G9.out⟩

end Go.Proofs.Ytlpbmhiipiaiaaa
