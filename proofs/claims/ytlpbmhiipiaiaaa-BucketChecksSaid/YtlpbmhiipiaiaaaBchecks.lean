/-
  BucketChecks: Check, CheckTrace, Within and Sum return what the chapter specifies.
-/
import Derived.Test.YtlpbmhiipiaiaaaBw
import Derived.Test.YtlpbmhiipiaiaaaBx
import Derived.Test.YtlpbmhiipiaiaaaBr
import Derived.Test.YtlpbmhiipiaiaaaBt
namespace Go.Proofs.Ytlpbmhiipiaiaaa
open Go.ChangeShapes Go.WideShapes Go.ChangeAt Go.WideMaps Go.WideElems Go.RowKit

theorem info_bk : (Try.prog.info? 23).map (fun i => (i.zero, i.size, i.bytes)) = some (some (.agg #[.int .i64 0, .int .i64 0]), 2, 16) := by kernel_rfl
/-- A value of the law's own: 1 + x % M. -/
abbrev mk1 (M x : Int) : Int := IntKind.i64.wrap (1 + IntKind.i64.wrap ((IntKind.u64.wrap x).tmod M))
def many (ls : List (Int × Int)) : List (Int × Int) := ls.map fun p => (mk1 262144 p.1, mk1 524288 p.2)
theorem many_len (ls : List (Int × Int)) : (many ls).length = ls.length := by simp [many]
theorem many_at {ls : List (Int × Int)} {k : Nat} (h : k < ls.length) : fs (many ls) k = mk1 262144 (fs ls k) ∧ sn (many ls) k = mk1 524288 (sn ls k) := by
  unfold fs sn many
  simp [List.getD_eq_getElem?_getD, h]
theorem lit_own (w : World) (e : TypeId) (x y : Int) (o : Obj) : ((w.alloc (.cells #[.int .i64 x, .int .i64 y] e)).alloc o).ownsRow w.heap.size e 2 (.slice (some ⟨w.heap.size, 0, none⟩) 1 1) 1 [.int .i64 x, .int .i64 y] :=
  (World.ownsRow_lit w #[.int .i64 x, .int .i64 y] 1 (Nat.le_refl _) (by unfold maxLen; omega) rfl).alloc o
theorem tr_lit2 (w : World) (o : Obj) (x y : Int) (e : TypeId) : Tr ((w.alloc o).alloc (.cells #[.int .i64 x, .int .i64 y] e)) (some ⟨w.heap.size + 1, 0, none⟩) [(x, y)] := fun k hk => by
  obtain rfl : k = 0 := by simp at hk; omega
  exact ⟨w.heap.size + 1, 0, rfl, by simp, by simp [go_sem, fs], by simp [go_sem, sn]⟩
theorem Two.bl {a : Nat} {u R : Int} {w0 w1 : World} (h : Two a u R w0 w1) : Bl w0 w1 := h.2.2.2
theorem three_buckets (a b c d e f : Int) (k : Nat) (hk : k < 3) : ∃ p q : Int, ∀ w, (Instr.index 37 (.agg #[.int .i64 a, .int .i64 b, .int .i64 c, .int .i64 d, .int .i64 e, .int .i64 f]) (.int .i64 k)).run Try.prog w = .ok (.agg #[.int .i64 p, .int .i64 q]) w := by
  match k, hk with
  | 0, _ => exact ⟨a, b, fun _ => by kernel_rfl⟩
  | 1, _ => exact ⟨c, d, fun _ => by kernel_rfl⟩
  | 2, _ => exact ⟨e, f, fun _ => by kernel_rfl⟩
theorem three_times (a b c : Int) (k : Nat) (hk : k < 3) : ∃ v : Int, ∀ w, (Instr.index 38 (.agg #[.int .i64 a, .int .i64 b, .int .i64 c]) (.int .i64 k)).run Try.prog w = .ok (.int .i64 v) w := by
  match k, hk with
  | 0, _ => exact ⟨a, fun _ => by kernel_rfl⟩
  | 1, _ => exact ⟨b, fun _ => by kernel_rfl⟩
  | 2, _ => exact ⟨c, fun _ => by kernel_rfl⟩
theorem three_lists {w : World} (A0 : Option Addr) (m0 c0 : Nat) (A1 : Option Addr) (m1 c1 : Nat) (A2 : Option Addr) (m2 c2 : Nat) (xs ys zs : List (Int × Int)) (hm0 : m0 = xs.length) (hm1 : m1 = ys.length) (hm2 : m2 = zs.length) (h0 : Tr w A0 xs) (h1 : Tr w A1 ys) (h2 : Tr w A2 zs) (l0 : m0 ≤ 1000) (l1 : m1 ≤ 1000) (l2 : m2 ≤ 1000) (k : Nat) (hk : k < 3) :
    ∃ vs A c, Tr w A vs ∧ vs.length ≤ 1000 ∧ ∀ w, (Instr.index 33 (.agg #[.slice A0 m0 c0, .slice A1 m1 c1, .slice A2 m2 c2]) (.int .i64 k)).run Try.prog w = .ok (.slice A (List.length vs) c) w := by
  subst hm0 hm1 hm2
  match k, hk with
  | 0, _ => exact ⟨xs, A0, c0, h0, l0, fun _ => by kernel_rfl⟩
  | 1, _ => exact ⟨ys, A1, c1, h1, l1, fun _ => by kernel_rfl⟩
  | 2, _ => exact ⟨zs, A2, c2, h2, l2, fun _ => by kernel_rfl⟩

set_option maxRecDepth 100000 in
set_option maxHeartbeats 8000000 in
theorem checks_law (b0 b1 : Int) (ls : List (Int × Int)) (A : Option Addr) (cap n14 : Nat) (B R : Int) (gA : Option Addr) (gc : Nat) (sA : Option Addr) (sc : Nat) (gs ss : List Int) (x y t : Int) (w : World) (hl : (ls.length : Int) ≤ 9223372036854775807) (hcap : ls.length ≤ cap) (hT : Tr w A ls) (h14 : n14 = min ls.length 14)
    (hB : 0 ≤ B ∧ B ≤ 4294967295) (hR : 0 ≤ R ∧ R ≤ 4294967295) (hg : Us w gA gs) (hs : Us w sA ss) (ug : U16 gs) (us : U16 ss) (sl : (ss.length : Int) ≤ 9223372036854775807) :
    Calls Try.prog 3 #[.agg #[.int .i64 b0, .int .i64 b1], drV B R gA gs.length gc sA ss.length sc, .slice A ls.length cap, .agg #[.int .i64 x, .int .i64 y], .int .i64 t] w fun e w' => e = .returned (.bool true) ∧ Bl w w' := by
  unfold drV
  obtain ⟨i0, hi, hz0, hz1, hz2⟩ := info_parts info_bk
  have HI := Lib.hid hi
  have HZ0 := Lib.hid hz0
  have HZ1 := Lib.hid hz1
  have HZ2 := Lib.hid hz2
  clear hi hz0 hz1 hz2
  have HG := Lib.hid hg
  have HS := Lib.hid hs
  have KW := Lib.hid (fun w => works_any w)
  have HT0 := Lib.hid hT
  have H14 := Lib.hid h14
  have e14 : (n14 : Int) ≤ 14 ∧ (n14 : Int) ≤ (ls.length : Int) := by omega
  have m14 : (if (14 : Int) < (ls.length : Int) then (14 : Int) else (ls.length : Int)) = (n14 : Int) := by split <;> omega
  obtain ⟨e141, e142⟩ := e14
  clear hT h14
  go_enter Try.func3, Try.ntmps3
  go_wp2_with fail
  have hd : D4 (w.heap.size + 1) B R (.slice gA gs.length gc) (.slice sA ss.length sc) (((w.alloc (.cells #[.int .i64 b0, .int .i64 b1] 23)).alloc (.cells #[.int .u32 B, .int .u32 R, .slice gA gs.length gc, .slice sA ss.length sc] 27)).alloc (.cells #[.int .i64 x, .int .i64 y] 30)) (((w.alloc (.cells #[.int .i64 b0, .int .i64 b1] 23)).alloc (.cells #[.int .u32 B, .int .u32 R, .slice gA gs.length gc, .slice sA ss.length sc] 27)).alloc (.cells #[.int .i64 x, .int .i64 y] 30)) := ⟨by simp [go_sem], by simp [go_sem], by simp [go_sem], by simp [go_sem], Bl.refl _⟩
  have hb0 : Bl w (((w.alloc (.cells #[.int .i64 b0, .int .i64 b1] 23)).alloc (.cells #[.int .u32 B, .int .u32 R, .slice gA gs.length gc, .slice sA ss.length sc] 27)).alloc (.cells #[.int .i64 x, .int .i64 y] 30)) := (((Bl.refl w).alloc _).alloc _).alloc _
  have hsb : Sl w.heap.size b0 b1 (((w.alloc (.cells #[.int .i64 b0, .int .i64 b1] 23)).alloc (.cells #[.int .u32 B, .int .u32 R, .slice gA gs.length gc, .slice sA ss.length sc] 27)).alloc (.cells #[.int .i64 x, .int .i64 y] 30)) := ((Sl.new w b0 b1 _).go ((Bl.refl _).alloc _)).go ((Bl.refl _).alloc _)
  have hsx : Sl (w.heap.size + 1 + 1) x y (((w.alloc (.cells #[.int .i64 b0, .int .i64 b1] 23)).alloc (.cells #[.int .u32 B, .int .u32 R, .slice gA gs.length gc, .slice sA ss.length sc] 27)).alloc (.cells #[.int .i64 x, .int .i64 y] 30)) := by
    have h := Sl.new ((w.alloc (.cells #[.int .i64 b0, .int .i64 b1] 23)).alloc (.cells #[.int .u32 B, .int .u32 R, .slice gA gs.length gc, .slice sA ss.length sc] 27)) x y 30
    rw [World.size_alloc, World.size_alloc] at h
    exact h
  have k4 : w.heap.size + 1 < (((w.alloc (.cells #[.int .i64 b0, .int .i64 b1] 23)).alloc (.cells #[.int .u32 B, .int .u32 R, .slice gA gs.length gc, .slice sA ss.length sc] 27)).alloc (.cells #[.int .i64 x, .int .i64 y] 30)).heap.size := by simp <;> omega
  have HD := Lib.hid hd
  have HB0 := Lib.hid hb0
  have K4 := Lib.hid k4
  have HSB := Lib.hid hsb
  have HSX := Lib.hid hsx
  clear hd hb0 k4 hsb hsx
  generalize (((w.alloc (.cells #[.int .i64 b0, .int .i64 b1] 23)).alloc (.cells #[.int .u32 B, .int .u32 R, .slice gA gs.length gc, .slice sA ss.length sc] 27)).alloc (.cells #[.int .i64 x, .int .i64 y] 30)) = W at *
  have H1 := Lib.hid (fun w' => (by have := dbucket_any B R gA gs.length gc sA ss.length sc w' hB hR; unfold drV at this; exact this : Calls Try.prog 10 #[.agg #[.int .u32 B, .int .u32 R, .slice gA gs.length gc, .slice sA ss.length sc]] w' fun e w'' => e = .returned (.agg #[.int .i64 (dBu B), .int .i64 (dRa R)]) ∧ Bl w' w''))
  have H2 := Lib.hid (fun (w' : World) (h : Bl W w') => (by have := dtrace_any B R gA gc sA sc gs ss w' (HG.out.go (HB0.out.trans h)) (HS.out.go (HB0.out.trans h)) ug us sl; unfold drV at this; exact this : Calls Try.prog 17 #[.agg #[.int .u32 B, .int .u32 R, .slice gA gs.length gc, .slice sA ss.length sc]] w' (TrRes w' (dTr gs ss))))
  have hlen : (dTr gs ss).length ≤ 30 := by unfold dTr; rw [dT_len]; omega
  have hrt : rtB (dTr gs ss) = true := dT_ok ug us (by omega)
  have hrtE := Lib.hid (rtE_t hrt)
  have HLEN := Lib.hid hlen
  clear hg hs ug us sl hB hR hrt hlen
  generalize dTr gs ss = ys at *
  generalize dRa R = dr at *
  generalize dBu B = du at *
  have k0 := HD.out.1
  have k1 := HD.out.2.1
  have k2 := HD.out.2.2.1
  have k3 := HD.out.2.2.2.1
  obtain ⟨a0, ha0⟩ : ∃ a, w.heap.size + 1 = a := ⟨_, rfl⟩
  rw [ha0] at HD K4 HSX k0 k1 k2 k3 ⊢
  clear ha0
  obtain ⟨aw, haw⟩ : ∃ a, w.heap.size = a := ⟨_, rfl⟩
  rw [haw] at HSB ⊢
  clear haw
  go_wp2_with fail
  refine (H1.out _).mono ?_; rintro e w1 ⟨rfl, gr⟩
  have G1 := Lib.hid gr
  clear gr k0 k1 k2 k3 m14
  go_wp2_with fail
  have SO0 := Lib.hid (Sl.new w1 du dr 23)
  have BW0 := Lib.hid (G1.out.alloc (.cells #[.int .i64 du, .int .i64 dr] 23))
  clear G1
  generalize (w1.alloc (.cells #[.int .i64 du, .int .i64 dr] 23)) = wq at *
  generalize w1.heap.size = bo at *
  have HML := Lib.hid (show (many (ls.take n14)).length = n14 by rw [many_len, List.length_take]; have := H14.out; omega)
  go_loopw [12, 13] (fun v iv wr => ∃ k : Nat, k ≤ n14 ∧ iv = .int .i64 k ∧ Hid (wr.ownsRow wq.heap.size 23 2 v k (flat ((many (ls.take n14)).take k))) ∧ Hid (Bl wq wr)) (fun _ iv _ => n14 - (intOf iv).toNat)
  case atStart => exact ⟨0, Nat.zero_le _, rfl, World.ownsRow_nil _ _ _ _, Bl.refl _⟩
  case round =>
    obtain ⟨k, hk, rfl, hown, hw⟩ := hrel
    by_cases hlt : k < n14
    · 
      have hkl : k < ls.length := by omega
      obtain ⟨b, off, ea, hb, d0, d1⟩ := HT0.out.go (HB0.out.trans BW0.out) k hkl
      have c0 := (hw.out.cell (p := ⟨b, off + k * 2, none⟩) hb).trans d0
      have c1 := (hw.out.cell (p := ⟨b, off + k * 2 + 1, none⟩) hb).trans d1
      have ts := take_snoc (many (ls.take n14)) k (by rw [HML.out]; exact hlt)
      have hmt : k < (ls.take n14).length := by rw [List.length_take]; omega
      rw [(many_at hmt).1, (many_at hmt).2, fs_take hlt, sn_take hlt] at ts
      subst ea
      obtain ⟨x9, hx⟩ : ∃ x, fs ls k = x := ⟨_, rfl⟩
      obtain ⟨y9, hy⟩ : ∃ y, sn ls k = y := ⟨_, rfl⟩
      rw [hx] at c0 ts
      rw [hy] at c1 ts
      have TS := Lib.hid ts
      have bw : b < wr.heap.size := Nat.lt_of_lt_of_le hb hw.out.size
      have AG := Lib.hid (own_ne hown.out hb)
      have HB := Lib.hid hb
      clear ts hx hy d0 d1 hb hmt
      have j0 : (0 : Int) ≤ (k : Int) := by omega
      have j1 : (k : Int) < (n14 : Int) := by omega
      go_wp2_with fail
      go_region_held3 (fun w' => w'.cell? ⟨b, off + k * 2, none⟩ = some (.int .i64 x9) ∧ w'.cell? ⟨b, off + k * 2 + 1, none⟩ = some (.int .i64 y9))
        (first
          | go_keep
          | (go_split_ands
             refine ⟨?_, ?_⟩
             · (rw [hgrow.cell_far _ (by simp; omega) (Ne.symm AG.out)]; assumption)
             · (rw [hgrow.cell_far _ (by simp; omega) (Ne.symm AG.out)]; assumption)))
        ((refine step_append_lies _ (by rfl) _ _ _ (by rfl) wq.heap.size 23 i0 _ 2 16 Try.underlying28 HI.out HZ0.out HZ1.out HZ2.out rfl (by omega) _ k (flat ((many (ls.take n14)).take k)) (by rfl) ((hown.out.alloc _).drew)
            ⟨wr.heap.size, 0, none⟩ 1 1 [.int .i64 (mk1 262144 x9), .int .i64 (mk1 524288 y9)] (by rfl) (by rfl) (World.news_of_block (cs := #[.int .i64 (mk1 262144 x9), .int .i64 (mk1 524288 y9)]) (t := 23) (fr := (0, 0)) (heap_alloc_new wr _)) (by simp [Value.oneCell'])
            (by omega) (by unfold maxLen; omega) (by omega) (by have := hw.out.size; simp; omega) (wr.heap.size + 1) (by simp) ?_; intro gg cap' w2 hown1 hgrow hat hlt2))
      have HW2 := Lib.hid (Bl.grownBy (hw.out.alloc _).drew hgrow (fun j e => own_block_ge hown.out j e))
      have HO2 := Lib.hid hown1
      clear hgrow hat hlt2 hown1
      go_wp2_with fail
      go_roundw
      case rel => exact ⟨k + 1, by omega, by go_num, by rw [TS.out, flat_append, flat_one]; exact HO2.out, HW2.out⟩
      case measure => simp [intOf]; omega
      
    · 
      have e9 : k = n14 := by omega
      have ho := hown.out
      rw [e9, List.take_of_length_le (by rw [HML.out]; exact Nat.le_refl _)] at ho
      obtain ⟨hq1, Am, cm, rfl, hq2, hq3, h3, hq4⟩ := Tr.of_own ho
      have TM := Lib.hid h3
      clear ho hown h3 hq1 hq2 hq3 hq4
      have SO := Lib.hid (SO0.out.go hw.out)
      have SB := Lib.hid (HSB.out.go (BW0.out.trans hw.out))
      have BQ := Lib.hid (BW0.out.trans hw.out)
      have o0 := SO.out.c0
      have o1 := SO.out.c1
      have z0 := SO.out.lt
      have u0 := SB.out.c0
      have u1 := SB.out.c1
      have z1 := SB.out.lt
      subst e9
      clear SO0 BW0 HSB hk hlt hw
      have hk1 : ¬ (k : Int) < (k : Int) := by omega
      go_wp2_with (at_builtin; refine wpList_app _ rfl _ _ _ rfl wr.heap.size 23 i0 _ 16 Try.underlying28 HI.out HZ0.out HZ1.out HZ2.out rfl (.slice (some ⟨wr.heap.size, 0, none⟩) 1 1) 1 [.int .i64 du, .int .i64 dr] rfl (lit_own wr _ du dr _) (some ⟨wr.heap.size + 1, 0, none⟩) 1 1 [(b0, b1)] rfl rfl (tr_lit2 wr _ b0 b1 _) (by unfold maxLen; omega) (by omega) (by simp <;> omega) ?_; intro v1 w2 hown1 hgrow hat; clear hat; have G2 := Lib.hid (Bl.grownBy (((Bl.refl wr).alloc _).alloc _) hgrow (own_block_ge (lit_own wr 23 du dr (.cells #[.int .i64 b0, .int .i64 b1] 23)))); obtain ⟨hq1, A2, c2, rfl, hq2, hq3, hT2, hq4⟩ := Tr.of_own (ps := [(du, dr), (b0, b1)]) hown1; have T2 := Lib.hid hT2; clear hown1 hgrow hT2 hq1 hq2 hq3 hq4)
      have HL3 := Lib.hid (three_lists (w := w2) A k cap Am k cm A2 2 c2 (ls.take k) (many (ls.take k)) [(du, dr), (b0, b1)] (by rw [List.length_take]; omega) HML.out.symm rfl ((HT0.out.take k).go (HB0.out.trans (BQ.out.trans G2.out))) (TM.out.go G2.out) T2.out (by omega) (by omega) (by omega))
      clear o0 o1 z0 u0 u1 z1
      go_loopw [72] (fun kv wx => ∃ k2 : Nat, k2 ≤ 3 ∧ kv = .int .i64 k2 ∧ Hid (Bl w2 wx)) (fun kv _ => 3 - (intOf kv).toNat)
      case atStart => exact ⟨0, by omega, rfl, Bl.refl _⟩
      case round =>
        obtain ⟨k2, hk2, rfl, hx⟩ := hrel
        rename World => wx
        by_cases hk23 : k2 < 3
        · 
          obtain ⟨zs, A9, c9, hT9, hl9, hrun⟩ := HL3.out k2 hk23
          have T9 := Lib.hid (hT9.go hx.out)
          obtain ⟨⟨U, V, E⟩, hv⟩ : ∃ r, suV zs = r := ⟨_, rfl⟩
          have KS := Lib.hid (fun w h => sum_v hv A9 c9 w (by omega) h)
          have KR := Lib.hid (fun w h => rsum_v hv A9 c9 w (by omega) h)
          clear hT9 hv
          go_wp2_with fail
          refine (KS.out _ T9.out).mono ?_; rintro e w3 ⟨rfl, gr⟩
          have G3 := Lib.hid (gr.alloc (.cells #[.int .i64 U, .int .i64 V] 23))
          have S3 := Lib.hid (Sl.new w3 U V 23)
          clear gr
          go_wp2_with fail
          generalize (w3.alloc (.cells #[.int .i64 U, .int .i64 V] 23)) = w4 at *
          generalize w3.heap.size = a3 at *
          refine (KR.out _ (T9.out.go G3.out)).mono ?_; rintro e w5 ⟨rfl, gr⟩
          have G5 := Lib.hid (G3.out.trans gr)
          have S5 := Lib.hid (S3.out.go gr)
          clear gr
          have s0 := S5.out.c0
          have s1 := S5.out.c1
          have z5 := S5.out.lt
          go_wp2_with fail
          go_roundw
          case rel => exact ⟨k2 + 1, by omega, by go_num, hx.out.trans (G5.out.alloc _)⟩
          case measure => simp [intOf]; omega
          
        · 
          have SO2 := Lib.hid (SO.out.go (G2.out.trans hx.out))
          have SB2 := Lib.hid (SB.out.go (G2.out.trans hx.out))
          have BZ := Lib.hid (BQ.out.trans (G2.out.trans hx.out))
          have o0 := SO2.out.c0
          have o1 := SO2.out.c1
          have z0 := SO2.out.lt
          have u0 := SB2.out.c0
          have u1 := SB2.out.c1
          have z1 := SB2.out.lt
          clear SO SB HL3 TM T2 G2 hx BQ
          go_wp2_with fail
          clear o0 o1 z0 u0 u1 z1
          obtain ⟨tX, htX⟩ : ∃ v, wrap64 ((IntKind.u64.wrap t).tmod 1099511627776) = v := ⟨_, rfl⟩
          obtain ⟨tY, htY⟩ : ∃ v, wrap64 ((IntKind.u64.wrap t).tmod 99) = v := ⟨_, rfl⟩
          go_loopw [102] (fun kv wy => ∃ k3 : Nat, k3 ≤ 3 ∧ kv = .int .i64 k3 ∧ Hid (Bl wx wy)) (fun kv _ => 3 - (intOf kv).toNat)
          case atStart => exact ⟨0, by omega, rfl, Bl.refl _⟩
          case round =>
            obtain ⟨k3, hk3, rfl, hy⟩ := hrel
            rename World => wy
            by_cases hk33 : k3 < 3
            · 
              obtain ⟨p, q, hrun⟩ := three_buckets b0 b1 du dr du b1 k3 hk33
              go_wp2_with fail
              rw [htX, htY]
              have HK33 := Lib.hid hk33
              clear hk33
              generalize decide ((k3 : Int) < 3) = c103
              have SP := Lib.hid (Sl.new wy p q 23)
              have GY := Lib.hid ((Bl.refl wy).alloc (.cells #[.int .i64 p, .int .i64 q] 23))
              clear hrun
              generalize (wy.alloc (.cells #[.int .i64 p, .int .i64 q] 23)) = wk at *
              generalize wy.heap.size = bq at *
              go_loopw [115] (fun kv wz => ∃ k4 : Nat, k4 ≤ 3 ∧ kv = .int .i64 k4 ∧ Hid (Sl bq p q wz) ∧ Hid (Bl wk wz)) (fun kv _ => 3 - (intOf kv).toNat)
              case atStart => exact ⟨0, by omega, rfl, SP.out, Bl.refl _⟩
              case round =>
                obtain ⟨k4, hk4, rfl, hsp, hz⟩ := hrel
                rename World => wz
                by_cases hk43 : k4 < 3
                · obtain ⟨n, hrun⟩ := three_times t tX tY k4 hk43
                  obtain ⟨⟨V, E⟩, hv⟩ : ∃ r, wiV p q n = r := ⟨_, rfl⟩
                  obtain ⟨F, hF⟩ : ∃ r, bkE p q = r := ⟨_, rfl⟩
                  have KA := Lib.hid (fun w => within_v hv w)
                  have KB := Lib.hid (fun w => rwithin_v hv w)
                  have KC := Lib.hid (fun w => check_v hF w)
                  have KD := Lib.hid (fun w => rcheck_v hF w)
                  clear hv hF
                  have s0 := hsp.out.c0
                  have s1 := hsp.out.c1
                  go_wp2_with fail
                  refine (KA.out _).mono ?_; rintro e v1 ⟨rfl, gr⟩
                  have Q1 := Lib.hid (hsp.out.go gr)
                  have L1 := Lib.hid (hz.out.trans gr)
                  clear gr s0 s1 hrun
                  have s0 := Q1.out.c0
                  have s1 := Q1.out.c1
                  go_wp2_with fail
                  refine (KB.out _).mono ?_; rintro e v2 ⟨rfl, gr⟩
                  have Q2 := Lib.hid (Q1.out.go gr)
                  have L2 := Lib.hid (L1.out.trans gr)
                  clear gr s0 s1
                  have s0 := Q2.out.c0
                  have s1 := Q2.out.c1
                  have hw0 : Hid (Two bq p q v2 v2) := ⟨Q2.out.c0, Q2.out.c1, Q2.out.lt, Bl.refl v2⟩
                  go_wp2_with fail
                  go_region_held3 (fun w' => w'.cell? ⟨bq, 0, none⟩ = some (.int .i64 p) ∧ w'.cell? ⟨bq, 1, none⟩ = some (.int .i64 q) ∧ Hid (Two bq p q v2 w')) (first | with_reducible exact S2.drew hw0 | with_reducible assumption | (rename _ ∧ _ ∧ Hid (Two bq p q v2 _) => hq; exact S2.step hq hgr)) (first | (go_at_call 15; ((with_reducible refine (KC.out _).mono ?_); rintro e w' ⟨rfl, hgr⟩)) | (go_at_call 16; ((with_reducible refine (KD.out _).mono ?_); rintro e w' ⟨rfl, hgr⟩)))
                  rename _ ∧ _ ∧ Hid (Two bq p q v2 _) => hS
                  have L3 := Lib.hid hS.2.2.out.2.2.2
                  clear hS hgr
                  go_wp2_with fail
                  
                  go_roundw
                  case rel => exact ⟨k4 + 1, by omega, by go_num, Q2.out.go L3.out, L2.out.trans L3.out⟩
                  case measure => simp [intOf]; omega
                · go_wp2_with fail
                  go_roundw
                  case rel => exact ⟨k3 + 1, by have := HK33.out; omega, by go_num, (hy.out.trans GY.out).trans hz.out⟩
                  case measure => simp [intOf]; omega
              
            · 
              have hd2 := D4.step K4 ⟨HD.out.1, HD.out.2.1, HD.out.2.2.1, HD.out.2.2.2.1, HD.out.2.2.2.2⟩ (BZ.out.trans hy.out)
              have k0 := hd2.1
              have k1 := hd2.2.1
              have k2' := hd2.2.2.1
              have k3' := hd2.2.2.2.1
              have SX := Lib.hid (HSX.out.go (BZ.out.trans hy.out))
              have BY := Lib.hid (BZ.out.trans hy.out)
              clear hd2 SO2 SB2 BZ HSX
              go_wp2_with fail
              refine (H2.out _ BY.out).mono ?_; rintro e w6 ⟨A1, ca, rfl, hca, hT1, gr, hf1⟩
              have T1 := Lib.hid hT1
              have SX6 := Lib.hid (SX.out.go gr)
              have B6 := Lib.hid (BY.out.trans gr)
              clear hT1 gr hf1 hca k0 k1 k2' k3' SX
              obtain ⟨t8, ht8⟩ : ∃ v, IntKind.u8.wrap t = v := ⟨_, rfl⟩
              have HT8 := Lib.hid (show 0 ≤ t8 ∧ t8 ≤ 255 by rw [← ht8]; unfold IntKind.wrap; simp [IntKind.signed, IntKind.bits]; omega)
              obtain ⟨F, hF⟩ : ∃ r, rtE (bentL ys x y t8) = r := ⟨_, rfl⟩
              have hl30 := HLEN.out
              have KT := Lib.hid (fun w h => checkTrace_v hrtE.out A1 ca w (by omega) h)
              have KE := Lib.hid (fun A c w h => checkTrace_v hF A c w (by rw [bentL_len]; omega) h)
              have KF := Lib.hid (fun A c w h => (rcheckTrace_v hF A c w (by rw [bentL_len]; omega) h).mono fun e w' hh => And.intro hh.1 (show Bl w w' from hh.2 ▸ Bl.refl w))
              have KG := Lib.hid (fun w h => bent_any ys A1 ca x y t8 w (by omega) HT8.out h)
              clear hF
              have s0 := SX6.out.c0
              have s1 := SX6.out.c1
              have hw0 : Hid (Two (a0 + 1) x y w6 w6) := ⟨SX6.out.c0, SX6.out.c1, SX6.out.lt, Bl.refl w6⟩
              go_wp2_with fail
              go_region_held3 (fun w' => w'.cell? ⟨a0 + 1, 0, none⟩ = some (.int .i64 x) ∧ w'.cell? ⟨a0 + 1, 1, none⟩ = some (.int .i64 y) ∧ Hid (Two (a0 + 1) x y w6 w')) (first | with_reducible exact S2.drew hw0 | with_reducible assumption | (rename _ ∧ _ ∧ Hid (Two (a0 + 1) x y w6 _) => hq; exact S2.step hq hgr)) (first | (go_at_call 18; rename _ ∧ _ ∧ Hid (Two (a0 + 1) x y w6 _) => hq; ((with_reducible refine (KT.out _ (T1.out.go (Two.bl hq.2.2.out))).mono ?_); rintro e w' ⟨rfl, hgr⟩; (try have TA := Lib.hid (TA.out.go hgr)); (try have TB := Lib.hid (TB.out.go hgr)))) | (go_at_call 19; rename _ ∧ _ ∧ Hid (Two (a0 + 1) x y w6 _) => hq; have hx := TA; clear hx; ((with_reducible refine (KG.out _ (T1.out.go (Two.bl hq.2.2.out))).mono ?_); rintro e w' ⟨B3, cd, rfl, hcd, hTb, hgr, hfb⟩; have TA := Lib.hid (TA.out.go hgr); have TB := Lib.hid hTb; clear hTb hfb hcd)) | (go_at_call 19; rename _ ∧ _ ∧ Hid (Two (a0 + 1) x y w6 _) => hq; ((with_reducible refine (KG.out _ (T1.out.go (Two.bl hq.2.2.out))).mono ?_); rintro e w' ⟨B2, cc, rfl, hcc, hTa, hgr, hfa⟩; have TA := Lib.hid hTa; clear hTa hfa hcc)) | (go_at_call 18; ((with_reducible refine (KE.out _ _ _ TA.out).mono ?_); rintro e w' ⟨rfl, hgr⟩; (try have TA := Lib.hid (TA.out.go hgr)); (try have TB := Lib.hid (TB.out.go hgr)))) | (go_at_call 18; ((with_reducible refine (KE.out _ _ _ TB.out).mono ?_); rintro e w' ⟨rfl, hgr⟩; (try have TA := Lib.hid (TA.out.go hgr)); (try have TB := Lib.hid (TB.out.go hgr)))) | (go_at_call 20; ((with_reducible refine (KF.out _ _ _ TA.out).mono ?_); rintro e w' ⟨rfl, hgr⟩; (try have TA := Lib.hid (TA.out.go hgr)); (try have TB := Lib.hid (TB.out.go hgr)))) | (go_at_call 20; ((with_reducible refine (KF.out _ _ _ TB.out).mono ?_); rintro e w' ⟨rfl, hgr⟩; (try have TA := Lib.hid (TA.out.go hgr)); (try have TB := Lib.hid (TB.out.go hgr)))) | (go_at_call 21; ((with_reducible refine (KW.out _).mono ?_); rintro e w' ⟨rfl, hgr⟩)) | fail)
              rename _ ∧ _ ∧ Hid (Two (a0 + 1) x y w6 _) => hS
              have L7 := Lib.hid hS.2.2.out.2.2.2
              go_wp2_with fail
              go_ret
              exact ⟨rfl, HB0.out.trans (B6.out.trans L7.out)⟩
              

end Go.Proofs.Ytlpbmhiipiaiaaa
