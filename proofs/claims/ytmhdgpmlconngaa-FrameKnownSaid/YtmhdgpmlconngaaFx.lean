/-
  A draft's frame: it is valid.
-/
import Derived.Test.YtmhdgpmlconngaaFy
import Derived.Deep.CutRange
import Derived.Deep.DeepCutAuto
import Derived.BigRegion
namespace Go.Proofs.Ytmhdgpmlconngaa
open Go.RowKit Go.Proofs.Ytmhdgpmlconngaa.Cr

/-- A draft as a value. -/
def dfV (a b l g k q : Nat) (x : ByteArray) : Value := .agg #[.int .u16 (a : Int), .int .u16 (b : Int), .int .u16 (l : Int), .int .u8 (g : Int), .int .u8 (k : Int), .int .u16 (q : Int), .string x]
/-- The octets of Data in a block. -/
def dsz (w : World) (c : Nat) : Nat := match w.cell? ⟨c, 8, none⟩ with
  | some (.string s) => s.size
  | _ => 0
theorem dsz_fb {w : World} {c : Nat} {f : Fr} (h : Fb w c f) : dsz w c = f.data.size := by unfold dsz; rw [h.cells.2.2.2.2.2.2.2.2]
/-- Valid so far: the addresses and the VLAN tag; the redundancy tag; the type. -/
def Ok1 (f : Fr) (u : ByteArray) : Prop := (0 ≤ f.dst ∧ f.dst ≤ 281474976710655) ∧ (0 ≤ f.src ∧ f.src ≤ 281474976710655) ∧ (0 ≤ f.prio ∧ f.prio ≤ ifs f.tag 7) ∧ (0 ≤ f.vid ∧ f.vid ≤ ifs f.tag 4094) ∧ f.red = false ∧ f.seq = 0 ∧ f.typ = 0 ∧ f.data = u
def Ok2 (f : Fr) (u : ByteArray) : Prop := (0 ≤ f.dst ∧ f.dst ≤ 281474976710655) ∧ (0 ≤ f.src ∧ f.src ≤ 281474976710655) ∧ (0 ≤ f.prio ∧ f.prio ≤ ifs f.tag 7) ∧ (0 ≤ f.vid ∧ f.vid ≤ ifs f.tag 4094) ∧ (0 ≤ f.seq ∧ f.seq ≤ ifs f.red 65535) ∧ f.typ = 0 ∧ f.data = u
/-- A draft's box, a zero frame and a frame under way, each in a block of its own. -/
structure Dw (V w : World) (a b l g k q : Nat) (x : ByteArray) (b0 n0 c : Nat) (f : Fr) : Prop where
  box : w.cell? ⟨b0, 2, none⟩ = some (.int .u16 (l : Int)) ∧ w.cell? ⟨b0, 3, none⟩ = some (.int .u8 (g : Int)) ∧ w.cell? ⟨b0, 4, none⟩ = some (.int .u8 (k : Int)) ∧ w.cell? ⟨b0, 5, none⟩ = some (.int .u16 (q : Int))
  zero : Fb w n0 zoF
  own : Fb w c f
  bl : Bl V w
theorem Dw.put {V w : World} {a b l g k q : Nat} {x : ByteArray} {b0 n0 c : Nat} {f h : Fr} (d : Dw V w a b l g k q x b0 n0 c f) (h0 : b0 ≠ c) (h1 : c ≠ n0) (hv : V.heap.size ≤ c) {i : Nat} (hi : i < 9) (v : Value) (e : ∀ j, j < 9 → (if j = i then v else frC f j) = frC h j) : Dw V (w.setCell ⟨c, i, none⟩ v) a b l g k q x b0 n0 c h :=
  ⟨⟨(cell_far (q := ⟨c, i, none⟩) h0 v).trans d.box.1, (cell_far (q := ⟨c, i, none⟩) h0 v).trans d.box.2.1, (cell_far (q := ⟨c, i, none⟩) h0 v).trans d.box.2.2.1, (cell_far (q := ⟨c, i, none⟩) h0 v).trans d.box.2.2.2⟩, d.zero.far (p := ⟨c, i, none⟩) h1 v, d.own.put hi v e, d.bl.setCell (p := ⟨c, i, none⟩) hv v⟩
theorem Dw.drew {V w : World} {a b l g k q : Nat} {x : ByteArray} {b0 n0 c : Nat} {f : Fr} (d : Dw V w a b l g k q x b0 n0 c f) : Dw V w.drew a b l g k q x b0 n0 c f := ⟨d.box, d.zero, d.own, d.bl.drew⟩
theorem Dw.new (w : World) (t1 t2 t3 : TypeId) (a b l g k q : Nat) (x : ByteArray) (f : Fr) : Dw w (((w.alloc (.cells #[.int .u16 (a : Int), .int .u16 (b : Int), .int .u16 (l : Int), .int .u8 (g : Int), .int .u8 (k : Int), .int .u16 (q : Int), .string x] t1)).alloc (.cells (fc zoF) t2)).alloc (.cells (fc f) t3)) a b l g k q x w.heap.size (w.heap.size + 1) (w.heap.size + 1 + 1) f := by
  have s1 : (w.alloc (.cells #[.int .u16 (a : Int), .int .u16 (b : Int), .int .u16 (l : Int), .int .u8 (g : Int), .int .u8 (k : Int), .int .u16 (q : Int), .string x] t1)).heap.size = w.heap.size + 1 := World.size_alloc _ _
  have f2 := Fb.new (w.alloc (.cells #[.int .u16 (a : Int), .int .u16 (b : Int), .int .u16 (l : Int), .int .u8 (g : Int), .int .u8 (k : Int), .int .u16 (q : Int), .string x] t1)) t2 zoF
  have f3 := Fb.new ((w.alloc (.cells #[.int .u16 (a : Int), .int .u16 (b : Int), .int .u16 (l : Int), .int .u8 (g : Int), .int .u8 (k : Int), .int .u16 (q : Int), .string x] t1)).alloc (.cells (fc zoF) t2)) t3 f
  rw [World.size_alloc, s1] at f3
  rw [s1] at f2
  exact ⟨⟨by simp [go_sem], by simp [go_sem], by simp [go_sem], by simp [go_sem]⟩, Fb.alloc f2 _, f3, (((Bl.refl w).alloc _).alloc _).alloc _⟩

theorem rm_ge (b : Bool) : 1494 ≤ rm b := by cases b <;> simp [rm]
theorem four_types (k : Nat) : ∃ z : Int, (1536 ≤ z ∧ z ≤ 65535 ∧ z ≠ 33024 ∧ z ≠ 61889) ∧ ∀ W, (Instr.index 57 (.agg #[.int .i64 2048, .int .i64 8944, .int .i64 65535, .int .i64 1536]) (.int .u8 ((k : Int) / 8 % 4))).run Try.prog W = .ok (.int .i64 z) W := by
  rcases (by omega : (k : Int) / 8 % 4 = 0 ∨ (k : Int) / 8 % 4 = 1 ∨ (k : Int) / 8 % 4 = 2 ∨ (k : Int) / 8 % 4 = 3) with h | h | h | h <;> rw [h]
  · exact ⟨2048, by decide, fun _ => by kernel_rfl⟩
  · exact ⟨8944, by decide, fun _ => by kernel_rfl⟩
  · exact ⟨65535, by decide, fun _ => by kernel_rfl⟩
  · exact ⟨1536, by decide, fun _ => by kernel_rfl⟩

set_option maxRecDepth 20000 in
set_option maxHeartbeats 4000000 in
theorem draft_any (a b l g k q : Nat) (x : ByteArray) (ha : a < 65536) (hb : b < 65536) (hl : l < 65536) (hg : g < 256) (hk : k < 256) (hq : q < 65536) (hx : x.size ≤ maxLen) (w : World) :
    Calls Try.prog 9 #[dfV a b l g k q x] w fun e w' => (∃ f, Ok f ∧ e = .returned f.v) ∧ Bl w w' := by
  unfold maxLen at hx
  unfold dfV
  have hw32 : IntKind.i64.wrap ((a : Int) * 4294967296) = (a : Int) * 4294967296 := IntWalk.i64_in _ (by omega)
  go_enter Try.func9, Try.ntmps9
  go_upto_region 1 with fail
  go_region
  have hus : (x.extract 0 (min (x.size : Int) 100).toNat).size ≤ 100 := by rw [ByteArray.size_extract]; omega
  have D := Lib.hid ((Dw.new w 26 23 23 a b l g k q x { dst := (a : Int) * 4294967296, src := (b : Int), tag := false, prio := 0, vid := 0, red := false, seq := 0, typ := 0, data := x.extract 0 (min (x.size : Int) 100).toNat }).drew)
  unfold fc zoF at D
  dsimp only at D
  generalize x.extract 0 (min (x.size : Int) 100).toNat = u at *
  have h0 : w.heap.size ≠ w.heap.size + 1 + 1 := by omega
  have h1 : w.heap.size + 1 + 1 ≠ w.heap.size + 1 := by omega
  have h2 : w.heap.size ≤ w.heap.size + 1 + 1 := by omega
  have h3 : w.heap.size ≤ w.heap.size + 1 := by omega
  have h4 : w.heap.size + 1 + 1 ≠ w.heap.size := by omega
  generalize w.heap.size + 1 + 1 = c at *
  generalize w.heap.size + 1 = n0 at *
  generalize (World.drew (World.alloc (World.alloc (World.alloc w _) _) _)) = wv at *
  obtain ⟨x2, x3, x4, x5⟩ := D.out.box
  go_upto_if 22 with fail
  go_cut [19] from 19 to 33 (fun _ wx => Hid (∃ f, Ok1 f u ∧ Dw w wx a b l g k q x w.heap.size n0 c f))
  case first =>
   as_aux_lemma =>
    rcases (by omega : (k : Int) % 2 = 1 ∨ (k : Int) % 2 = 0) with hm | hm
    · have hmb : ((k : Int) % 2 == 1) = true := by simp [hm]
      obtain ⟨q0, q1, q2, q3, q4, q5, q6, q7, q8⟩ := D.out.own.cells
      obtain ⟨qf0, qf1, qf2, qf3, qf4, qf5, qf6, qf7, qf8⟩ := D.out.own.frozen
      go_upto_region 3 with fail
      go_region
      go_wp2_with fail
      go_meet
      refine Lib.hid ⟨_, ⟨by dsimp only; omega, by dsimp only; omega, by simp [ifs]; omega, by simp [ifs]; omega, rfl, rfl, rfl, rfl⟩, ((((D.out.put h0 h1 h2 (i := 2) (by decide) (.bool true) (h := { dst := (a : Int) * 4294967296, src := (b : Int), tag := true, prio := 0, vid := 0, red := false, seq := 0, typ := 0, data := u }) (nine_cases rfl rfl rfl rfl rfl rfl rfl rfl rfl)).put h0 h1 h2 (i := 3) (by decide) (.int .i64 ((g : Int) % 8)) (h := { dst := (a : Int) * 4294967296, src := (b : Int), tag := true, prio := (g : Int) % 8, vid := 0, red := false, seq := 0, typ := 0, data := u }) (nine_cases rfl rfl rfl rfl rfl rfl rfl rfl rfl)).put h0 h1 h2 (i := 4) (by decide) (.int .i64 ((g : Int) * 16)) (h := { dst := (a : Int) * 4294967296, src := (b : Int), tag := true, prio := (g : Int) % 8, vid := (g : Int) * 16, red := false, seq := 0, typ := 0, data := u }) (nine_cases rfl rfl rfl rfl rfl rfl rfl rfl rfl))).drew⟩
    · have hmb : ((k : Int) % 2 == 1) = false := by simp [hm]
      go_wp2_with fail
      go_meet
      refine Lib.hid ⟨_, ⟨by dsimp only; omega, by dsimp only; omega, by simp [ifs], by simp [ifs], rfl, rfl, rfl, rfl⟩, D.out⟩
  clear x2 x3 x4 x5 D
  obtain ⟨f, hf, hd⟩ := hcut.out
  clear hcut
  obtain ⟨d, s, t, p, v, r, n, y, z⟩ := f
  have D := Lib.hid hd
  clear hd
  obtain ⟨x2, x3, x4, x5⟩ := D.out.box
  go_upto_if 38 with fail
  go_cut [34] from 34 to 43 (fun _ wx => Hid (∃ f, Ok2 f u ∧ Dw w wx a b l g k q x w.heap.size n0 c f))
  case first =>
   as_aux_lemma =>
    rcases (by omega : (k : Int) / 2 % 2 = 1 ∨ (k : Int) / 2 % 2 = 0) with hm | hm
    · have hmb : ((k : Int) / 2 % 2 == 1) = true := by simp [hm]
      obtain ⟨q0, q1, q2, q3, q4, q5, q6, q7, q8⟩ := D.out.own.cells
      obtain ⟨qf0, qf1, qf2, qf3, qf4, qf5, qf6, qf7, qf8⟩ := D.out.own.frozen
      go_upto_region 5 with fail
      go_region
      go_wp2_with fail
      go_meet
      refine Lib.hid ⟨{ dst := d, src := s, tag := t, prio := p, vid := v, red := true, seq := (q : Int), typ := y, data := z }, ⟨hf.1, hf.2.1, hf.2.2.1, hf.2.2.2.1, by simp [ifs]; omega, hf.2.2.2.2.2.2.1, hf.2.2.2.2.2.2.2⟩, (((D.out.put h0 h1 h2 (i := 5) (by decide) (.bool true) (h := { dst := d, src := s, tag := t, prio := p, vid := v, red := true, seq := n, typ := y, data := z }) (nine_cases rfl rfl rfl rfl rfl rfl rfl rfl rfl)).put h0 h1 h2 (i := 6) (by decide) (.int .i64 (q : Int)) (h := { dst := d, src := s, tag := t, prio := p, vid := v, red := true, seq := (q : Int), typ := y, data := z }) (nine_cases rfl rfl rfl rfl rfl rfl rfl rfl rfl))).drew⟩
    · have hmb : ((k : Int) / 2 % 2 == 1) = false := by simp [hm]
      go_wp2_with fail
      go_meet
      refine Lib.hid ⟨_, ⟨hf.1, hf.2.1, hf.2.2.1, hf.2.2.2.1, by rw [hf.2.2.2.2.1, hf.2.2.2.2.2.1]; simp [ifs], hf.2.2.2.2.2.2.1, hf.2.2.2.2.2.2.2⟩, D.out⟩
  clear hf
  clear x2 x3 x4 x5 D
  obtain ⟨f, hf, hd⟩ := hcut.out
  clear hcut
  obtain ⟨d, s, t, p, v, r, n, y, z⟩ := f
  have D := Lib.hid hd
  clear hd
  obtain ⟨x2, x3, x4, x5⟩ := D.out.box
  go_upto_if 48 with fail
  go_cut [44] from 44 to 55 (fun _ wx => Hid (∃ f, (Ok f ∧ f.data.size ≤ 1494) ∧ Dw w wx a b l g k q x w.heap.size n0 c f))
  case first =>
   as_aux_lemma =>
    rcases (by omega : (k : Int) / 4 % 2 = 1 ∨ (k : Int) / 4 % 2 = 0) with hm | hm
    · have hmb : ((k : Int) / 4 % 2 == 1) = true := by simp [hm]
      obtain ⟨zt, hz, hrun⟩ := four_types k
      obtain ⟨q0, q1, q2, q3, q4, q5, q6, q7, q8⟩ := D.out.own.cells
      obtain ⟨qf0, qf1, qf2, qf3, qf4, qf5, qf6, qf7, qf8⟩ := D.out.own.frozen
      go_wp2_with fail
      go_meet
      refine Lib.hid ⟨{ dst := d, src := s, tag := t, prio := p, vid := v, red := r, seq := n, typ := zt, data := z }, ⟨⟨hf.1, hf.2.1, hf.2.2.1, hf.2.2.2.1, hf.2.2.2.2.1, .inr hz, by have e := hf.2.2.2.2.2.2; have h := rm_ge r; dsimp only at e ⊢; rw [e]; omega⟩, by have e := hf.2.2.2.2.2.2; dsimp only at e ⊢; rw [e]; omega⟩, (D.out.put h0 h1 h2 (i := 7) (by decide) (.int .i64 zt) (h := { dst := d, src := s, tag := t, prio := p, vid := v, red := r, seq := n, typ := zt, data := z }) (nine_cases rfl rfl rfl rfl rfl rfl rfl rfl rfl))⟩
    · have hmb : ((k : Int) / 4 % 2 == 1) = false := by simp [hm]
      go_wp2_with fail
      go_meet
      refine Lib.hid ⟨_, ⟨⟨hf.1, hf.2.1, hf.2.2.1, hf.2.2.2.1, hf.2.2.2.2.1, .inl hf.2.2.2.2.2.1, by have e := hf.2.2.2.2.2.2; have h := rm_ge r; dsimp only at e ⊢; rw [e]; omega⟩, by have e := hf.2.2.2.2.2.2; dsimp only at e ⊢; rw [e]; omega⟩, D.out⟩
  clear hf
  clear x2 x3 x4 x5 D
  obtain ⟨f, hf, hd⟩ := hcut.out
  clear hcut
  obtain ⟨d, s, t, p, v, r, n, y, z⟩ := f
  have D := Lib.hid hd
  clear hd
  obtain ⟨x2, x3, x4, x5⟩ := D.out.box
  go_wp2_with fail
  go_loopw [56] (fun _ wr => ∃ f, (Ok f ∧ f.data.size ≤ 1494) ∧ Dw w wr a b l g k q x w.heap.size n0 c f) (fun _ wr => 1494 - dsz wr c)
  case atStart => exact ⟨_, hf, D.out⟩
  case round =>
   as_aux_lemma =>
    obtain ⟨f, hf, hd⟩ := hrel
    clear x2 x3 x4 x5
    have D := Lib.hid hd
    have hds := dsz_fb hd.own
    clear hd
    obtain ⟨x2, x3, x4, x5⟩ := D.out.box
    obtain ⟨d, s, t, p, v, r, n, y, z⟩ := f
    have hzs : z.size ≤ 1494 := hf.2
    have hzI : (z.size : Int) ≤ 1494 := by omega
    replace hds : dsz wr c = z.size := hds
    obtain ⟨q0, q1, q2, q3, q4, q5, q6, q7, q8⟩ := D.out.own.cells
    by_cases hk9 : (192 : Int) ≤ (k : Int)
    · by_cases hz0 : z.size = 0
      · obtain rfl : z = ⟨#[]⟩ := ByteArray.ext (Array.eq_empty_of_size_eq_zero hz0)
        have hb := D.out.bl
        go_upto_region 10 with fail
        refine frame_copy (f := { dst := d, src := s, tag := t, prio := p, vid := v, red := r, seq := n, typ := y, data := ⟨#[]⟩ }) (g := zoF) rfl rfl rfl D.out.own D.out.zero ?_
        have hz := st9_fb D.out.zero { dst := d, src := s, tag := t, prio := p, vid := v, red := r, seq := n, typ := y, data := ⟨#[]⟩ }
        have hbz := st9_bl hb h3 { dst := d, src := s, tag := t, prio := p, vid := v, red := r, seq := n, typ := y, data := ⟨#[]⟩ }
        generalize st9 wr n0 _ = wz at *
        clear D hb q0 q1 q2 q3 q4 q5 q6 q7 q8 x2 x3 x4 x5
        simp only [Act.put, List.setIfInBounds_toArray, List.set_cons_zero, List.set_cons_succ]
        go_wp2_with fail
        exact bodyPost_ret (results_frame rfl _ _ n0 { dst := d, src := s, tag := t, prio := p, vid := v, red := r, seq := n, typ := y, data := ⟨#[]⟩ } rfl hz) rfl ⟨⟨_, hf.1, rfl⟩, hbz⟩
      · have hzn : ¬ z.toList = [] := by rw [ByteArray.toList_eq]; intro h; exact hz0 (by rw [← list_size, h]; rfl)
        have hzb : (z.toList == []) = false := beq_eq_false_iff_ne.2 hzn
        have hzc : decide (z.toList = []) = false := decide_eq_false hzn
        have hzne : (z.toList != []) = true := bne_iff_ne.2 hzn
        by_cases hzl : (z.size : Int) < (l : Int) % 1495
        · have hzd : decide ((z.size : Int) < (l : Int) % 1495) = true := decide_eq_true hzl
          obtain ⟨mm, hmm, m1, m2, m3⟩ : ∃ mm : Nat, min (2 * (z.size : Int)) ((l : Int) % 1495) = (mm : Int) ∧ (mm : Int) ≤ 2 * (z.size : Int) ∧ mm ≤ 1494 ∧ z.size < mm := ⟨(min (2 * (z.size : Int)) ((l : Int) % 1495)).toNat, by omega, by omega, by omega, by omega⟩
          have hw2 : IntKind.i64.wrap (2 * (z.size : Int)) = 2 * (z.size : Int) := IntWalk.i64_in _ (by omega)
          have hzz : (z ++ z).size = 2 * z.size := by rw [ByteArray.size_append]; omega
          have hzzI : ((z ++ z).size : Int) = 2 * (z.size : Int) := by omega
          have hadd : ∀ W : World, (Op.stringOp .add z z).run Try.prog W = .ok (.string (z ++ z)) W := fun W => run_string_add W _ _ (by omega) (by omega)
          have hex : ((z ++ z).extract 0 mm).size = mm := by rw [ByteArray.size_extract]; omega
          generalize z ++ z = z2 at *
          obtain ⟨qf0, qf1, qf2, qf3, qf4, qf5, qf6, qf7, qf8⟩ := D.out.own.frozen
          go_wp2_with fail
          have hp := D.out.put h0 h1 h2 (i := 8) (by decide) (.string (z2.extract 0 mm)) (h := { dst := d, src := s, tag := t, prio := p, vid := v, red := r, seq := n, typ := y, data := z2.extract 0 mm }) (nine_cases rfl rfl rfl rfl rfl rfl rfl rfl rfl)
          refine ⟨⟨{ dst := d, src := s, tag := t, prio := p, vid := v, red := r, seq := n, typ := y, data := z2.extract 0 mm }, ⟨⟨hf.1.dst, hf.1.src, hf.1.prio, hf.1.vid, hf.1.seq, hf.1.typ, ?_⟩, ?_⟩, hp⟩, ?_⟩
          · show ((z2.extract 0 mm).size : Int) ≤ rm r
            rw [hex]
            have := rm_ge r
            omega
          · show (z2.extract 0 mm).size ≤ 1494
            rw [hex]
            exact m2
          · rw [dsz_fb hp.own, hds]
            show 1494 - (z2.extract 0 mm).size < 1494 - z.size
            rw [hex]
            omega
        · have hzd : decide ((z.size : Int) < (l : Int) % 1495) = false := decide_eq_false hzl
          have hb := D.out.bl
          go_upto_region 10 with fail
          refine frame_copy (f := { dst := d, src := s, tag := t, prio := p, vid := v, red := r, seq := n, typ := y, data := z }) (g := zoF) rfl rfl rfl D.out.own D.out.zero ?_
          have hz := st9_fb D.out.zero { dst := d, src := s, tag := t, prio := p, vid := v, red := r, seq := n, typ := y, data := z }
          have hbz := st9_bl hb h3 { dst := d, src := s, tag := t, prio := p, vid := v, red := r, seq := n, typ := y, data := z }
          generalize st9 wr n0 _ = wz at *
          clear D hb q0 q1 q2 q3 q4 q5 q6 q7 q8 x2 x3 x4 x5
          simp only [Act.put, List.setIfInBounds_toArray, List.set_cons_zero, List.set_cons_succ]
          go_wp2_with fail
          exact bodyPost_ret (results_frame rfl _ _ n0 { dst := d, src := s, tag := t, prio := p, vid := v, red := r, seq := n, typ := y, data := z } rfl hz) rfl ⟨⟨_, hf.1, rfl⟩, hbz⟩
    ·
      have hb := D.out.bl
      go_upto_region 10 with fail
      refine frame_copy (f := { dst := d, src := s, tag := t, prio := p, vid := v, red := r, seq := n, typ := y, data := z }) (g := zoF) rfl rfl rfl D.out.own D.out.zero ?_
      have hz := st9_fb D.out.zero { dst := d, src := s, tag := t, prio := p, vid := v, red := r, seq := n, typ := y, data := z }
      have hbz := st9_bl hb h3 { dst := d, src := s, tag := t, prio := p, vid := v, red := r, seq := n, typ := y, data := z }
      generalize st9 wr n0 _ = wz at *
      clear D hb q0 q1 q2 q3 q4 q5 q6 q7 q8 x2 x3 x4 x5
      simp only [Act.put, List.setIfInBounds_toArray, List.set_cons_zero, List.set_cons_succ]
      go_wp2_with fail
      exact bodyPost_ret (results_frame rfl _ _ n0 { dst := d, src := s, tag := t, prio := p, vid := v, red := r, seq := n, typ := y, data := z } rfl hz) rfl ⟨⟨_, hf.1, rfl⟩, hbz⟩
end Go.Proofs.Ytmhdgpmlconngaa
