/-
  What Decode of package frame returns.
-/
import Derived.Test.YtmhdgpmlconngaaFh
import Derived.Test.YtmhdgpmlconngaaFi
import Derived.Test.YtmhdgpmlconngaaFf
import Derived.RegionTactic
import Derived.Deep.RegionWith
namespace Go.Proofs.Ytmhdgpmlconngaa
open Go.RowKit Go.Proofs.Ytmhdgpmlconngaa.Cr

/-- The frame of zeros, in the walk's form. -/
def zoF : Fr := ⟨0, 0, false, 0, 0, false, 0, 0, ⟨#[]⟩⟩
/-- What Decode gives. -/
def deR (s : ByteArray) : Ending := match dec s with
  | some f => .returned (.tuple #[f.v, .int .i64 0])
  | none => .returned (.tuple #[zoF.v, .int .i64 5])
theorem deR_no {s : ByteArray} (h : dec s = none) : deR s = .returned (.tuple #[.agg #[.int .i64 0, .int .i64 0, .bool false, .int .i64 0, .int .i64 0, .bool false, .int .i64 0, .int .i64 0, .string ⟨#[]⟩], .int .i64 5]) := by unfold deR; rw [h]; rfl
theorem deR_ok {s : ByteArray} {f : Fr} (h : dec s = some f) : deR s = .returned (.tuple #[f.v, .int .i64 0]) := by unfold deR; rw [h]
theorem lost_facts {w : World} {a b : Nat} {f : Fr} {v : Value} (hab : ¬ a = b) (hF : Fb w a f) (hb : w.cell? ⟨b, 0, none⟩ = some v) : Fb (lost w a b) a zoF ∧ (lost w a b).cell? ⟨b, 0, none⟩ = some (.int .i64 5) := by
  unfold lost
  have h9 := ((((((((Nine.set hF (i := 0) (by decide) (.int .i64 0)).set (i := 1) (by decide) (.int .i64 0)).set (i := 2) (by decide) (.bool false)).set (i := 3) (by decide) (.int .i64 0)).set (i := 4) (by decide) (.int .i64 0)).set (i := 5) (by decide) (.bool false)).set (i := 6) (by decide) (.int .i64 0)).set (i := 7) (by decide) (.int .i64 0)).set (i := 8) (by decide) (.string ⟨#[]⟩)
  refine ⟨(h9.congr (nine_cases rfl rfl rfl rfl rfl rfl rfl rfl rfl)).far (fun h => hab h.symm) _, ?_⟩
  rw [World.cell?_setCell_same _ _ _ ((cell_far9 (fun h => hab h.symm) _ _ _ _ _ _ _ _ _).trans hb)]
theorem lost_bl {u w : World} {a b : Nat} (h : Bl u w) (ha : u.heap.size ≤ a) (hb : u.heap.size ≤ b) : Bl u (lost w a b) :=
  (((((((((h.setCell (p := ⟨a, 0, none⟩) ha _).setCell (p := ⟨a, 1, none⟩) ha _).setCell (p := ⟨a, 2, none⟩) ha _).setCell (p := ⟨a, 3, none⟩) ha _).setCell (p := ⟨a, 4, none⟩) ha _).setCell (p := ⟨a, 5, none⟩) ha _).setCell (p := ⟨a, 6, none⟩) ha _).setCell (p := ⟨a, 7, none⟩) ha _).setCell (p := ⟨a, 8, none⟩) ha _).setCell (p := ⟨b, 0, none⟩) hb _
theorem dec_W (w : World) : let W := (w.alloc (.cells #[.int .i64 0, .int .i64 0, .bool false, .int .i64 0, .int .i64 0, .bool false, .int .i64 0, .int .i64 0, .string ⟨#[]⟩] 23)).alloc (.cells #[.int .i64 0] 32); Fb W w.heap.size zoF ∧ W.cell? ⟨w.heap.size + 1, 0, none⟩ = some (.int .i64 0) ∧ W.frozen? ⟨w.heap.size + 1, 0, none⟩ = false ∧ Bl w W ∧ w.heap.size + 1 < W.heap.size := by
  refine ⟨(Fb.new w 23 zoF).alloc _, by simp [go_sem], by simp [go_sem], ((Bl.refl w).alloc _).alloc _, by simp⟩
theorem Rb.new (w : World) (x : ByteArray) (t : TypeId) : Rb (w.alloc (.cells #[.int .i64 0, .string x] t)) w.heap.size 0 x :=
  ⟨by simp, by simp [go_sem], by simp [go_sem], by simp [go_sem]⟩

theorem bl_only {b : Nat} {u v w : World} (h : Bl u v) (hb : u.heap.size ≤ b) (k : Only b v w) : Bl u w :=
  ⟨k.os.trans h.os, k.tape.trans h.tape, k.output.trans h.output, Nat.le_trans h.size k.size, fun i hi => (k.block i (Nat.lt_of_lt_of_le hi h.size) (by omega)).trans (h.block i hi)⟩
theorem nine_bl {u w : World} {a : Nat} (h : Bl u w) (ha : u.heap.size ≤ a) (x0 x1 x2 x3 x4 x5 x6 x7 x8 : Value) : Bl u (((((((((w.setCell ⟨a, 0, none⟩ x0).setCell ⟨a, 1, none⟩ x1).setCell ⟨a, 2, none⟩ x2).setCell ⟨a, 3, none⟩ x3).setCell ⟨a, 4, none⟩ x4).setCell ⟨a, 5, none⟩ x5).setCell ⟨a, 6, none⟩ x6).setCell ⟨a, 7, none⟩ x7).setCell ⟨a, 8, none⟩ x8) :=
  (((((((((h.setCell (p := ⟨a, 0, none⟩) ha _).setCell (p := ⟨a, 1, none⟩) ha _).setCell (p := ⟨a, 2, none⟩) ha _).setCell (p := ⟨a, 3, none⟩) ha _).setCell (p := ⟨a, 4, none⟩) ha _).setCell (p := ⟨a, 5, none⟩) ha _).setCell (p := ⟨a, 6, none⟩) ha _).setCell (p := ⟨a, 7, none⟩) ha _).setCell (p := ⟨a, 8, none⟩) ha _)
/-- Nine values, by their numbers. -/
def nv (x0 x1 x2 x3 x4 x5 x6 x7 x8 : Value) : Nat → Value
  | 0 => x0
  | 1 => x1
  | 2 => x2
  | 3 => x3
  | 4 => x4
  | 5 => x5
  | 6 => x6
  | 7 => x7
  | _ => x8
theorem store_nine {w : World} {a : Nat} {f : Fr} {x0 x1 x2 x3 x4 x5 x6 x7 x8 : Value} (h : Fb w a f) : Nine (((((((((w.setCell ⟨a, 0, none⟩ x0).setCell ⟨a, 1, none⟩ x1).setCell ⟨a, 2, none⟩ x2).setCell ⟨a, 3, none⟩ x3).setCell ⟨a, 4, none⟩ x4).setCell ⟨a, 5, none⟩ x5).setCell ⟨a, 6, none⟩ x6).setCell ⟨a, 7, none⟩ x7).setCell ⟨a, 8, none⟩ x8) a (nv x0 x1 x2 x3 x4 x5 x6 x7 x8) :=
  (((((((((Nine.set h (i := 0) (by decide) x0).set (i := 1) (by decide) x1).set (i := 2) (by decide) x2).set (i := 3) (by decide) x3).set (i := 4) (by decide) x4).set (i := 5) (by decide) x5).set (i := 6) (by decide) x6).set (i := 7) (by decide) x7).set (i := 8) (by decide) x8).congr (nine_cases rfl rfl rfl rfl rfl rfl rfl rfl rfl)
theorem hn_keep {v w' : World} {a b : Nat} {x0 x1 x2 x3 x4 x5 x6 x7 x8 : Value} {u : ByteArray} (h : Nine v a (nv x0 x1 x2 x3 x4 x5 x6 x7 x8)) (ha : a < v.heap.size) (hb : b < v.heap.size) (hx : v.cell? ⟨b, 1, none⟩ = some (.string u)) (g : Bl v w') :
    w'.cell? ⟨a, 0, none⟩ = some x0 ∧ w'.cell? ⟨a, 1, none⟩ = some x1 ∧ w'.cell? ⟨a, 2, none⟩ = some x2 ∧ w'.cell? ⟨a, 3, none⟩ = some x3 ∧ w'.cell? ⟨a, 4, none⟩ = some x4 ∧ w'.cell? ⟨a, 5, none⟩ = some x5 ∧ w'.cell? ⟨a, 6, none⟩ = some x6 ∧ w'.cell? ⟨a, 7, none⟩ = some x7 ∧ w'.cell? ⟨a, 8, none⟩ = some x8 ∧ w'.cell? ⟨b, 1, none⟩ = some (.string u) ∧ Hid (Bl v w') :=
  ⟨(g.cell ha).trans (h.2 0 (by decide)).1, (g.cell ha).trans (h.2 1 (by decide)).1, (g.cell ha).trans (h.2 2 (by decide)).1, (g.cell ha).trans (h.2 3 (by decide)).1, (g.cell ha).trans (h.2 4 (by decide)).1, (g.cell ha).trans (h.2 5 (by decide)).1, (g.cell ha).trans (h.2 6 (by decide)).1, (g.cell ha).trans (h.2 7 (by decide)).1, (g.cell ha).trans (h.2 8 (by decide)).1, (g.cell hb).trans hx, Lib.hid g⟩
theorem hz_keep {w v w' : World} {a n : Nat} {f : Fr} {y : Value} (h : Nine v a (nv (.int .i64 f.dst) (.int .i64 f.src) (.bool f.tag) (.int .i64 f.prio) (.int .i64 f.vid) (.bool f.red) (.int .i64 f.seq) (.int .i64 f.typ) (.string f.data))) (_ha : a < v.heap.size) (hn : n < v.heap.size) (hy : v.cell? ⟨n, 0, none⟩ = some y) (hf : v.frozen? ⟨n, 0, none⟩ = false) (hG : Bl w v) (g : Bl v w') :
    Fb w' a f ∧ w'.cell? ⟨n, 0, none⟩ = some y ∧ w'.frozen? ⟨n, 0, none⟩ = false ∧ Bl w w' :=
  ⟨(h.congr (u := frC f) (nine_cases rfl rfl rfl rfl rfl rfl rfl rfl rfl)).go (b := v.heap.size + 1) (Only.of g) (by omega), (g.cell hn).trans hy, (g.frozen hn).trans hf, hG.trans g⟩
theorem dec_chk {s : ByteArray} (h : chk s 0 = false) : dec s = none := by unfold dec; rw [h]; rfl
theorem dec_prs {s : ByteArray} (h : prs (bef s) = none) : dec s = none := by unfold dec; split <;> simp [h]
theorem dec_bad {s : ByteArray} {f : Fr} (h : prs (bef s) = some f) (h2 : okB f = false) : dec s = none := by unfold dec; split <;> simp [h, h2]
theorem dec_oth {s : ByteArray} {f : Fr} (h : prs (bef s) = some f) (h2 : ¬ bod f = bef s) : dec s = none := by unfold dec; split <;> simp [h, h2]
theorem dec_yes {s : ByteArray} {f : Fr} (h0 : chk s 0 = true) (h : prs (bef s) = some f) (h2 : okB f = true) (h3 : bod f = bef s) : dec s = some f := by unfold dec; rw [h0]; simp [h, h2, h3]

set_option maxRecDepth 20000 in
set_option maxHeartbeats 4000000 in
theorem fdecode_any (s : ByteArray) (hs : (s.size : Int) ≤ 8000) (w : World) :
    Calls Try.prog 19 #[.string s] w fun e w' => e = deR s ∧ Bl w w' := by
  have hmf : ∀ (fn : Fn) (first cap : Array Value) (w : World), (Instr.makeFunc fn first cap).run Try.prog w = .ok (.func fn first cap) w := fun _ _ _ _ => rfl
  have KG := Lib.hid (fun w => good_any s hs w)
  have KT := Lib.hid (fun w => demand_t w)
  have KD := Lib.hid (fun w => demand_f w)
  unfold bad at KD
  obtain ⟨hZ, hY, hYF, hG, hsz⟩ := dec_W w
  have Z := Lib.hid hZ
  have Y := Lib.hid hY
  have YF := Lib.hid hYF
  have G := Lib.hid hG
  clear hZ hY hYF hG
  rcases bcase (chk s 0) with hc | hc
  · rw [hc] at KG
    have h4 : 4 ≤ s.size := (of_decide_eq_true hc).1
    have hb : (bef s).size = s.size - 4 := by unfold bef; rw [ByteArray.size_extract]; omega
    have KX := Lib.hid (fun b w hr => fdecoded_any b (bef s) (by omega) w hr)
    have hbe : s.extract 0 (s.size - 4) = bef s := rfl
    have e4 : ((s.size : Int) - 4).toNat = s.size - 4 := by omega
    cases hp : prs (bef s) with
    | none =>
      have E := Lib.hid (deR_no (dec_prs hp))
      replace KX := Lib.hid (fun b w hr => (dcR_no hp) ▸ fdecoded_any b (bef s) (by omega) w hr)
      unfold bad at KX
      go_enter_defers Try.func19, Try.ntmps19
      go_wp2_with fail
      refine (KG.out _).mono ?_; rintro e w1 ⟨rfl, gr⟩
      replace Z := Lib.hid (Z.out.go (Only.of (b := w.heap.size + 1) gr) (by omega))
      replace Y := Lib.hid ((gr.cell (p := ⟨w.heap.size + 1, 0, none⟩) hsz).trans Y.out)
      replace YF := Lib.hid ((gr.frozen (p := ⟨w.heap.size + 1, 0, none⟩) hsz).trans YF.out)
      replace G := Lib.hid (Bl.trans G.out gr)
      replace hsz := Nat.lt_of_lt_of_le hsz gr.size
      clear gr
      go_wp2_with fail
      refine (KT.out _).mono ?_; rintro e wn ⟨rfl, rfl⟩
      go_wp2_with fail
      refine (KX.out _ _ (Rb.new w1 (bef s) 70)).mono ?_; rintro e w2 ⟨rfl, ho, hcx⟩
      have g2 := Only.trans (Only.of (b := w1.heap.size) ((Bl.refl w1).alloc (.cells #[.int .i64 0, .string (bef s)] 70))) ho
      replace Z := Lib.hid (Z.out.go g2 (by omega))
      replace Y := Lib.hid ((g2.cell (p := ⟨w.heap.size + 1, 0, none⟩) hsz (show w.heap.size + 1 ≠ w1.heap.size by omega)).trans Y.out)
      replace YF := Lib.hid ((g2.frozen (p := ⟨w.heap.size + 1, 0, none⟩) hsz (show w.heap.size + 1 ≠ w1.heap.size by omega)).trans YF.out)
      replace G := Lib.hid (bl_only G.out (by omega) g2)
      clear g2 ho hcx
      go_wp2_with fail
      refine leaves_cons (f := 38) (args := #[.pointer (some ⟨w.heap.size, 0, none⟩), .pointer (some ⟨w.heap.size + 1, 0, none⟩)]) (by simp) (by simp [go_sem]) ?_
      refine (catch_panicking _ _ (by omega) _ _ _ [] _ Z.out Y.out YF.out).mono ?_
      rintro e u' w'' ⟨rfl, rfl, rfl⟩
      have HB := lost_bl G.out (Nat.le_refl _) (Nat.le_succ _)
      obtain ⟨HF, hb5⟩ := lost_facts (show ¬ w.heap.size = w.heap.size + 1 by omega) Z.out Y.out
      obtain ⟨c0, c1, c2, c3, c4, c5, c6, c7, c8⟩ := HF.cells
      have E2 := E.out
      clear HF Z Y YF G
      generalize lost _ w.heap.size (w.heap.size + 1) = wl at *
      simp [Leaves, settle, results, Try.results19, go_sem, c0, c1, c2, c3, c4, c5, c6, c7, c8, hb5, HB, E2, zoF]
    | some f =>
      replace KX := Lib.hid (fun b w hr => (dcR_ok hp) ▸ fdecoded_any b (bef s) (by omega) w hr)
      obtain ⟨d, sr, t, p, vi, r, q, y, x⟩ := f
      unfold Fr.v at KX
      go_enter_defers Try.func19, Try.ntmps19
      go_wp2_with fail
      refine (KG.out _).mono ?_; rintro e w1 ⟨rfl, gr⟩
      replace Z := Lib.hid (Z.out.go (Only.of (b := w.heap.size + 1) gr) (by omega))
      replace Y := Lib.hid ((gr.cell (p := ⟨w.heap.size + 1, 0, none⟩) hsz).trans Y.out)
      replace YF := Lib.hid ((gr.frozen (p := ⟨w.heap.size + 1, 0, none⟩) hsz).trans YF.out)
      replace G := Lib.hid (Bl.trans G.out gr)
      replace hsz := Nat.lt_of_lt_of_le hsz gr.size
      clear gr
      go_wp2_with fail
      refine (KT.out _).mono ?_; rintro e wn ⟨rfl, rfl⟩
      go_wp2_with fail
      refine (KX.out _ _ (Rb.new w1 (bef s) 70)).mono ?_; rintro e w2 ⟨rfl, ho, hcx⟩
      have g2 := Only.trans (Only.of (b := w1.heap.size) ((Bl.refl w1).alloc (.cells #[.int .i64 0, .string (bef s)] 70))) ho
      replace Z := Lib.hid (Z.out.go g2 (by omega))
      replace Y := Lib.hid ((g2.cell (p := ⟨w.heap.size + 1, 0, none⟩) hsz (show w.heap.size + 1 ≠ w1.heap.size by omega)).trans Y.out)
      replace YF := Lib.hid ((g2.frozen (p := ⟨w.heap.size + 1, 0, none⟩) hsz (show w.heap.size + 1 ≠ w1.heap.size by omega)).trans YF.out)
      replace G := Lib.hid (bl_only G.out (by omega) g2)
      replace hcx := hcx (by rw [hp]; exact fun h => by cases h)
      have hbw : w1.heap.size ≠ w.heap.size := by omega
      have hb2 : w1.heap.size < w2.heap.size := Nat.lt_of_lt_of_le (by simp) ho.size
      have hsz2 : w.heap.size + 1 < w2.heap.size := Nat.lt_of_lt_of_le hsz g2.size
      clear g2 ho
      obtain ⟨z0, z1, z2, z3, z4, z5, z6, z7, z8⟩ := Z.out.cells
      obtain ⟨zf0, zf1, zf2, zf3, zf4, zf5, zf6, zf7, zf8⟩ := Z.out.frozen
      go_upto_region 5 with fail
      clear z0 z1 z2 z3 z4 z5 z6 z7 z8 zf0 zf1 zf2 zf3 zf4 zf5 zf6 zf7 zf8
      have hV := store_nine (x0 := .int .i64 d) (x1 := .int .i64 sr) (x2 := .bool t) (x3 := .int .i64 p) (x4 := .int .i64 vi) (x5 := .bool r) (x6 := .int .i64 q) (x7 := .int .i64 y) (x8 := .string x) Z.out
      replace hcx := (cell_far9 (p := ⟨w1.heap.size, 1, none⟩) hbw (.int .i64 d) (.int .i64 sr) (.bool t) (.int .i64 p) (.int .i64 vi) (.bool r) (.int .i64 q) (.int .i64 y) (.string x)).trans hcx
      replace Y := Lib.hid ((cell_far9 (p := ⟨w.heap.size + 1, 0, none⟩) (show w.heap.size + 1 ≠ w.heap.size by omega) (.int .i64 d) (.int .i64 sr) (.bool t) (.int .i64 p) (.int .i64 vi) (.bool r) (.int .i64 q) (.int .i64 y) (.string x)).trans Y.out)
      have hYF := YF.out
      replace YF := Lib.hid (show ((((((((((w2.setCell ⟨w.heap.size, 0, none⟩ (.int .i64 d)).setCell ⟨w.heap.size, 1, none⟩ (.int .i64 sr)).setCell ⟨w.heap.size, 2, none⟩ (.bool t)).setCell ⟨w.heap.size, 3, none⟩ (.int .i64 p)).setCell ⟨w.heap.size, 4, none⟩ (.int .i64 vi)).setCell ⟨w.heap.size, 5, none⟩ (.bool r)).setCell ⟨w.heap.size, 6, none⟩ (.int .i64 q)).setCell ⟨w.heap.size, 7, none⟩ (.int .i64 y)).setCell ⟨w.heap.size, 8, none⟩ (.string x))).frozen? ⟨w.heap.size + 1, 0, none⟩ = false by simp only [World.frozen?_setCell]; exact hYF)
      replace G := Lib.hid (nine_bl G.out (Nat.le_refl _) (.int .i64 d) (.int .i64 sr) (.bool t) (.int .i64 p) (.int .i64 vi) (.bool r) (.int .i64 q) (.int .i64 y) (.string x))
      have hsv : ((((((((((w2.setCell ⟨w.heap.size, 0, none⟩ (.int .i64 d)).setCell ⟨w.heap.size, 1, none⟩ (.int .i64 sr)).setCell ⟨w.heap.size, 2, none⟩ (.bool t)).setCell ⟨w.heap.size, 3, none⟩ (.int .i64 p)).setCell ⟨w.heap.size, 4, none⟩ (.int .i64 vi)).setCell ⟨w.heap.size, 5, none⟩ (.bool r)).setCell ⟨w.heap.size, 6, none⟩ (.int .i64 q)).setCell ⟨w.heap.size, 7, none⟩ (.int .i64 y)).setCell ⟨w.heap.size, 8, none⟩ (.string x))).heap.size = w2.heap.size := by simp only [World.size_setCell]
      rw [← hsv] at hb2 hsz2
      clear hYF hsv Z
      generalize (((((((((w2.setCell ⟨w.heap.size, 0, none⟩ (.int .i64 d)).setCell ⟨w.heap.size, 1, none⟩ (.int .i64 sr)).setCell ⟨w.heap.size, 2, none⟩ (.bool t)).setCell ⟨w.heap.size, 3, none⟩ (.int .i64 p)).setCell ⟨w.heap.size, 4, none⟩ (.int .i64 vi)).setCell ⟨w.heap.size, 5, none⟩ (.bool r)).setCell ⟨w.heap.size, 6, none⟩ (.int .i64 q)).setCell ⟨w.heap.size, 7, none⟩ (.int .i64 y)).setCell ⟨w.heap.size, 8, none⟩ (.string x)) = v at *
      generalize hwb : w1.heap.size = b at *
      have HN := Lib.hid (fun (w' : World) (g : Bl v w') => hn_keep hV (by omega) hb2 hcx g)
      have HZ := Lib.hid (fun (w' : World) (g : Bl v w') => hz_keep (f := ⟨d, sr, t, p, vi, r, q, y, x⟩) hV (by omega) hsz2 Y.out YF.out G.out g)
      clear hV hcx Y YF G
      rcases bcase (okB ⟨d, sr, t, p, vi, r, q, y, x⟩) with hok | hok
      · by_cases hbo : bod ⟨d, sr, t, p, vi, r, q, y, x⟩ = bef s
        · have E := Lib.hid (deR_ok (dec_yes hc hp hok hbo))
          have KC := Lib.hid (fun w => check_v (chE_t hok) w)
          have KB := Lib.hid (fun w => body_any _ (ok_iff.1 hok) w)
          rw [hbo] at KB
          unfold Fr.v at *
          generalize bef s = u at *
          clear hok hbo hp
          go_region_held3 (fun w' => w'.cell? ⟨w.heap.size, 0, none⟩ = some (.int .i64 d) ∧ w'.cell? ⟨w.heap.size, 1, none⟩ = some (.int .i64 sr) ∧ w'.cell? ⟨w.heap.size, 2, none⟩ = some (.bool t) ∧ w'.cell? ⟨w.heap.size, 3, none⟩ = some (.int .i64 p) ∧ w'.cell? ⟨w.heap.size, 4, none⟩ = some (.int .i64 vi) ∧ w'.cell? ⟨w.heap.size, 5, none⟩ = some (.bool r) ∧ w'.cell? ⟨w.heap.size, 6, none⟩ = some (.int .i64 q) ∧ w'.cell? ⟨w.heap.size, 7, none⟩ = some (.int .i64 y) ∧ w'.cell? ⟨w.heap.size, 8, none⟩ = some (.string x) ∧ w'.cell? ⟨b, 1, none⟩ = some (.string u) ∧ Hid (Bl v w')) (first | with_reducible assumption | exact HN.out _ ((Bl.refl v).drew) | (refine HN.out _ ?_; with_reducible refine Bl.trans ?_ hgr; rename _ ∧ _ ∧ _ ∧ _ ∧ _ ∧ _ ∧ _ ∧ _ ∧ _ ∧ _ ∧ Hid (Bl v _) => hq; exact hq.2.2.2.2.2.2.2.2.2.2.out) | fail) (first | (go_at_call 15; (with_reducible refine (KC.out _).mono ?_); rintro e wn ⟨rfl, hgr⟩) | (go_at_call 29; (with_reducible refine (KB.out _).mono ?_); rintro e wn ⟨rfl, hgr⟩) | (go_at_call 39; (with_reducible refine (KT.out _).mono ?_); rintro e wn ⟨rfl, rfl⟩) | fail)
          rename _ ∧ _ ∧ _ ∧ _ ∧ _ ∧ _ ∧ _ ∧ _ ∧ _ ∧ _ ∧ Hid (Bl v _) => hz
          have GG := Lib.hid hz.2.2.2.2.2.2.2.2.2.2.out
          clear hz
          obtain ⟨hZ, hY, hYF, hG⟩ := HZ.out _ GG.out
          obtain ⟨c0, c1, c2, c3, c4, c5, c6, c7, c8⟩ := hZ.cells
          obtain ⟨f0, f1, f2, f3, f4, f5, f6, f7, f8⟩ := hZ.frozen
          have hne : ¬ w.heap.size = w.heap.size + 1 := by omega
          have hne' : ¬ w.heap.size + 1 = w.heap.size := by omega
          have hle : w.heap.size ≤ w.heap.size + 1 := by omega
          generalize w.heap.size + 1 = n1 at *
          go_wp2_with fail
          refine leaves_cons (f := 38) (args := #[.pointer (some ⟨w.heap.size, 0, none⟩), .pointer (some ⟨n1, 0, none⟩)]) (by simp) (by simp [go_sem]) ?_
          refine (catch_idle _ _ _).mono ?_
          rintro e u' w'' ⟨rfl, rfl, rfl⟩
          have HB := (nine_bl hG (Nat.le_refl _) (.int .i64 d) (.int .i64 sr) (.bool t) (.int .i64 p) (.int .i64 vi) (.bool r) (.int .i64 q) (.int .i64 y) (.string x)).setCell (p := ⟨n1, 0, none⟩) hle (.int .i64 0)
          have HF := (store_nine (x0 := .int .i64 d) (x1 := .int .i64 sr) (x2 := .bool t) (x3 := .int .i64 p) (x4 := .int .i64 vi) (x5 := .bool r) (x6 := .int .i64 q) (x7 := .int .i64 y) (x8 := .string x) hZ).far (p := ⟨n1, 0, none⟩) hne' (.int .i64 0)
          have q9 := World.cell?_setCell_same _ _ (.int .i64 0) ((cell_far9 (p := ⟨n1, 0, none⟩) hne' (.int .i64 d) (.int .i64 sr) (.bool t) (.int .i64 p) (.int .i64 vi) (.bool r) (.int .i64 q) (.int .i64 y) (.string x)).trans hY)
          clear c0 c1 c2 c3 c4 c5 c6 c7 c8 f0 f1 f2 f3 f4 f5 f6 f7 f8 hZ hY hYF hG
          generalize ((((((((((wn.setCell ⟨w.heap.size, 0, none⟩ (.int .i64 d)).setCell ⟨w.heap.size, 1, none⟩ (.int .i64 sr)).setCell ⟨w.heap.size, 2, none⟩ (.bool t)).setCell ⟨w.heap.size, 3, none⟩ (.int .i64 p)).setCell ⟨w.heap.size, 4, none⟩ (.int .i64 vi)).setCell ⟨w.heap.size, 5, none⟩ (.bool r)).setCell ⟨w.heap.size, 6, none⟩ (.int .i64 q)).setCell ⟨w.heap.size, 7, none⟩ (.int .i64 y)).setCell ⟨w.heap.size, 8, none⟩ (.string x))).setCell ⟨n1, 0, none⟩ (.int .i64 0) = wl at *
          have q0 : wl.cell? ⟨w.heap.size, 0, none⟩ = some (.int .i64 d) := (HF.2 0 (by decide)).1
          have q1 : wl.cell? ⟨w.heap.size, 1, none⟩ = some (.int .i64 sr) := (HF.2 1 (by decide)).1
          have q2 : wl.cell? ⟨w.heap.size, 2, none⟩ = some (.bool t) := (HF.2 2 (by decide)).1
          have q3 : wl.cell? ⟨w.heap.size, 3, none⟩ = some (.int .i64 p) := (HF.2 3 (by decide)).1
          have q4 : wl.cell? ⟨w.heap.size, 4, none⟩ = some (.int .i64 vi) := (HF.2 4 (by decide)).1
          have q5 : wl.cell? ⟨w.heap.size, 5, none⟩ = some (.bool r) := (HF.2 5 (by decide)).1
          have q6 : wl.cell? ⟨w.heap.size, 6, none⟩ = some (.int .i64 q) := (HF.2 6 (by decide)).1
          have q7 : wl.cell? ⟨w.heap.size, 7, none⟩ = some (.int .i64 y) := (HF.2 7 (by decide)).1
          have q8 : wl.cell? ⟨w.heap.size, 8, none⟩ = some (.string x) := (HF.2 8 (by decide)).1
          have E2 := E.out
          unfold Fr.v at E2
          simp [Leaves, settle, results, Try.results19, go_sem, q0, q1, q2, q3, q4, q5, q6, q7, q8, q9, HB, E2]
        · have E := Lib.hid (deR_no (dec_oth hp hbo))
          have KC := Lib.hid (fun w => check_v (chE_t hok) w)
          have KB := Lib.hid (fun w => body_any _ (ok_iff.1 hok) w)
          have hbq := beq_bytes (bod ⟨d, sr, t, p, vi, r, q, y, x⟩) (bef s)
          rw [decide_eq_false hbo] at hbq
          unfold Fr.v at *
          generalize bod ⟨d, sr, t, p, vi, r, q, y, x⟩ = bo at *
          generalize bef s = u at *
          clear hok hbo hp
          refine wp_region_any (by kernel_rfl) ?_
          try (change wpAny _ _ _ _ _ _ _ (World.drew _))
          obtain ⟨c0, c1, c2, c3, c4, c5, c6, c7, c8, cx, _⟩ := HN.out _ (Bl.refl v)
          refine wpAny_ready (rs := [0]) (by kernel_rfl) (by simp) ?_
          refine AllReady.cons rfl (fun K hK => ?_) ?_
          · go_simp
            refine hK _ _ ?_
            clear hK K
            refine wpAny_ready (rs := [1]) (by kernel_rfl) (by simp) ?_
            refine AllReady.cons rfl (fun K hK => ?_) ?_
            · go_simp
              go_wp2_with (first | (go_at_call 15; (with_reducible refine (KC.out _).mono ?_); rintro e wn ⟨rfl, hgr⟩; have GG := Lib.hid (Bl.trans (Bl.drew (Bl.refl v)) hgr); clear hgr; obtain ⟨k0, k1, k2, k3, k4, k5, k6, k7, k8, kx, _⟩ := HN.out _ GG.out) | fail)
              try (refine hK _ _ ?_; clear hK K)
              refine wpAny_ready (rs := [2]) (by kernel_rfl) (by simp) ?_
              refine AllReady.cons rfl (fun K hK => ?_) ?_
              · go_simp
                refine hK _ _ ?_
                clear hK K
                refine wpAny_ready (rs := [3]) (by kernel_rfl) (by simp) ?_
                refine AllReady.cons rfl (fun K hK => ?_) ?_
                · go_simp
                  refine hK _ _ ?_
                  clear hK K
                  refine wpAny_ready (rs := [4, 6]) (by kernel_rfl) (by simp) ?_
                  refine AllReady.cons rfl (fun K hK => ?_) ?_
                  · go_simp
                    refine hK _ _ ?_
                    clear hK K
                    refine wpAny_ready (rs := [5, 6]) (by kernel_rfl) (by simp) ?_
                    refine AllReady.cons rfl (fun K hK => ?_) ?_
                    · go_simp
                      go_wp2_with (first | (go_at_call 29; (with_reducible refine (KB.out _).mono ?_); rintro e wn ⟨rfl, hgr⟩; replace GG := Lib.hid (Bl.trans GG.out hgr); clear hgr; obtain ⟨j0, j1, j2, j3, j4, j5, j6, j7, j8, jx, _⟩ := HN.out _ GG.out) | fail)
                      try (refine hK _ _ ?_; clear hK K)
                      refine wpAny_ready (rs := [6]) (by kernel_rfl) (by simp) ?_
                      refine AllReady.cons rfl (fun K hK => ?_) ?_
                      · go_simp
                        refine hK _ _ ?_
                        clear hK K
                        refine wpAny_ready (rs := [7]) (by kernel_rfl) (by simp) ?_
                        refine AllReady.cons rfl (fun K hK => ?_) ?_
                        · go_simp
                          refine hK _ _ ?_
                          clear hK K
                          refine wpAny_ready (rs := [8]) (by kernel_rfl) (by simp) ?_
                          refine AllReady.cons rfl (fun K hK => ?_) ?_
                          · go_simp
                            refine hK _ _ ?_
                            clear hK K
                            refine wpAny_ready (rs := [9]) (by kernel_rfl) (by simp) ?_
                            refine AllReady.cons rfl (fun K hK => ?_) ?_
                            · go_simp
                              refine hK _ _ ?_
                              clear hK K
                              refine wpAny_ready (rs := [10]) (by kernel_rfl) (by simp) ?_
                              refine AllReady.cons rfl (fun K hK => ?_) ?_
                              · go_simp
                                go_wp2_with (first | (go_at_call 39; (with_reducible refine (KD.out _).mono ?_); rintro e wn ⟨rfl, rfl⟩) | fail)
                                obtain ⟨hZ, hY, hYF, hG⟩ := HZ.out _ GG.out
                                have Z := Lib.hid hZ
                                have Y := Lib.hid hY
                                have YF := Lib.hid hYF
                                have G := Lib.hid hG
                                clear hZ hY hYF hG
                                refine leaves_cons (f := 38) (args := #[.pointer (some ⟨w.heap.size, 0, none⟩), .pointer (some ⟨w.heap.size + 1, 0, none⟩)]) (by simp) (by simp [go_sem]) ?_
                                refine (catch_panicking _ _ (by omega) _ _ _ [] _ Z.out Y.out YF.out).mono ?_
                                rintro e u' w'' ⟨rfl, rfl, rfl⟩
                                have HB := lost_bl G.out (Nat.le_refl _) (Nat.le_succ _)
                                obtain ⟨HF, hb5⟩ := lost_facts (show ¬ w.heap.size = w.heap.size + 1 by omega) Z.out Y.out
                                obtain ⟨c0, c1, c2, c3, c4, c5, c6, c7, c8⟩ := HF.cells
                                have E2 := E.out
                                clear HF Z Y YF G
                                generalize lost _ w.heap.size (w.heap.size + 1) = wl at *
                                simp [Leaves, settle, results, Try.results19, go_sem, c0, c1, c2, c3, c4, c5, c6, c7, c8, hb5, HB, E2, zoF]
                              exact AllReady.nil
                            exact AllReady.nil
                          exact AllReady.nil
                        exact AllReady.nil
                      exact AllReady.nil
                    refine AllReady.cons rfl (fun K hK => ?_) ?_
                    · go_simp
                      refine hK _ _ ?_
                      clear hK K
                      refine wpAny_ready (rs := [5, 7]) (by kernel_rfl) (by simp) ?_
                      refine AllReady.cons rfl (fun K hK => ?_) ?_
                      · go_simp
                        go_wp2_with (first | (go_at_call 29; (with_reducible refine (KB.out _).mono ?_); rintro e wn ⟨rfl, hgr⟩; replace GG := Lib.hid (Bl.trans GG.out hgr); clear hgr; obtain ⟨j0, j1, j2, j3, j4, j5, j6, j7, j8, jx, _⟩ := HN.out _ GG.out) | fail)
                        try (refine hK _ _ ?_; clear hK K)
                        refine wpAny_ready (rs := [7]) (by kernel_rfl) (by simp) ?_
                        refine AllReady.cons rfl (fun K hK => ?_) ?_
                        · go_simp
                          refine hK _ _ ?_
                          clear hK K
                          refine wpAny_ready (rs := [8]) (by kernel_rfl) (by simp) ?_
                          refine AllReady.cons rfl (fun K hK => ?_) ?_
                          · go_simp
                            refine hK _ _ ?_
                            clear hK K
                            refine wpAny_ready (rs := [9]) (by kernel_rfl) (by simp) ?_
                            refine AllReady.cons rfl (fun K hK => ?_) ?_
                            · go_simp
                              refine hK _ _ ?_
                              clear hK K
                              refine wpAny_ready (rs := [10]) (by kernel_rfl) (by simp) ?_
                              refine AllReady.cons rfl (fun K hK => ?_) ?_
                              · go_simp
                                go_wp2_with (first | (go_at_call 39; (with_reducible refine (KD.out _).mono ?_); rintro e wn ⟨rfl, rfl⟩) | fail)
                                obtain ⟨hZ, hY, hYF, hG⟩ := HZ.out _ GG.out
                                have Z := Lib.hid hZ
                                have Y := Lib.hid hY
                                have YF := Lib.hid hYF
                                have G := Lib.hid hG
                                clear hZ hY hYF hG
                                refine leaves_cons (f := 38) (args := #[.pointer (some ⟨w.heap.size, 0, none⟩), .pointer (some ⟨w.heap.size + 1, 0, none⟩)]) (by simp) (by simp [go_sem]) ?_
                                refine (catch_panicking _ _ (by omega) _ _ _ [] _ Z.out Y.out YF.out).mono ?_
                                rintro e u' w'' ⟨rfl, rfl, rfl⟩
                                have HB := lost_bl G.out (Nat.le_refl _) (Nat.le_succ _)
                                obtain ⟨HF, hb5⟩ := lost_facts (show ¬ w.heap.size = w.heap.size + 1 by omega) Z.out Y.out
                                obtain ⟨c0, c1, c2, c3, c4, c5, c6, c7, c8⟩ := HF.cells
                                have E2 := E.out
                                clear HF Z Y YF G
                                generalize lost _ w.heap.size (w.heap.size + 1) = wl at *
                                simp [Leaves, settle, results, Try.results19, go_sem, c0, c1, c2, c3, c4, c5, c6, c7, c8, hb5, HB, E2, zoF]
                              exact AllReady.nil
                            exact AllReady.nil
                          exact AllReady.nil
                        exact AllReady.nil
                      refine AllReady.cons rfl (fun K hK => ?_) ?_
                      · go_simp
                        refine hK _ _ ?_
                        clear hK K
                        refine wpAny_ready (rs := [5]) (by kernel_rfl) (by simp) ?_
                        refine AllReady.cons rfl (fun K hK => ?_) ?_
                        · go_simp
                          go_wp2_with (first | (go_at_call 29; (with_reducible refine (KB.out _).mono ?_); rintro e wn ⟨rfl, hgr⟩; replace GG := Lib.hid (Bl.trans GG.out hgr); clear hgr; obtain ⟨j0, j1, j2, j3, j4, j5, j6, j7, j8, jx, _⟩ := HN.out _ GG.out) | fail)
                          try (refine hK _ _ ?_; clear hK K)
                          refine wpAny_ready (rs := [8]) (by kernel_rfl) (by simp) ?_
                          refine AllReady.cons rfl (fun K hK => ?_) ?_
                          · go_simp
                            refine hK _ _ ?_
                            clear hK K
                            refine wpAny_ready (rs := [9]) (by kernel_rfl) (by simp) ?_
                            refine AllReady.cons rfl (fun K hK => ?_) ?_
                            · go_simp
                              refine hK _ _ ?_
                              clear hK K
                              refine wpAny_ready (rs := [10]) (by kernel_rfl) (by simp) ?_
                              refine AllReady.cons rfl (fun K hK => ?_) ?_
                              · go_simp
                                go_wp2_with (first | (go_at_call 39; (with_reducible refine (KD.out _).mono ?_); rintro e wn ⟨rfl, rfl⟩) | fail)
                                obtain ⟨hZ, hY, hYF, hG⟩ := HZ.out _ GG.out
                                have Z := Lib.hid hZ
                                have Y := Lib.hid hY
                                have YF := Lib.hid hYF
                                have G := Lib.hid hG
                                clear hZ hY hYF hG
                                refine leaves_cons (f := 38) (args := #[.pointer (some ⟨w.heap.size, 0, none⟩), .pointer (some ⟨w.heap.size + 1, 0, none⟩)]) (by simp) (by simp [go_sem]) ?_
                                refine (catch_panicking _ _ (by omega) _ _ _ [] _ Z.out Y.out YF.out).mono ?_
                                rintro e u' w'' ⟨rfl, rfl, rfl⟩
                                have HB := lost_bl G.out (Nat.le_refl _) (Nat.le_succ _)
                                obtain ⟨HF, hb5⟩ := lost_facts (show ¬ w.heap.size = w.heap.size + 1 by omega) Z.out Y.out
                                obtain ⟨c0, c1, c2, c3, c4, c5, c6, c7, c8⟩ := HF.cells
                                have E2 := E.out
                                clear HF Z Y YF G
                                generalize lost _ w.heap.size (w.heap.size + 1) = wl at *
                                simp [Leaves, settle, results, Try.results19, go_sem, c0, c1, c2, c3, c4, c5, c6, c7, c8, hb5, HB, E2, zoF]
                              exact AllReady.nil
                            exact AllReady.nil
                          exact AllReady.nil
                        exact AllReady.nil
                      exact AllReady.nil
                    exact AllReady.nil
                  refine AllReady.cons rfl (fun K hK => ?_) ?_
                  · go_simp
                    refine hK _ _ ?_
                    clear hK K
                    refine wpAny_ready (rs := [4, 7]) (by kernel_rfl) (by simp) ?_
                    refine AllReady.cons rfl (fun K hK => ?_) ?_
                    · go_simp
                      refine hK _ _ ?_
                      clear hK K
                      refine wpAny_ready (rs := [5, 7]) (by kernel_rfl) (by simp) ?_
                      refine AllReady.cons rfl (fun K hK => ?_) ?_
                      · go_simp
                        go_wp2_with (first | (go_at_call 29; (with_reducible refine (KB.out _).mono ?_); rintro e wn ⟨rfl, hgr⟩; replace GG := Lib.hid (Bl.trans GG.out hgr); clear hgr; obtain ⟨j0, j1, j2, j3, j4, j5, j6, j7, j8, jx, _⟩ := HN.out _ GG.out) | fail)
                        try (refine hK _ _ ?_; clear hK K)
                        refine wpAny_ready (rs := [7]) (by kernel_rfl) (by simp) ?_
                        refine AllReady.cons rfl (fun K hK => ?_) ?_
                        · go_simp
                          refine hK _ _ ?_
                          clear hK K
                          refine wpAny_ready (rs := [8]) (by kernel_rfl) (by simp) ?_
                          refine AllReady.cons rfl (fun K hK => ?_) ?_
                          · go_simp
                            refine hK _ _ ?_
                            clear hK K
                            refine wpAny_ready (rs := [9]) (by kernel_rfl) (by simp) ?_
                            refine AllReady.cons rfl (fun K hK => ?_) ?_
                            · go_simp
                              refine hK _ _ ?_
                              clear hK K
                              refine wpAny_ready (rs := [10]) (by kernel_rfl) (by simp) ?_
                              refine AllReady.cons rfl (fun K hK => ?_) ?_
                              · go_simp
                                go_wp2_with (first | (go_at_call 39; (with_reducible refine (KD.out _).mono ?_); rintro e wn ⟨rfl, rfl⟩) | fail)
                                obtain ⟨hZ, hY, hYF, hG⟩ := HZ.out _ GG.out
                                have Z := Lib.hid hZ
                                have Y := Lib.hid hY
                                have YF := Lib.hid hYF
                                have G := Lib.hid hG
                                clear hZ hY hYF hG
                                refine leaves_cons (f := 38) (args := #[.pointer (some ⟨w.heap.size, 0, none⟩), .pointer (some ⟨w.heap.size + 1, 0, none⟩)]) (by simp) (by simp [go_sem]) ?_
                                refine (catch_panicking _ _ (by omega) _ _ _ [] _ Z.out Y.out YF.out).mono ?_
                                rintro e u' w'' ⟨rfl, rfl, rfl⟩
                                have HB := lost_bl G.out (Nat.le_refl _) (Nat.le_succ _)
                                obtain ⟨HF, hb5⟩ := lost_facts (show ¬ w.heap.size = w.heap.size + 1 by omega) Z.out Y.out
                                obtain ⟨c0, c1, c2, c3, c4, c5, c6, c7, c8⟩ := HF.cells
                                have E2 := E.out
                                clear HF Z Y YF G
                                generalize lost _ w.heap.size (w.heap.size + 1) = wl at *
                                simp [Leaves, settle, results, Try.results19, go_sem, c0, c1, c2, c3, c4, c5, c6, c7, c8, hb5, HB, E2, zoF]
                              exact AllReady.nil
                            exact AllReady.nil
                          exact AllReady.nil
                        exact AllReady.nil
                      refine AllReady.cons rfl (fun K hK => ?_) ?_
                      · go_simp
                        refine hK _ _ ?_
                        clear hK K
                        refine wpAny_ready (rs := [5]) (by kernel_rfl) (by simp) ?_
                        refine AllReady.cons rfl (fun K hK => ?_) ?_
                        · go_simp
                          go_wp2_with (first | (go_at_call 29; (with_reducible refine (KB.out _).mono ?_); rintro e wn ⟨rfl, hgr⟩; replace GG := Lib.hid (Bl.trans GG.out hgr); clear hgr; obtain ⟨j0, j1, j2, j3, j4, j5, j6, j7, j8, jx, _⟩ := HN.out _ GG.out) | fail)
                          try (refine hK _ _ ?_; clear hK K)
                          refine wpAny_ready (rs := [8]) (by kernel_rfl) (by simp) ?_
                          refine AllReady.cons rfl (fun K hK => ?_) ?_
                          · go_simp
                            refine hK _ _ ?_
                            clear hK K
                            refine wpAny_ready (rs := [9]) (by kernel_rfl) (by simp) ?_
                            refine AllReady.cons rfl (fun K hK => ?_) ?_
                            · go_simp
                              refine hK _ _ ?_
                              clear hK K
                              refine wpAny_ready (rs := [10]) (by kernel_rfl) (by simp) ?_
                              refine AllReady.cons rfl (fun K hK => ?_) ?_
                              · go_simp
                                go_wp2_with (first | (go_at_call 39; (with_reducible refine (KD.out _).mono ?_); rintro e wn ⟨rfl, rfl⟩) | fail)
                                obtain ⟨hZ, hY, hYF, hG⟩ := HZ.out _ GG.out
                                have Z := Lib.hid hZ
                                have Y := Lib.hid hY
                                have YF := Lib.hid hYF
                                have G := Lib.hid hG
                                clear hZ hY hYF hG
                                refine leaves_cons (f := 38) (args := #[.pointer (some ⟨w.heap.size, 0, none⟩), .pointer (some ⟨w.heap.size + 1, 0, none⟩)]) (by simp) (by simp [go_sem]) ?_
                                refine (catch_panicking _ _ (by omega) _ _ _ [] _ Z.out Y.out YF.out).mono ?_
                                rintro e u' w'' ⟨rfl, rfl, rfl⟩
                                have HB := lost_bl G.out (Nat.le_refl _) (Nat.le_succ _)
                                obtain ⟨HF, hb5⟩ := lost_facts (show ¬ w.heap.size = w.heap.size + 1 by omega) Z.out Y.out
                                obtain ⟨c0, c1, c2, c3, c4, c5, c6, c7, c8⟩ := HF.cells
                                have E2 := E.out
                                clear HF Z Y YF G
                                generalize lost _ w.heap.size (w.heap.size + 1) = wl at *
                                simp [Leaves, settle, results, Try.results19, go_sem, c0, c1, c2, c3, c4, c5, c6, c7, c8, hb5, HB, E2, zoF]
                              exact AllReady.nil
                            exact AllReady.nil
                          exact AllReady.nil
                        exact AllReady.nil
                      exact AllReady.nil
                    refine AllReady.cons rfl (fun K hK => ?_) ?_
                    · go_simp
                      refine hK _ _ ?_
                      clear hK K
                      refine wpAny_ready (rs := [4]) (by kernel_rfl) (by simp) ?_
                      refine AllReady.cons rfl (fun K hK => ?_) ?_
                      · go_simp
                        refine hK _ _ ?_
                        clear hK K
                        refine wpAny_ready (rs := [5]) (by kernel_rfl) (by simp) ?_
                        refine AllReady.cons rfl (fun K hK => ?_) ?_
                        · go_simp
                          go_wp2_with (first | (go_at_call 29; (with_reducible refine (KB.out _).mono ?_); rintro e wn ⟨rfl, hgr⟩; replace GG := Lib.hid (Bl.trans GG.out hgr); clear hgr; obtain ⟨j0, j1, j2, j3, j4, j5, j6, j7, j8, jx, _⟩ := HN.out _ GG.out) | fail)
                          try (refine hK _ _ ?_; clear hK K)
                          refine wpAny_ready (rs := [8]) (by kernel_rfl) (by simp) ?_
                          refine AllReady.cons rfl (fun K hK => ?_) ?_
                          · go_simp
                            refine hK _ _ ?_
                            clear hK K
                            refine wpAny_ready (rs := [9]) (by kernel_rfl) (by simp) ?_
                            refine AllReady.cons rfl (fun K hK => ?_) ?_
                            · go_simp
                              refine hK _ _ ?_
                              clear hK K
                              refine wpAny_ready (rs := [10]) (by kernel_rfl) (by simp) ?_
                              refine AllReady.cons rfl (fun K hK => ?_) ?_
                              · go_simp
                                go_wp2_with (first | (go_at_call 39; (with_reducible refine (KD.out _).mono ?_); rintro e wn ⟨rfl, rfl⟩) | fail)
                                obtain ⟨hZ, hY, hYF, hG⟩ := HZ.out _ GG.out
                                have Z := Lib.hid hZ
                                have Y := Lib.hid hY
                                have YF := Lib.hid hYF
                                have G := Lib.hid hG
                                clear hZ hY hYF hG
                                refine leaves_cons (f := 38) (args := #[.pointer (some ⟨w.heap.size, 0, none⟩), .pointer (some ⟨w.heap.size + 1, 0, none⟩)]) (by simp) (by simp [go_sem]) ?_
                                refine (catch_panicking _ _ (by omega) _ _ _ [] _ Z.out Y.out YF.out).mono ?_
                                rintro e u' w'' ⟨rfl, rfl, rfl⟩
                                have HB := lost_bl G.out (Nat.le_refl _) (Nat.le_succ _)
                                obtain ⟨HF, hb5⟩ := lost_facts (show ¬ w.heap.size = w.heap.size + 1 by omega) Z.out Y.out
                                obtain ⟨c0, c1, c2, c3, c4, c5, c6, c7, c8⟩ := HF.cells
                                have E2 := E.out
                                clear HF Z Y YF G
                                generalize lost _ w.heap.size (w.heap.size + 1) = wl at *
                                simp [Leaves, settle, results, Try.results19, go_sem, c0, c1, c2, c3, c4, c5, c6, c7, c8, hb5, HB, E2, zoF]
                              exact AllReady.nil
                            exact AllReady.nil
                          exact AllReady.nil
                        exact AllReady.nil
                      exact AllReady.nil
                    exact AllReady.nil
                  exact AllReady.nil
                exact AllReady.nil
              exact AllReady.nil
            exact AllReady.nil
          exact AllReady.nil
      · have E := Lib.hid (deR_no (dec_bad hp hok))
        have KC := Lib.hid (fun w => check_v (chE_f hok) w)
        unfold Fr.v at *
        clear hok
        generalize bef s = u at *
        refine wp_region_any (by kernel_rfl) ?_
        try (change wpAny _ _ _ _ _ _ _ (World.drew _))
        obtain ⟨c0, c1, c2, c3, c4, c5, c6, c7, c8, cx, _⟩ := HN.out _ (Bl.refl v)
        refine wpAny_ready (rs := [0]) (by kernel_rfl) (by simp) ?_
        refine AllReady.cons rfl (fun K hK => ?_) ?_
        · go_simp
          refine hK _ _ ?_
          clear hK K
          refine wpAny_ready (rs := [1]) (by kernel_rfl) (by simp) ?_
          refine AllReady.cons rfl (fun K hK => ?_) ?_
          · go_simp
            go_wp2_with (first | (go_at_call 15; (with_reducible refine (KC.out _).mono ?_); rintro e wn ⟨rfl, hgr⟩; have GG := Lib.hid (Bl.trans (Bl.drew (Bl.refl v)) hgr); clear hgr; obtain ⟨k0, k1, k2, k3, k4, k5, k6, k7, k8, kx, _⟩ := HN.out _ GG.out) | fail)
            try (refine hK _ _ ?_; clear hK K)
            refine wpAny_ready (rs := [2]) (by kernel_rfl) (by simp) ?_
            refine AllReady.cons rfl (fun K hK => ?_) ?_
            · go_simp
              refine hK _ _ ?_
              clear hK K
              refine wpAny_ready (rs := [3]) (by kernel_rfl) (by simp) ?_
              refine AllReady.cons rfl (fun K hK => ?_) ?_
              · go_simp
                refine hK _ _ ?_
                clear hK K
                refine wpAny_ready (rs := [4, 6]) (by kernel_rfl) (by simp) ?_
                refine AllReady.cons rfl (fun K hK => ?_) ?_
                · go_simp
                  refine hK _ _ ?_
                  clear hK K
                  refine wpAny_ready (rs := [5, 6]) (by kernel_rfl) (by simp) ?_
                  refine AllReady.cons rfl (fun K hK => ?_) ?_
                  · go_simp
                    refine hK _ _ ?_
                    clear hK K
                    refine wpAny_ready (rs := [6]) (by kernel_rfl) (by simp) ?_
                    refine AllReady.cons rfl (fun K hK => ?_) ?_
                    · go_simp
                      refine hK _ _ ?_
                      clear hK K
                      refine wpAny_ready (rs := [7]) (by kernel_rfl) (by simp) ?_
                      refine AllReady.cons rfl (fun K hK => ?_) ?_
                      · go_simp
                        refine hK _ _ ?_
                        clear hK K
                        refine wpAny_ready (rs := [8]) (by kernel_rfl) (by simp) ?_
                        refine AllReady.cons rfl (fun K hK => ?_) ?_
                        · go_simp
                          refine hK _ _ ?_
                          clear hK K
                          refine wpAny_ready (rs := [9]) (by kernel_rfl) (by simp) ?_
                          refine AllReady.cons rfl (fun K hK => ?_) ?_
                          · go_simp
                            refine hK _ _ ?_
                            clear hK K
                            refine wpAny_ready (rs := [10]) (by kernel_rfl) (by simp) ?_
                            refine AllReady.cons rfl (fun K hK => ?_) ?_
                            · go_simp
                              go_wp2_with (first | (go_at_call 39; (with_reducible refine (KD.out _).mono ?_); rintro e wn ⟨rfl, rfl⟩) | fail)
                              obtain ⟨hZ, hY, hYF, hG⟩ := HZ.out _ GG.out
                              have Z := Lib.hid hZ
                              have Y := Lib.hid hY
                              have YF := Lib.hid hYF
                              have G := Lib.hid hG
                              clear hZ hY hYF hG
                              refine leaves_cons (f := 38) (args := #[.pointer (some ⟨w.heap.size, 0, none⟩), .pointer (some ⟨w.heap.size + 1, 0, none⟩)]) (by simp) (by simp [go_sem]) ?_
                              refine (catch_panicking _ _ (by omega) _ _ _ [] _ Z.out Y.out YF.out).mono ?_
                              rintro e u' w'' ⟨rfl, rfl, rfl⟩
                              have HB := lost_bl G.out (Nat.le_refl _) (Nat.le_succ _)
                              obtain ⟨HF, hb5⟩ := lost_facts (show ¬ w.heap.size = w.heap.size + 1 by omega) Z.out Y.out
                              obtain ⟨c0, c1, c2, c3, c4, c5, c6, c7, c8⟩ := HF.cells
                              have E2 := E.out
                              clear HF Z Y YF G
                              generalize lost _ w.heap.size (w.heap.size + 1) = wl at *
                              simp [Leaves, settle, results, Try.results19, go_sem, c0, c1, c2, c3, c4, c5, c6, c7, c8, hb5, HB, E2, zoF]
                            exact AllReady.nil
                          exact AllReady.nil
                        exact AllReady.nil
                      exact AllReady.nil
                    exact AllReady.nil
                  refine AllReady.cons rfl (fun K hK => ?_) ?_
                  · go_simp
                    refine hK _ _ ?_
                    clear hK K
                    refine wpAny_ready (rs := [5, 7]) (by kernel_rfl) (by simp) ?_
                    refine AllReady.cons rfl (fun K hK => ?_) ?_
                    · go_simp
                      refine hK _ _ ?_
                      clear hK K
                      refine wpAny_ready (rs := [7]) (by kernel_rfl) (by simp) ?_
                      refine AllReady.cons rfl (fun K hK => ?_) ?_
                      · go_simp
                        refine hK _ _ ?_
                        clear hK K
                        refine wpAny_ready (rs := [8]) (by kernel_rfl) (by simp) ?_
                        refine AllReady.cons rfl (fun K hK => ?_) ?_
                        · go_simp
                          refine hK _ _ ?_
                          clear hK K
                          refine wpAny_ready (rs := [9]) (by kernel_rfl) (by simp) ?_
                          refine AllReady.cons rfl (fun K hK => ?_) ?_
                          · go_simp
                            refine hK _ _ ?_
                            clear hK K
                            refine wpAny_ready (rs := [10]) (by kernel_rfl) (by simp) ?_
                            refine AllReady.cons rfl (fun K hK => ?_) ?_
                            · go_simp
                              go_wp2_with (first | (go_at_call 39; (with_reducible refine (KD.out _).mono ?_); rintro e wn ⟨rfl, rfl⟩) | fail)
                              obtain ⟨hZ, hY, hYF, hG⟩ := HZ.out _ GG.out
                              have Z := Lib.hid hZ
                              have Y := Lib.hid hY
                              have YF := Lib.hid hYF
                              have G := Lib.hid hG
                              clear hZ hY hYF hG
                              refine leaves_cons (f := 38) (args := #[.pointer (some ⟨w.heap.size, 0, none⟩), .pointer (some ⟨w.heap.size + 1, 0, none⟩)]) (by simp) (by simp [go_sem]) ?_
                              refine (catch_panicking _ _ (by omega) _ _ _ [] _ Z.out Y.out YF.out).mono ?_
                              rintro e u' w'' ⟨rfl, rfl, rfl⟩
                              have HB := lost_bl G.out (Nat.le_refl _) (Nat.le_succ _)
                              obtain ⟨HF, hb5⟩ := lost_facts (show ¬ w.heap.size = w.heap.size + 1 by omega) Z.out Y.out
                              obtain ⟨c0, c1, c2, c3, c4, c5, c6, c7, c8⟩ := HF.cells
                              have E2 := E.out
                              clear HF Z Y YF G
                              generalize lost _ w.heap.size (w.heap.size + 1) = wl at *
                              simp [Leaves, settle, results, Try.results19, go_sem, c0, c1, c2, c3, c4, c5, c6, c7, c8, hb5, HB, E2, zoF]
                            exact AllReady.nil
                          exact AllReady.nil
                        exact AllReady.nil
                      exact AllReady.nil
                    refine AllReady.cons rfl (fun K hK => ?_) ?_
                    · go_simp
                      refine hK _ _ ?_
                      clear hK K
                      refine wpAny_ready (rs := [5]) (by kernel_rfl) (by simp) ?_
                      refine AllReady.cons rfl (fun K hK => ?_) ?_
                      · go_simp
                        refine hK _ _ ?_
                        clear hK K
                        refine wpAny_ready (rs := [8]) (by kernel_rfl) (by simp) ?_
                        refine AllReady.cons rfl (fun K hK => ?_) ?_
                        · go_simp
                          refine hK _ _ ?_
                          clear hK K
                          refine wpAny_ready (rs := [9]) (by kernel_rfl) (by simp) ?_
                          refine AllReady.cons rfl (fun K hK => ?_) ?_
                          · go_simp
                            refine hK _ _ ?_
                            clear hK K
                            refine wpAny_ready (rs := [10]) (by kernel_rfl) (by simp) ?_
                            refine AllReady.cons rfl (fun K hK => ?_) ?_
                            · go_simp
                              go_wp2_with (first | (go_at_call 39; (with_reducible refine (KD.out _).mono ?_); rintro e wn ⟨rfl, rfl⟩) | fail)
                              obtain ⟨hZ, hY, hYF, hG⟩ := HZ.out _ GG.out
                              have Z := Lib.hid hZ
                              have Y := Lib.hid hY
                              have YF := Lib.hid hYF
                              have G := Lib.hid hG
                              clear hZ hY hYF hG
                              refine leaves_cons (f := 38) (args := #[.pointer (some ⟨w.heap.size, 0, none⟩), .pointer (some ⟨w.heap.size + 1, 0, none⟩)]) (by simp) (by simp [go_sem]) ?_
                              refine (catch_panicking _ _ (by omega) _ _ _ [] _ Z.out Y.out YF.out).mono ?_
                              rintro e u' w'' ⟨rfl, rfl, rfl⟩
                              have HB := lost_bl G.out (Nat.le_refl _) (Nat.le_succ _)
                              obtain ⟨HF, hb5⟩ := lost_facts (show ¬ w.heap.size = w.heap.size + 1 by omega) Z.out Y.out
                              obtain ⟨c0, c1, c2, c3, c4, c5, c6, c7, c8⟩ := HF.cells
                              have E2 := E.out
                              clear HF Z Y YF G
                              generalize lost _ w.heap.size (w.heap.size + 1) = wl at *
                              simp [Leaves, settle, results, Try.results19, go_sem, c0, c1, c2, c3, c4, c5, c6, c7, c8, hb5, HB, E2, zoF]
                            exact AllReady.nil
                          exact AllReady.nil
                        exact AllReady.nil
                      exact AllReady.nil
                    exact AllReady.nil
                  exact AllReady.nil
                refine AllReady.cons rfl (fun K hK => ?_) ?_
                · go_simp
                  refine hK _ _ ?_
                  clear hK K
                  refine wpAny_ready (rs := [4, 7]) (by kernel_rfl) (by simp) ?_
                  refine AllReady.cons rfl (fun K hK => ?_) ?_
                  · go_simp
                    refine hK _ _ ?_
                    clear hK K
                    refine wpAny_ready (rs := [5, 7]) (by kernel_rfl) (by simp) ?_
                    refine AllReady.cons rfl (fun K hK => ?_) ?_
                    · go_simp
                      refine hK _ _ ?_
                      clear hK K
                      refine wpAny_ready (rs := [7]) (by kernel_rfl) (by simp) ?_
                      refine AllReady.cons rfl (fun K hK => ?_) ?_
                      · go_simp
                        refine hK _ _ ?_
                        clear hK K
                        refine wpAny_ready (rs := [8]) (by kernel_rfl) (by simp) ?_
                        refine AllReady.cons rfl (fun K hK => ?_) ?_
                        · go_simp
                          refine hK _ _ ?_
                          clear hK K
                          refine wpAny_ready (rs := [9]) (by kernel_rfl) (by simp) ?_
                          refine AllReady.cons rfl (fun K hK => ?_) ?_
                          · go_simp
                            refine hK _ _ ?_
                            clear hK K
                            refine wpAny_ready (rs := [10]) (by kernel_rfl) (by simp) ?_
                            refine AllReady.cons rfl (fun K hK => ?_) ?_
                            · go_simp
                              go_wp2_with (first | (go_at_call 39; (with_reducible refine (KD.out _).mono ?_); rintro e wn ⟨rfl, rfl⟩) | fail)
                              obtain ⟨hZ, hY, hYF, hG⟩ := HZ.out _ GG.out
                              have Z := Lib.hid hZ
                              have Y := Lib.hid hY
                              have YF := Lib.hid hYF
                              have G := Lib.hid hG
                              clear hZ hY hYF hG
                              refine leaves_cons (f := 38) (args := #[.pointer (some ⟨w.heap.size, 0, none⟩), .pointer (some ⟨w.heap.size + 1, 0, none⟩)]) (by simp) (by simp [go_sem]) ?_
                              refine (catch_panicking _ _ (by omega) _ _ _ [] _ Z.out Y.out YF.out).mono ?_
                              rintro e u' w'' ⟨rfl, rfl, rfl⟩
                              have HB := lost_bl G.out (Nat.le_refl _) (Nat.le_succ _)
                              obtain ⟨HF, hb5⟩ := lost_facts (show ¬ w.heap.size = w.heap.size + 1 by omega) Z.out Y.out
                              obtain ⟨c0, c1, c2, c3, c4, c5, c6, c7, c8⟩ := HF.cells
                              have E2 := E.out
                              clear HF Z Y YF G
                              generalize lost _ w.heap.size (w.heap.size + 1) = wl at *
                              simp [Leaves, settle, results, Try.results19, go_sem, c0, c1, c2, c3, c4, c5, c6, c7, c8, hb5, HB, E2, zoF]
                            exact AllReady.nil
                          exact AllReady.nil
                        exact AllReady.nil
                      exact AllReady.nil
                    refine AllReady.cons rfl (fun K hK => ?_) ?_
                    · go_simp
                      refine hK _ _ ?_
                      clear hK K
                      refine wpAny_ready (rs := [5]) (by kernel_rfl) (by simp) ?_
                      refine AllReady.cons rfl (fun K hK => ?_) ?_
                      · go_simp
                        refine hK _ _ ?_
                        clear hK K
                        refine wpAny_ready (rs := [8]) (by kernel_rfl) (by simp) ?_
                        refine AllReady.cons rfl (fun K hK => ?_) ?_
                        · go_simp
                          refine hK _ _ ?_
                          clear hK K
                          refine wpAny_ready (rs := [9]) (by kernel_rfl) (by simp) ?_
                          refine AllReady.cons rfl (fun K hK => ?_) ?_
                          · go_simp
                            refine hK _ _ ?_
                            clear hK K
                            refine wpAny_ready (rs := [10]) (by kernel_rfl) (by simp) ?_
                            refine AllReady.cons rfl (fun K hK => ?_) ?_
                            · go_simp
                              go_wp2_with (first | (go_at_call 39; (with_reducible refine (KD.out _).mono ?_); rintro e wn ⟨rfl, rfl⟩) | fail)
                              obtain ⟨hZ, hY, hYF, hG⟩ := HZ.out _ GG.out
                              have Z := Lib.hid hZ
                              have Y := Lib.hid hY
                              have YF := Lib.hid hYF
                              have G := Lib.hid hG
                              clear hZ hY hYF hG
                              refine leaves_cons (f := 38) (args := #[.pointer (some ⟨w.heap.size, 0, none⟩), .pointer (some ⟨w.heap.size + 1, 0, none⟩)]) (by simp) (by simp [go_sem]) ?_
                              refine (catch_panicking _ _ (by omega) _ _ _ [] _ Z.out Y.out YF.out).mono ?_
                              rintro e u' w'' ⟨rfl, rfl, rfl⟩
                              have HB := lost_bl G.out (Nat.le_refl _) (Nat.le_succ _)
                              obtain ⟨HF, hb5⟩ := lost_facts (show ¬ w.heap.size = w.heap.size + 1 by omega) Z.out Y.out
                              obtain ⟨c0, c1, c2, c3, c4, c5, c6, c7, c8⟩ := HF.cells
                              have E2 := E.out
                              clear HF Z Y YF G
                              generalize lost _ w.heap.size (w.heap.size + 1) = wl at *
                              simp [Leaves, settle, results, Try.results19, go_sem, c0, c1, c2, c3, c4, c5, c6, c7, c8, hb5, HB, E2, zoF]
                            exact AllReady.nil
                          exact AllReady.nil
                        exact AllReady.nil
                      exact AllReady.nil
                    exact AllReady.nil
                  refine AllReady.cons rfl (fun K hK => ?_) ?_
                  · go_simp
                    refine hK _ _ ?_
                    clear hK K
                    refine wpAny_ready (rs := [4]) (by kernel_rfl) (by simp) ?_
                    refine AllReady.cons rfl (fun K hK => ?_) ?_
                    · go_simp
                      refine hK _ _ ?_
                      clear hK K
                      refine wpAny_ready (rs := [5]) (by kernel_rfl) (by simp) ?_
                      refine AllReady.cons rfl (fun K hK => ?_) ?_
                      · go_simp
                        refine hK _ _ ?_
                        clear hK K
                        refine wpAny_ready (rs := [8]) (by kernel_rfl) (by simp) ?_
                        refine AllReady.cons rfl (fun K hK => ?_) ?_
                        · go_simp
                          refine hK _ _ ?_
                          clear hK K
                          refine wpAny_ready (rs := [9]) (by kernel_rfl) (by simp) ?_
                          refine AllReady.cons rfl (fun K hK => ?_) ?_
                          · go_simp
                            refine hK _ _ ?_
                            clear hK K
                            refine wpAny_ready (rs := [10]) (by kernel_rfl) (by simp) ?_
                            refine AllReady.cons rfl (fun K hK => ?_) ?_
                            · go_simp
                              go_wp2_with (first | (go_at_call 39; (with_reducible refine (KD.out _).mono ?_); rintro e wn ⟨rfl, rfl⟩) | fail)
                              obtain ⟨hZ, hY, hYF, hG⟩ := HZ.out _ GG.out
                              have Z := Lib.hid hZ
                              have Y := Lib.hid hY
                              have YF := Lib.hid hYF
                              have G := Lib.hid hG
                              clear hZ hY hYF hG
                              refine leaves_cons (f := 38) (args := #[.pointer (some ⟨w.heap.size, 0, none⟩), .pointer (some ⟨w.heap.size + 1, 0, none⟩)]) (by simp) (by simp [go_sem]) ?_
                              refine (catch_panicking _ _ (by omega) _ _ _ [] _ Z.out Y.out YF.out).mono ?_
                              rintro e u' w'' ⟨rfl, rfl, rfl⟩
                              have HB := lost_bl G.out (Nat.le_refl _) (Nat.le_succ _)
                              obtain ⟨HF, hb5⟩ := lost_facts (show ¬ w.heap.size = w.heap.size + 1 by omega) Z.out Y.out
                              obtain ⟨c0, c1, c2, c3, c4, c5, c6, c7, c8⟩ := HF.cells
                              have E2 := E.out
                              clear HF Z Y YF G
                              generalize lost _ w.heap.size (w.heap.size + 1) = wl at *
                              simp [Leaves, settle, results, Try.results19, go_sem, c0, c1, c2, c3, c4, c5, c6, c7, c8, hb5, HB, E2, zoF]
                            exact AllReady.nil
                          exact AllReady.nil
                        exact AllReady.nil
                      exact AllReady.nil
                    exact AllReady.nil
                  exact AllReady.nil
                exact AllReady.nil
              exact AllReady.nil
            exact AllReady.nil
          exact AllReady.nil
        exact AllReady.nil
  · rw [hc] at KG
    have E := Lib.hid (deR_no (dec_chk hc))
    clear KT hc
    go_enter_defers Try.func19, Try.ntmps19
    go_wp2_with fail
    refine (KG.out _).mono ?_; rintro e w1 ⟨rfl, gr⟩
    replace Z := Lib.hid (Z.out.go (Only.of (b := w.heap.size + 1) gr) (by omega))
    replace Y := Lib.hid ((gr.cell (p := ⟨w.heap.size + 1, 0, none⟩) hsz).trans Y.out)
    replace YF := Lib.hid ((gr.frozen (p := ⟨w.heap.size + 1, 0, none⟩) hsz).trans YF.out)
    replace G := Lib.hid (Bl.trans G.out gr)
    replace hsz := Nat.lt_of_lt_of_le hsz gr.size
    clear gr
    go_wp2_with fail
    refine (KD.out _).mono ?_; rintro e wn ⟨rfl, rfl⟩
    go_wp2_with fail
    refine leaves_cons (f := 38) (args := #[.pointer (some ⟨w.heap.size, 0, none⟩), .pointer (some ⟨w.heap.size + 1, 0, none⟩)]) (by simp) (by simp [go_sem]) ?_
    refine (catch_panicking _ _ (by omega) _ _ _ [] _ Z.out Y.out YF.out).mono ?_
    rintro e u' w'' ⟨rfl, rfl, rfl⟩
    have HB := lost_bl G.out (Nat.le_refl _) (Nat.le_succ _)
    obtain ⟨HF, hb5⟩ := lost_facts (show ¬ w.heap.size = w.heap.size + 1 by omega) Z.out Y.out
    obtain ⟨c0, c1, c2, c3, c4, c5, c6, c7, c8⟩ := HF.cells
    have E2 := E.out
    clear HF Z Y YF G
    generalize lost _ w.heap.size (w.heap.size + 1) = wl at *
    simp [Leaves, settle, results, Try.results19, go_sem, c0, c1, c2, c3, c4, c5, c6, c7, c8, hb5, HB, E2, zoF]

end Go.Proofs.Ytmhdgpmlconngaa
