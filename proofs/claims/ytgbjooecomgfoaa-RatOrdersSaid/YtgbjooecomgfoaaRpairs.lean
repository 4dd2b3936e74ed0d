/-
  What pairs of the statements' package returns: two fractions as they are, two valid ones, and one of each.
-/
import Derived.Test.YtgbjooecomgfoaaRr
import Derived.Deep.RegionHeld3
import Derived.Deep.DeepCutAuto
import Derived.Deep.CutBlock
namespace Go.Proofs.Ytgbjooecomgfoaa
open Go.RowKit

/-- A new block of two zeros at B. -/
structure NewAt (B : Nat) (w : World) : Prop where
  lt : B < w.heap.size
  c0 : w.cell? ⟨B, 0, none⟩ = some (.int .i64 0)
  c1 : w.cell? ⟨B, 1, none⟩ = some (.int .i64 0)
  f0 : w.frozen? ⟨B, 0, none⟩ = false
  f1 : w.frozen? ⟨B, 1, none⟩ = false
theorem NewAt.go {B : Nat} {w w' : World} (h : NewAt B w) (g : Grown w w') : NewAt B w' :=
  ⟨Nat.lt_of_lt_of_le h.lt g.2.2, (grown_cell g (p := ⟨B, 0, none⟩) h.lt).trans h.c0, (grown_cell g (p := ⟨B, 1, none⟩) h.lt).trans h.c1, (g.2.1 _).trans h.f0, (g.2.1 _).trans h.f1⟩
theorem newcell {w w' : World} {t : TypeId} (g : Grown (w.alloc (.cells #[.int .i64 0, .int .i64 0] t)) w') : NewAt w.heap.size w' :=
  NewAt.go ⟨by simp, by simp [go_sem], by simp [go_sem], by simp [go_sem], by simp [go_sem]⟩ g
theorem newcells {w w' : World} {t u : TypeId} (g : Grown ((w.alloc (.cells #[.int .i64 0, .int .i64 0] t)).alloc (.cells #[.int .i64 0, .int .i64 0] u)) w') : NewAt w.heap.size w' ∧ NewAt (w.heap.size + 1) w' := by
  constructor
  · exact newcell (t := t) (grown_trans ((Grown.refl _).alloc _ _) g)
  · have := newcell g
    have e : (w.alloc (.cells #[.int .i64 0, .int .i64 0] t)).heap.size = w.heap.size + 1 := by simp
    rw [e] at this
    exact this
theorem newcellD {w w' : World} {t : TypeId} (g : Grown (w.alloc (.cells #[.int .i64 0, .int .i64 0] t)).drew w') : NewAt w.heap.size w' := newcell (t := t) g
theorem newcellsD {w w' : World} {t u : TypeId} (g : Grown ((w.alloc (.cells #[.int .i64 0, .int .i64 0] t)).alloc (.cells #[.int .i64 0, .int .i64 0] u)).drew w') : NewAt w.heap.size w' ∧ NewAt (w.heap.size + 1) w' := newcells (t := t) (u := u) g

/-- The cells of two fractions. -/
abbrev Two (A B : Nat) (a b c d : Int) (W w : World) : Prop := w.cell? ⟨A, 0, none⟩ = some (.int .i64 a) ∧ w.cell? ⟨A, 1, none⟩ = some (.int .i64 b) ∧ w.cell? ⟨B, 0, none⟩ = some (.int .i64 c) ∧ w.cell? ⟨B, 1, none⟩ = some (.int .i64 d) ∧ Grown W w
theorem two_step {A B : Nat} {a b c d : Int} {W w w' : World} (h : Two A B a b c d W w) (hA : Hid (A < W.heap.size)) (hB : Hid (B < W.heap.size)) (g : Grown w w') : Two A B a b c d W w' :=
  ⟨(grown_cell g (p := ⟨A, 0, none⟩) (Nat.lt_of_lt_of_le hA.out h.2.2.2.2.2.2)).trans h.1, (grown_cell g (p := ⟨A, 1, none⟩) (Nat.lt_of_lt_of_le hA.out h.2.2.2.2.2.2)).trans h.2.1,
   (grown_cell g (p := ⟨B, 0, none⟩) (Nat.lt_of_lt_of_le hB.out h.2.2.2.2.2.2)).trans h.2.2.1, (grown_cell g (p := ⟨B, 1, none⟩) (Nat.lt_of_lt_of_le hB.out h.2.2.2.2.2.2)).trans h.2.2.2.1, grown_trans h.2.2.2.2 g⟩
theorem two_set {A B C : Nat} {a b c d : Int} {W w : World} {x y : Value} (h : Two A B a b c d W w) (hA : Hid (A < W.heap.size)) (hB : Hid (B < W.heap.size)) (hC : W.heap.size ≤ C) :
    Two A B a b c d W ((w.setCell ⟨C, 0, none⟩ x).setCell ⟨C, 1, none⟩ y) := by
  have n1 : C ≠ A := Nat.ne_of_gt (Nat.lt_of_lt_of_le hA.out hC)
  have n2 : C ≠ B := Nat.ne_of_gt (Nat.lt_of_lt_of_le hB.out hC)
  obtain ⟨h1, h2, h3, h4, h5⟩ := h
  refine ⟨?_, ?_, ?_, ?_, (h5.setCell hC _).setCell hC _⟩
  · rw [World.cell?_setCell_far _ _ _ _ n1, World.cell?_setCell_far _ _ _ _ n1]; exact h1
  · rw [World.cell?_setCell_far _ _ _ _ n1, World.cell?_setCell_far _ _ _ _ n1]; exact h2
  · rw [World.cell?_setCell_far _ _ _ _ n2, World.cell?_setCell_far _ _ _ _ n2]; exact h3
  · rw [World.cell?_setCell_far _ _ _ _ n2, World.cell?_setCell_far _ _ _ _ n2]; exact h4
theorem two_alloc {A B : Nat} {a b c d : Int} {W w : World} (hA : Hid (A < W.heap.size)) (hB : Hid (B < W.heap.size)) (h : Two A B a b c d W w) (x : Array Value) (t : TypeId) : Two A B a b c d W (w.alloc (.cells x t)) := two_step h hA hB ((Grown.refl w).alloc x t)
theorem two_drew {A B : Nat} {a b c d : Int} {W w : World} (h : Two A B a b c d W w) : Two A B a b c d W w.drew := h
theorem two_one {A B : Nat} {a b c d : Int} {W w : World} {C : Addr} {x : Value} (hA : Hid (A < W.heap.size)) (hB : Hid (B < W.heap.size)) (h : Two A B a b c d W w) (hC : W.heap.size ≤ C.block) :
    Two A B a b c d W (w.setCell C x) := by
  have n1 : C.block ≠ A := Nat.ne_of_gt (Nat.lt_of_lt_of_le hA.out hC)
  have n2 : C.block ≠ B := Nat.ne_of_gt (Nat.lt_of_lt_of_le hB.out hC)
  obtain ⟨h1, h2, h3, h4, h5⟩ := h
  refine ⟨?_, ?_, ?_, ?_, h5.setCell hC _⟩
  · rw [World.cell?_setCell_far _ _ _ _ n1]; exact h1
  · rw [World.cell?_setCell_far _ _ _ _ n1]; exact h2
  · rw [World.cell?_setCell_far _ _ _ _ n2]; exact h3
  · rw [World.cell?_setCell_far _ _ _ _ n2]; exact h4
theorem two_base {A B : Nat} {a b c d : Int} {W : World} (h : Hid (Two A B a b c d W W)) : Two A B a b c d W W.drew := h.out

theorem keep4_step {w w1 w2 : World} {a b c d : Addr} {u v x y : Value} (h : w1.cell? a = some u ∧ w1.cell? b = some v ∧ w1.cell? c = some x ∧ w1.cell? d = some y ∧ Grown w w1) (ha : Hid (a.block < w.heap.size)) (hb : Hid (b.block < w.heap.size)) (hc : Hid (c.block < w.heap.size)) (hd : Hid (d.block < w.heap.size)) (g : Grown w1 w2) :
    w2.cell? a = some u ∧ w2.cell? b = some v ∧ w2.cell? c = some x ∧ w2.cell? d = some y ∧ Grown w w2 :=
  ⟨(grown_cell g (Nat.lt_of_lt_of_le ha.out h.2.2.2.2.2.2)).trans h.1, (grown_cell g (Nat.lt_of_lt_of_le hb.out h.2.2.2.2.2.2)).trans h.2.1, (grown_cell g (Nat.lt_of_lt_of_le hc.out h.2.2.2.2.2.2)).trans h.2.2.1, (grown_cell g (Nat.lt_of_lt_of_le hd.out h.2.2.2.2.2.2)).trans h.2.2.2.1, grown_trans h.2.2.2.2 g⟩
/-- What the first statement of pairs leaves: two new blocks with the two valid fractions. -/
def Made (W : World) (x1 x2 y1 y2 : Int) (s5 s6 : Value) (wx : World) : Prop := ∃ B5 B6 : Nat, s5 = .pointer (some ⟨B5, 0, none⟩) ∧ s6 = .pointer (some ⟨B6, 0, none⟩) ∧
  wx.cell? ⟨B5, 0, none⟩ = some (.int .i64 x1) ∧ wx.cell? ⟨B5, 1, none⟩ = some (.int .i64 x2) ∧ wx.cell? ⟨B6, 0, none⟩ = some (.int .i64 y1) ∧ wx.cell? ⟨B6, 1, none⟩ = some (.int .i64 y2) ∧ Grown W wx

set_option maxRecDepth 100000 in
set_option maxHeartbeats 8000000 in
theorem pairs_any (a b c d : Int) (w : World) (fa : fits a) (fc : fits c) :
    Calls Try.prog 15 #[.agg #[.int .i64 a, .int .i64 b], .agg #[.int .i64 c, .int .i64 d]] w fun e w' =>
      e = .returned (.agg #[.int .i64 a, .int .i64 b, .int .i64 c, .int .i64 d, .int .i64 (ofN a b), .int .i64 (ofD a b), .int .i64 (ofN c d), .int .i64 (ofD c d), .int .i64 a, .int .i64 b, .int .i64 (ofN c d), .int .i64 (ofD c d), .int .i64 (ofN a b), .int .i64 (ofD a b), .int .i64 (ofN a b), .int .i64 (ofD a b)]) ∧ Grown w w' := by
  have H1 := Lib.hid (fun w => rof_any a b w fa)
  have H2 := Lib.hid (fun w => rof_any c d w fc)
  clear fa fc
  generalize ofN a b = x1 at *
  generalize ofD a b = x2 at *
  generalize ofN c d = y1 at *
  generalize ofD c d = y2 at *
  go_enter Try.func15, Try.ntmps15
  go_wp2_with fail
  have HT0 : Hid (Two w.heap.size (w.heap.size + 1) a b c d (((w.alloc (.cells #[.int .i64 a, .int .i64 b] 23)).alloc (.cells #[.int .i64 c, .int .i64 d] 23)).alloc (.cells #[.int .i64 0, .int .i64 0, .int .i64 0, .int .i64 0, .int .i64 0, .int .i64 0, .int .i64 0, .int .i64 0, .int .i64 0, .int .i64 0, .int .i64 0, .int .i64 0, .int .i64 0, .int .i64 0, .int .i64 0, .int .i64 0] 34)) (((w.alloc (.cells #[.int .i64 a, .int .i64 b] 23)).alloc (.cells #[.int .i64 c, .int .i64 d] 23)).alloc (.cells #[.int .i64 0, .int .i64 0, .int .i64 0, .int .i64 0, .int .i64 0, .int .i64 0, .int .i64 0, .int .i64 0, .int .i64 0, .int .i64 0, .int .i64 0, .int .i64 0, .int .i64 0, .int .i64 0, .int .i64 0, .int .i64 0] 34))) := ⟨by simp [go_sem], by simp [go_sem], by simp [go_sem], by simp [go_sem], Grown.refl _⟩
  have HA : Hid (w.heap.size < (((w.alloc (.cells #[.int .i64 a, .int .i64 b] 23)).alloc (.cells #[.int .i64 c, .int .i64 d] 23)).alloc (.cells #[.int .i64 0, .int .i64 0, .int .i64 0, .int .i64 0, .int .i64 0, .int .i64 0, .int .i64 0, .int .i64 0, .int .i64 0, .int .i64 0, .int .i64 0, .int .i64 0, .int .i64 0, .int .i64 0, .int .i64 0, .int .i64 0] 34)).heap.size) := by unfold Hid; simp <;> omega
  have HB : Hid (w.heap.size + 1 < (((w.alloc (.cells #[.int .i64 a, .int .i64 b] 23)).alloc (.cells #[.int .i64 c, .int .i64 d] 23)).alloc (.cells #[.int .i64 0, .int .i64 0, .int .i64 0, .int .i64 0, .int .i64 0, .int .i64 0, .int .i64 0, .int .i64 0, .int .i64 0, .int .i64 0, .int .i64 0, .int .i64 0, .int .i64 0, .int .i64 0, .int .i64 0, .int .i64 0] 34)).heap.size) := by unfold Hid; simp
  have HR : Hid (w.heap.size + 1 + 1 < (((w.alloc (.cells #[.int .i64 a, .int .i64 b] 23)).alloc (.cells #[.int .i64 c, .int .i64 d] 23)).alloc (.cells #[.int .i64 0, .int .i64 0, .int .i64 0, .int .i64 0, .int .i64 0, .int .i64 0, .int .i64 0, .int .i64 0, .int .i64 0, .int .i64 0, .int .i64 0, .int .i64 0, .int .i64 0, .int .i64 0, .int .i64 0, .int .i64 0] 34)).heap.size) := by unfold Hid; simp
  have GW : Hid (Grown w (((w.alloc (.cells #[.int .i64 a, .int .i64 b] 23)).alloc (.cells #[.int .i64 c, .int .i64 d] 23)).alloc (.cells #[.int .i64 0, .int .i64 0, .int .i64 0, .int .i64 0, .int .i64 0, .int .i64 0, .int .i64 0, .int .i64 0, .int .i64 0, .int .i64 0, .int .i64 0, .int .i64 0, .int .i64 0, .int .i64 0, .int .i64 0, .int .i64 0] 34))) := (((Grown.refl w).alloc _ _).alloc _ _).alloc _ _
  have HRc : Hid (∀ k : Nat, k < 16 → (((w.alloc (.cells #[.int .i64 a, .int .i64 b] 23)).alloc (.cells #[.int .i64 c, .int .i64 d] 23)).alloc (.cells #[.int .i64 0, .int .i64 0, .int .i64 0, .int .i64 0, .int .i64 0, .int .i64 0, .int .i64 0, .int .i64 0, .int .i64 0, .int .i64 0, .int .i64 0, .int .i64 0, .int .i64 0, .int .i64 0, .int .i64 0, .int .i64 0] 34)).cell? ⟨w.heap.size + 1 + 1, k, none⟩ = some (.int .i64 0)) := by
    intro k hk
    rcases (by omega : k = 0 ∨ k = 1 ∨ k = 2 ∨ k = 3 ∨ k = 4 ∨ k = 5 ∨ k = 6 ∨ k = 7 ∨ k = 8 ∨ k = 9 ∨ k = 10 ∨ k = 11 ∨ k = 12 ∨ k = 13 ∨ k = 14 ∨ k = 15) with rfl | rfl | rfl | rfl | rfl | rfl | rfl | rfl | rfl | rfl | rfl | rfl | rfl | rfl | rfl | rfl <;> simp [go_sem]
  have HRf : Hid (∀ k : Nat, (((w.alloc (.cells #[.int .i64 a, .int .i64 b] 23)).alloc (.cells #[.int .i64 c, .int .i64 d] 23)).alloc (.cells #[.int .i64 0, .int .i64 0, .int .i64 0, .int .i64 0, .int .i64 0, .int .i64 0, .int .i64 0, .int .i64 0, .int .i64 0, .int .i64 0, .int .i64 0, .int .i64 0, .int .i64 0, .int .i64 0, .int .i64 0, .int .i64 0] 34)).frozen? ⟨w.heap.size + 1 + 1, k, none⟩ = false) := fun k => by simp [go_sem]
  generalize (((w.alloc (.cells #[.int .i64 a, .int .i64 b] 23)).alloc (.cells #[.int .i64 c, .int .i64 d] 23)).alloc (.cells #[.int .i64 0, .int .i64 0, .int .i64 0, .int .i64 0, .int .i64 0, .int .i64 0, .int .i64 0, .int .i64 0, .int .i64 0, .int .i64 0, .int .i64 0, .int .i64 0, .int .i64 0, .int .i64 0, .int .i64 0, .int .i64 0] 34)) = W at *
  have HWA : Hid (w.heap.size ≤ w.heap.size + 1 + 1) := by unfold Hid; omega
  generalize hAA : w.heap.size = A at *
  have HAA := Lib.hid hAA; clear hAA
  go_upto_region 1 with fail
  go_cut [5, 6] (fun s5 s6 wx => Hid (Made W x1 x2 y1 y2 s5 s6 wx) ∧ wx.cell? ⟨A, 0, none⟩ = some (.int .i64 a) ∧ wx.cell? ⟨A, 1, none⟩ = some (.int .i64 b) ∧ wx.cell? ⟨A + 1, 0, none⟩ = some (.int .i64 c) ∧ wx.cell? ⟨A + 1, 1, none⟩ = some (.int .i64 d))
  case first =>
    go_region_held3 (fun w' => w'.cell? ⟨A, 0, none⟩ = some (.int .i64 a) ∧ w'.cell? ⟨A, 1, none⟩ = some (.int .i64 b) ∧ w'.cell? ⟨A + 1, 0, none⟩ = some (.int .i64 c) ∧ w'.cell? ⟨A + 1, 1, none⟩ = some (.int .i64 d) ∧ Grown W w') (first | with_reducible assumption | with_reducible exact sb.out | with_reducible exact sa.out | (refine keep4_step HT0.out HA HA HB HB ?_; (repeat' (first | with_reducible exact Grown.refl _ | with_reducible exact sb.out.2.2.2.2 | with_reducible exact sa.out.2.2.2.2 | with_reducible refine Grown.alloc ?_ _ _ | with_reducible refine Grown.setCell ?_ ?_ _ | with_reducible refine Grown.drew ?_ | with_reducible exact Nat.le_refl _ | with_reducible exact qz | with_reducible exact qy | with_reducible exact Nat.le_succ _ | with_reducible exact Nat.le_succ_of_le qz | with_reducible exact Nat.le_succ_of_le qy)); done)) (first | (go_at_call 42; (with_reducible refine (H1.out _).mono ?_); rintro e wa ⟨rfl, hgr⟩; have sa : Hid (Two A (A + 1) a b c d W wa) := two_step (by assumption) HA HB hgr; first | (have q : NewAt W.heap.size wa ∧ NewAt (W.heap.size + 1) wa := newcellsD hgr; have qz : W.heap.size ≤ wa.heap.size := Nat.le_of_lt q.1.lt) | (have q : NewAt W.heap.size wa := newcellD hgr; have qz : W.heap.size ≤ wa.heap.size := Nat.le_of_lt q.lt) | (have q : True := trivial; have qz : W.heap.size ≤ wa.heap.size := hgr.2.2)) | (go_at_call 42; (with_reducible refine (H2.out _).mono ?_); rintro e wb ⟨rfl, hgr⟩; have sb : Hid (Two A (A + 1) a b c d W wb) := two_step (by assumption) HA HB hgr; first | (have q' : NewAt W.heap.size wb ∧ NewAt (W.heap.size + 1) wb := ⟨NewAt.go q.1 hgr, NewAt.go q.2 hgr⟩; obtain ⟨⟨r1, r2, r3, r4, r5⟩, t1, t2, t3, t4, t5⟩ := q'; have qy := Nat.le_of_lt r1) | (have q' : NewAt W.heap.size wb ∧ NewAt wa.heap.size wb := ⟨NewAt.go q (grown_trans ((Grown.refl wa).alloc _ _) hgr), newcell hgr⟩; have n1 : ¬ W.heap.size = wa.heap.size := Nat.ne_of_lt q.lt; have n2 : ¬ wa.heap.size = W.heap.size := Nat.ne_of_gt q.lt; obtain ⟨⟨r1, r2, r3, r4, r5⟩, t1, t2, t3, t4, t5⟩ := q'; have qy := Nat.le_of_lt r1) | (have q' : NewAt W.heap.size wb := NewAt.go q hgr; have n1 : ¬ W.heap.size = wb.heap.size := Nat.ne_of_lt q'.lt; have n2 : ¬ wb.heap.size = W.heap.size := Nat.ne_of_gt q'.lt; obtain ⟨r1, r2, r3, r4, r5⟩ := q'; have qy := Nat.le_of_lt r1) | (have q' : NewAt wa.heap.size wb ∧ NewAt (wa.heap.size + 1) wb := newcells hgr; obtain ⟨⟨r1, r2, r3, r4, r5⟩, t1, t2, t3, t4, t5⟩ := q'; have qy := Nat.le_trans qz (Nat.le_of_lt r1)) | (have q' : NewAt wa.heap.size wb := newcell hgr; have n1 : ¬ wa.heap.size = wb.heap.size := Nat.ne_of_lt q'.lt; have n2 : ¬ wb.heap.size = wa.heap.size := Nat.ne_of_gt q'.lt; obtain ⟨r1, r2, r3, r4, r5⟩ := q'; have qy := Nat.le_trans qz (Nat.le_of_lt r1)) | (have qy : W.heap.size ≤ wb.heap.size := Nat.le_trans qz hgr.2.2)))
    all_goals go_wp2_with fail
    all_goals go_meet
    all_goals
      rename _ ∧ _ ∧ _ ∧ _ ∧ Grown W _ => hS
      refine ⟨?_, hS.1, hS.2.1, hS.2.2.1, hS.2.2.2.1⟩
      have hG := Lib.hid hS.2.2.2.2
      clear hS
      unfold Hid Made
      refine ⟨_, _, rfl, rfl, ?_, ?_, ?_, ?_, hG.out⟩ <;> go_simp
  obtain ⟨hm, k0, k1, k2, k3⟩ := hcut
  obtain ⟨B5, B6, rfl, rfl, m0, m1, m2, m3, gm⟩ := hm.out
  have r0 : ∀ k : Nat, k < 16 → wc.cell? ⟨A + 1 + 1, k, none⟩ = some (.int .i64 0) := fun k hk => (grown_cell gm (p := ⟨A + 1 + 1, k, none⟩) HR.out).trans (HRc.out k hk)
  have r1 : ∀ k : Nat, wc.frozen? ⟨A + 1 + 1, k, none⟩ = false := fun k => (gm.2.1 _).trans (HRf.out k)
  have GM := Lib.hid (grown_trans GW.out gm)
  clear hm gm HRc HRf HT0 HA HB HR GW
  go_wp2_with fail
  have hz : w.heap.size ≤ A + 1 + 1 := by rw [HAA.out]; omega
  refine bodyPost_ret (v := .agg #[.int .i64 a, .int .i64 b, .int .i64 c, .int .i64 d, .int .i64 x1, .int .i64 x2, .int .i64 y1, .int .i64 y2, .int .i64 a, .int .i64 b, .int .i64 y1, .int .i64 y2, .int .i64 x1, .int .i64 x2, .int .i64 x1, .int .i64 x2]) (by simp [results, Try.results15, go_sem, r0]) rfl ⟨rfl, ?_⟩
  (repeat (first | with_reducible exact GM.out | with_reducible refine Grown.setCell ?_ hz _))

end Go.Proofs.Ytgbjooecomgfoaa
