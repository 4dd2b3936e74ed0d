/-
  RatKnown returns true: the examples, fractions that are not valid, and results at the bounds. No condition.
-/
import Derived.Test.YtgbjooecomgfoaaRr
import Derived.ProofKit
import Derived.OpenShut
import Derived.DataBytes
import Derived.Deep.RegionHeld3
import Derived.Deep.DeepCutAuto
import Derived.Deep.CutBlock
namespace Go.Proofs.Ytgbjooecomgfoaa
open Go.ChangeShapes Go.WideShapes Go.ChangeAt Go.WideMaps Go.WideElems Go.RowKit

theorem keep2_set {W w : World} {A B : Nat} {u v x y : Value} (h : w.cell? ⟨A, 0, none⟩ = some u ∧ w.cell? ⟨A, 1, none⟩ = some v ∧ Grown W w) (hA : Hid (A < W.heap.size)) (hB : W.heap.size ≤ B) :
    ((w.setCell ⟨B, 0, none⟩ x).setCell ⟨B, 1, none⟩ y).cell? ⟨A, 0, none⟩ = some u ∧ ((w.setCell ⟨B, 0, none⟩ x).setCell ⟨B, 1, none⟩ y).cell? ⟨A, 1, none⟩ = some v ∧ Grown W ((w.setCell ⟨B, 0, none⟩ x).setCell ⟨B, 1, none⟩ y) := by
  have hne : B ≠ A := Nat.ne_of_gt (Nat.lt_of_lt_of_le hA.out hB)
  refine ⟨?_, ?_, (h.2.2.setCell hB _).setCell hB _⟩
  · rw [World.cell?_setCell_far _ _ _ _ hne, World.cell?_setCell_far _ _ _ _ hne]; exact h.1
  · rw [World.cell?_setCell_far _ _ _ _ hne, World.cell?_setCell_far _ _ _ _ hne]; exact h.2.1

/-- A new block of two zeros at B. -/
structure NewAt (B : Nat) (w : World) : Prop where
  lt : B < w.heap.size
  c0 : w.cell? ⟨B, 0, none⟩ = some (.int .i64 0)
  c1 : w.cell? ⟨B, 1, none⟩ = some (.int .i64 0)
  f0 : w.frozen? ⟨B, 0, none⟩ = false
  f1 : w.frozen? ⟨B, 1, none⟩ = false
theorem NewAt.go {B : Nat} {w w' : World} (h : NewAt B w) (g : Grown w w') : NewAt B w' :=
  ⟨Nat.lt_of_lt_of_le h.lt g.2.2, (grown_cell g (p := ⟨B, 0, none⟩) h.lt).trans h.c0, (grown_cell g (p := ⟨B, 1, none⟩) h.lt).trans h.c1, (g.2.1 _).trans h.f0, (g.2.1 _).trans h.f1⟩
theorem newcell {w w' : World} {t : TypeId} (g : Grown (w.alloc (.cells #[.int .i64 0, .int .i64 0] t)) w') : NewAt w.heap.size w' :=
  NewAt.go ⟨by simp, by simp [go_sem], by simp [go_sem], by simp [go_sem], by simp [go_sem]⟩ g

theorem newcellD {w w' : World} {t : TypeId} (g : Grown (w.alloc (.cells #[.int .i64 0, .int .i64 0] t)).drew w') : NewAt w.heap.size w' := newcell (t := t) g
theorem keep2_alloc {W : World} {A : Nat} {u v : Value} (c0 : W.cell? ⟨A, 0, none⟩ = some u) (c1 : W.cell? ⟨A, 1, none⟩ = some v) (hA : Hid (A < W.heap.size)) (c : Array Value) (t : TypeId) :
    (W.alloc (.cells c t)).drew.cell? ⟨A, 0, none⟩ = some u ∧ (W.alloc (.cells c t)).drew.cell? ⟨A, 1, none⟩ = some v ∧ Grown W (W.alloc (.cells c t)).drew :=
  keep2_step (w1 := W) ⟨c0, c1, Grown.refl W⟩ hA hA (((Grown.refl W).alloc c t).drew)

theorem known_elem (k : Nat) (hk : k < 7) : ∃ x y : Int, ¬ Fr.right x y ∧ ∀ w, (Instr.index 48 (.agg #[.int .i64 0, .int .i64 0, .int .i64 1, .int .i64 0, .int .i64 1, .int .i64 (-1), .int .i64 0, .int .i64 2, .int .i64 1073741825, .int .i64 1, .int .i64 1, .int .i64 1073741825, .int .i64 (-9223372036854775808), .int .i64 1]) (.int .i64 k)).run Try.prog w = .ok (.agg #[.int .i64 x, .int .i64 y]) w := by
  match k, hk with
  | 0, _ => exact ⟨0, 0, by decide +kernel, fun _ => by kernel_rfl⟩
  | 1, _ => exact ⟨1, 0, by decide +kernel, fun _ => by kernel_rfl⟩
  | 2, _ => exact ⟨1, -1, by decide +kernel, fun _ => by kernel_rfl⟩
  | 3, _ => exact ⟨0, 2, by decide +kernel, fun _ => by kernel_rfl⟩
  | 4, _ => exact ⟨1073741825, 1, by decide +kernel, fun _ => by kernel_rfl⟩
  | 5, _ => exact ⟨1, 1073741825, by decide +kernel, fun _ => by kernel_rfl⟩
  | 6, _ => exact ⟨-9223372036854775808, 1, by decide +kernel, fun _ => by kernel_rfl⟩

set_option maxRecDepth 100000 in
set_option maxHeartbeats 4000000 in
theorem ratKnown_any (w : World) :
    Calls Try.prog 9 #[] w fun e w' => e = .returned (.bool true) ∧ Grown w w' := by
  have HE := Lib.hid known_elem
  go_enter Try.func9, Try.ntmps9
  go_wp2_with fail
  go_loopw [41] (fun i wr => ∃ k : Nat, k ≤ 7 ∧ i = .int .i64 k ∧ Hid (Grown w wr)) (fun i _ => 7 - (intOf i).toNat)
  case atStart => exact ⟨0, by omega, rfl, Grown.refl w⟩
  case round =>
    obtain ⟨k, hk, rfl, hgw⟩ := hrel
    by_cases hlt : k < 7
    · obtain ⟨x, y, hr, hidx⟩ := HE.out k hlt
      clear HE
      have HO := Lib.hid (fun w => of_any 1 1 w)
      have H1 := Lib.hid (fun w => add_v x y 1 1 0 0 120 w (opV_no (bothV_l hr)))
      have H2 := Lib.hid (fun w => div_v 1 1 x y 0 0 120 w (opV_no (bothV_r hr)))
      have H3 := Lib.hid (fun w => cmp_v x y x y 0 120 w (cmpR_no (bothV_l hr)))
      have H4 := Lib.hid (fun w => floor_v x y 0 120 w (flV_no hr))
      have H5 := Lib.hid (fun w => max_v 1 1 x y 0 0 120 w (fuV_no (bothV_r hr)))
      have H6 := Lib.hid (fun w => check_v x y 120 w (ckV_no hr))
      clear hr
      have c0 : (wr.alloc (.cells #[.int .i64 x, .int .i64 y] 23)).cell? ⟨wr.heap.size, 0, none⟩ = some (.int .i64 x) := by simp [go_sem]
      have c1 : (wr.alloc (.cells #[.int .i64 x, .int .i64 y] 23)).cell? ⟨wr.heap.size, 1, none⟩ = some (.int .i64 y) := by simp [go_sem]
      have H_W : Hid (wr.heap.size < (wr.alloc (.cells #[.int .i64 x, .int .i64 y] 23)).heap.size) := by unfold Hid; simp
      have GW : Hid (Grown w (wr.alloc (.cells #[.int .i64 x, .int .i64 y] 23))) := hgw.out.alloc _ _
      go_wp2_with fail
      generalize (wr.alloc (.cells #[.int .i64 x, .int .i64 y] 23)) = W at *
      generalize wr.heap.size = A at *

      go_upto_region 4 with fail
      go_cut [4] (fun s4 wx => s4 = .int .i64 120 ∧ wx.cell? ⟨A, 0, none⟩ = some (.int .i64 x) ∧ wx.cell? ⟨A, 1, none⟩ = some (.int .i64 y) ∧ Hid (Grown W wx))
      case first =>
        go_region_held3 (fun w' => w'.cell? ⟨A, 0, none⟩ = some (.int .i64 x) ∧ w'.cell? ⟨A, 1, none⟩ = some (.int .i64 y) ∧ Grown W w') (first | exact keep2_first c0 c1 | assumption | exact keep2_alloc c0 c1 H_W _ _ | (refine keep2_step ?_ H_W H_W hgr; assumption) | (refine keep2_step ?_ H_W H_W ((Grown.refl _).alloc _ _); assumption) | (refine keep2_set (by assumption) H_W ?_; first | exact qz | exact Nat.le_refl _)) (first | (go_at_call 35; refine (HO.out _).mono ?_; rintro e wa ⟨rfl, hgr⟩; first | (have q : NewAt W.heap.size wa := newcellD hgr; have qz : W.heap.size ≤ wa.heap.size := Nat.le_of_lt q.lt) | (have q : NewAt W.heap.size wa := newcell hgr; have qz : W.heap.size ≤ wa.heap.size := Nat.le_of_lt q.lt) | (have q : True := trivial; have qz : W.heap.size ≤ wa.heap.size := hgr.2.2)) | (go_at_call 16; refine (H1.out _).mono ?_; rintro e wb ⟨rfl, hgr⟩; first | (have q' : NewAt W.heap.size wb := NewAt.go q hgr; obtain ⟨r1, r2, r3, r4, r5⟩ := q') | (have q' : NewAt wa.heap.size wb := newcell hgr; obtain ⟨r1, r2, r3, r4, r5⟩ := q') | skip))
        all_goals go_wp2_with fail
        all_goals go_meet
        all_goals exact ⟨rfl, And.left (by assumption), And.left (And.right (by assumption)), And.right (And.right (by assumption))⟩
      clear c0 c1
      obtain ⟨rfl, c0, c1, hw⟩ := hcut
      have GW1 := Lib.hid (grown_trans GW.out hw.out)
      have H_W1 : Hid (A < wc.heap.size) := Nat.lt_of_lt_of_le H_W.out hw.out.2.2
      clear GW H_W hw
      generalize wc = W1 at *
      go_upto_region 5 with fail
      go_cut [6] (fun s6 wx => s6 = .int .i64 120 ∧ wx.cell? ⟨A, 0, none⟩ = some (.int .i64 x) ∧ wx.cell? ⟨A, 1, none⟩ = some (.int .i64 y) ∧ Hid (Grown W1 wx))
      case first =>
        go_region_held3 (fun w' => w'.cell? ⟨A, 0, none⟩ = some (.int .i64 x) ∧ w'.cell? ⟨A, 1, none⟩ = some (.int .i64 y) ∧ Grown W1 w') (first | exact keep2_first c0 c1 | assumption | exact keep2_alloc c0 c1 H_W1 _ _ | (refine keep2_step ?_ H_W1 H_W1 hgr; assumption) | (refine keep2_step ?_ H_W1 H_W1 ((Grown.refl _).alloc _ _); assumption) | (refine keep2_set (by assumption) H_W1 ?_; first | exact qz | exact Nat.le_refl _)) (first | (go_at_call 35; refine (HO.out _).mono ?_; rintro e wa ⟨rfl, hgr⟩; first | (have q : NewAt W1.heap.size wa := newcellD hgr; have qz : W1.heap.size ≤ wa.heap.size := Nat.le_of_lt q.lt) | (have q : NewAt W1.heap.size wa := newcell hgr; have qz : W1.heap.size ≤ wa.heap.size := Nat.le_of_lt q.lt) | (have q : True := trivial; have qz : W1.heap.size ≤ wa.heap.size := hgr.2.2)) | (go_at_call 22; refine (H2.out _).mono ?_; rintro e wb ⟨rfl, hgr⟩; first | (have q' : NewAt W1.heap.size wb := NewAt.go q hgr; obtain ⟨r1, r2, r3, r4, r5⟩ := q') | (have q' : NewAt wa.heap.size wb := newcell hgr; obtain ⟨r1, r2, r3, r4, r5⟩ := q') | skip))
        all_goals go_wp2_with fail
        all_goals go_meet
        all_goals exact ⟨rfl, And.left (by assumption), And.left (And.right (by assumption)), And.right (And.right (by assumption))⟩
      clear c0 c1
      obtain ⟨rfl, c0, c1, hw⟩ := hcut
      have GW2 := Lib.hid (grown_trans GW1.out hw.out)
      have H_W2 : Hid (A < wc.heap.size) := Nat.lt_of_lt_of_le H_W1.out hw.out.2.2
      clear GW1 H_W1 hw
      generalize wc = W2 at *
      go_wp2_with fail
      refine (H3.out _).mono ?_; rintro e W3 ⟨rfl, gr⟩
      have c0' := (grown_cell gr (p := ⟨A, 0, none⟩) H_W2.out).trans c0
      have c1' := (grown_cell gr (p := ⟨A, 1, none⟩) H_W2.out).trans c1
      have GW3 := Lib.hid (grown_trans GW2.out gr)
      have H_W3 : Hid (A < W3.heap.size) := Nat.lt_of_lt_of_le H_W2.out gr.2.2
      clear c0 c1 gr GW2 H_W2
      have c0 := c0'; clear c0'
      have c1 := c1'; clear c1'
      go_wp2_with fail
      refine (H4.out _).mono ?_; rintro e W4 ⟨rfl, gr⟩
      have c0' := (grown_cell gr (p := ⟨A, 0, none⟩) H_W3.out).trans c0
      have c1' := (grown_cell gr (p := ⟨A, 1, none⟩) H_W3.out).trans c1
      have GW4 := Lib.hid (grown_trans GW3.out gr)
      have H_W4 : Hid (A < W4.heap.size) := Nat.lt_of_lt_of_le H_W3.out gr.2.2
      clear c0 c1 gr GW3 H_W3
      have c0 := c0'; clear c0'
      have c1 := c1'; clear c1'
      go_upto_region 8 with fail
      go_cut [12] (fun s12 wx => s12 = .int .i64 120 ∧ wx.cell? ⟨A, 0, none⟩ = some (.int .i64 x) ∧ wx.cell? ⟨A, 1, none⟩ = some (.int .i64 y) ∧ Hid (Grown W4 wx))
      case first =>
        go_region_held3 (fun w' => w'.cell? ⟨A, 0, none⟩ = some (.int .i64 x) ∧ w'.cell? ⟨A, 1, none⟩ = some (.int .i64 y) ∧ Grown W4 w') (first | exact keep2_first c0 c1 | assumption | exact keep2_alloc c0 c1 H_W4 _ _ | (refine keep2_step ?_ H_W4 H_W4 hgr; assumption) | (refine keep2_step ?_ H_W4 H_W4 ((Grown.refl _).alloc _ _); assumption) | (refine keep2_set (by assumption) H_W4 ?_; first | exact qz | exact Nat.le_refl _)) (first | (go_at_call 35; refine (HO.out _).mono ?_; rintro e wa ⟨rfl, hgr⟩; first | (have q : NewAt W4.heap.size wa := newcellD hgr; have qz : W4.heap.size ≤ wa.heap.size := Nat.le_of_lt q.lt) | (have q : NewAt W4.heap.size wa := newcell hgr; have qz : W4.heap.size ≤ wa.heap.size := Nat.le_of_lt q.lt) | (have q : True := trivial; have qz : W4.heap.size ≤ wa.heap.size := hgr.2.2)) | (go_at_call 28; refine (H5.out _).mono ?_; rintro e wb ⟨rfl, hgr⟩; first | (have q' : NewAt W4.heap.size wb := NewAt.go q hgr; obtain ⟨r1, r2, r3, r4, r5⟩ := q') | (have q' : NewAt wa.heap.size wb := newcell hgr; obtain ⟨r1, r2, r3, r4, r5⟩ := q') | skip))
        all_goals go_wp2_with fail
        all_goals go_meet
        all_goals exact ⟨rfl, And.left (by assumption), And.left (And.right (by assumption)), And.right (And.right (by assumption))⟩
      clear c0 c1
      obtain ⟨rfl, c0, c1, hw⟩ := hcut
      have GW5 := Lib.hid (grown_trans GW4.out hw.out)
      have H_W5 : Hid (A < wc.heap.size) := Nat.lt_of_lt_of_le H_W4.out hw.out.2.2
      clear GW4 H_W4 hw
      generalize wc = W5 at *
      go_wp2_with fail
      refine (H6.out _).mono ?_; rintro e W6 ⟨rfl, gr⟩
      have c0' := (grown_cell gr (p := ⟨A, 0, none⟩) H_W5.out).trans c0
      have c1' := (grown_cell gr (p := ⟨A, 1, none⟩) H_W5.out).trans c1
      have GW6 := Lib.hid (grown_trans GW5.out gr)
      have H_W6 : Hid (A < W6.heap.size) := Nat.lt_of_lt_of_le H_W5.out gr.2.2
      clear c0 c1 gr GW5 H_W5
      have c0 := c0'; clear c0'
      have c1 := c1'; clear c1'
      go_wp2_with fail
      go_roundw
      case rel => exact ⟨k + 1, by omega, by go_num, GW6⟩
      case measure => simp [intOf]; omega
    · clear HE
      go_wp2_with fail
      have C0 : Hid (Cs [] wr) := trivial
      have G0 := hgw
      refine (of_any (-1073741824) 1 _).mono ?_; rintro e w1 ⟨rfl, gr⟩
      have C1 := Lib.hid (Cs.go C0.out gr)
      have G1 := Lib.hid (grown_trans G0.out gr)
      clear gr C0 G0
      go_wp2_with fail
      refine (of_any 0 1 _).mono ?_; rintro e w2 ⟨rfl, gr⟩
      have C2 := Lib.hid (Cs.go C1.out gr)
      have G2 := Lib.hid (grown_trans G1.out gr)
      clear gr C1 G1
      go_wp2_with fail
      refine ((fun w => sub_v (-1073741824) 1 0 1 (-1073741824) 1 0 w (by decide +kernel)) _).mono ?_; rintro e w3 ⟨rfl, gr⟩
      have C3 := Lib.hid (Cs.go C2.out gr)
      have G3 := Lib.hid (grown_trans G2.out gr)
      clear gr C2 G2
      go_wp2_with fail
      refine (of_any (-1073741824) 1 _).mono ?_; rintro e w4 ⟨rfl, gr⟩
      have C4 := Lib.hid (Cs.new C3.out gr)
      have G4 := Lib.hid (grown_trans (G3.out.alloc _ _) gr)
      clear gr C3 G3
      go_wp2_with fail
      refine (of_any 1 1 _).mono ?_; rintro e w5 ⟨rfl, gr⟩
      have C5 := Lib.hid (Cs.go C4.out gr)
      have G5 := Lib.hid (grown_trans G4.out gr)
      clear gr C4 G4
      go_wp2_with fail
      refine ((fun w => sub_v (-1073741824) 1 1 1 0 0 6 w (by decide +kernel)) _).mono ?_; rintro e w6 ⟨rfl, gr⟩
      have C6 := Lib.hid (Cs.go C5.out gr)
      have G6 := Lib.hid (grown_trans G5.out gr)
      clear gr C5 G5
      go_wp2_with fail
      refine (of_any 1 1073741824 _).mono ?_; rintro e w7 ⟨rfl, gr⟩
      have C7 := Lib.hid (Cs.new C6.out gr)
      have G7 := Lib.hid (grown_trans (G6.out.alloc _ _) gr)
      clear gr C6 G6
      go_wp2_with fail
      refine (of_any (-1) 1073741824 _).mono ?_; rintro e w8 ⟨rfl, gr⟩
      have C8 := Lib.hid (Cs.go C7.out gr)
      have G8 := Lib.hid (grown_trans G7.out gr)
      clear gr C7 G7
      go_wp2_with fail
      refine ((fun w => add_v 1 1073741824 (-1) 1073741824 0 1 0 w (by decide +kernel)) _).mono ?_; rintro e w9 ⟨rfl, gr⟩
      have C9 := Lib.hid (Cs.go C8.out gr)
      have G9 := Lib.hid (grown_trans G8.out gr)
      clear gr C8 G8
      go_wp2_with fail
      refine (of_any 1 1073741824 _).mono ?_; rintro e w10 ⟨rfl, gr⟩
      have C10 := Lib.hid (Cs.new C9.out gr)
      have G10 := Lib.hid (grown_trans (G9.out.alloc _ _) gr)
      clear gr C9 G9
      go_wp2_with fail
      refine (of_any 1 1073741823 _).mono ?_; rintro e w11 ⟨rfl, gr⟩
      have C11 := Lib.hid (Cs.go C10.out gr)
      have G11 := Lib.hid (grown_trans G10.out gr)
      clear gr C10 G10
      go_wp2_with fail
      refine ((fun w => add_v 1 1073741824 1 1073741823 0 0 6 w (by decide +kernel)) _).mono ?_; rintro e w12 ⟨rfl, gr⟩
      have C12 := Lib.hid (Cs.go C11.out gr)
      have G12 := Lib.hid (grown_trans G11.out gr)
      clear gr C11 G11
      go_wp2_with fail
      refine ((fun w => make_v (-4611686018427387904) 4294967296 (-1073741824) 1 0 w (by decide +kernel)) _).mono ?_; rintro e w13 ⟨rfl, gr⟩
      have C13 := Lib.hid (Cs.new C12.out gr)
      have G13 := Lib.hid (grown_trans (G12.out.alloc _ _) gr)
      clear gr C12 G12
      go_wp2_with fail
      refine ((fun w => make_v (-9223372036854775808) 1 0 0 6 w (by decide +kernel)) _).mono ?_; rintro e w14 ⟨rfl, gr⟩
      have C14 := Lib.hid (Cs.new C13.out gr)
      have G14 := Lib.hid (grown_trans (G13.out.alloc _ _) gr)
      clear gr C13 G13
      go_wp2_with fail
      refine ((fun w => make_v 1 (-9223372036854775808) 0 0 6 w (by decide +kernel)) _).mono ?_; rintro e w15 ⟨rfl, gr⟩
      have C15 := Lib.hid (Cs.new C14.out gr)
      have G15 := Lib.hid (grown_trans (G14.out.alloc _ _) gr)
      clear gr C14 G14
      go_wp2_with fail
      refine (of_any 1073741824 3 _).mono ?_; rintro e w16 ⟨rfl, gr⟩
      have C16 := Lib.hid (Cs.new C15.out gr)
      have G16 := Lib.hid (grown_trans (G15.out.alloc _ _) gr)
      clear gr C15 G15
      go_wp2_with fail
      refine (of_any 3 1073741824 _).mono ?_; rintro e w17 ⟨rfl, gr⟩
      have C17 := Lib.hid (Cs.go C16.out gr)
      have G17 := Lib.hid (grown_trans G16.out gr)
      clear gr C16 G16
      go_wp2_with fail
      refine ((fun w => mul_v 1073741824 3 3 1073741824 1 1 0 w (by decide +kernel)) _).mono ?_; rintro e w18 ⟨rfl, gr⟩
      have C18 := Lib.hid (Cs.go C17.out gr)
      have G18 := Lib.hid (grown_trans G17.out gr)
      clear gr C17 G17
      go_wp2_with fail
      refine (of_any (-1) 1073741824 _).mono ?_; rintro e w19 ⟨rfl, gr⟩
      have C19 := Lib.hid (Cs.new C18.out gr)
      have G19 := Lib.hid (grown_trans (G18.out.alloc _ _) gr)
      clear gr C18 G18
      go_wp2_with fail
      refine ((fun w => floor_v (-1) 1073741824 (-1) 0 w (by decide +kernel)) _).mono ?_; rintro e w20 ⟨rfl, gr⟩
      have C20 := Lib.hid (Cs.go C19.out gr)
      have G20 := Lib.hid (grown_trans G19.out gr)
      clear gr C19 G19
      go_wp2_with fail
      refine (of_any 1 1073741824 _).mono ?_; rintro e w21 ⟨rfl, gr⟩
      have C21 := Lib.hid (Cs.go C20.out gr)
      have G21 := Lib.hid (grown_trans G20.out gr)
      clear gr C20 G20
      go_wp2_with fail
      refine ((fun w => ceil_v 1 1073741824 1 0 w (by decide +kernel)) _).mono ?_; rintro e w22 ⟨rfl, gr⟩
      have C22 := Lib.hid (Cs.go C21.out gr)
      have G22 := Lib.hid (grown_trans G21.out gr)
      clear gr C21 G21
      go_wp2_with fail
      refine (works_any _).mono ?_; rintro e w23 ⟨rfl, gr⟩
      have C23 := Lib.hid (Cs.go C22.out gr)
      have G23 := Lib.hid (grown_trans G22.out gr)
      clear gr C22 G22
      have za := C23.out.2.2.2.2.2.2.2.1.1
      have xa := C23.out.2.2.2.2.2.2.2.1.2.1
      have ya := C23.out.2.2.2.2.2.2.2.1.2.2
      go_wp2_with fail
      refine (is_yes (-1073741824) 1 _).mono ?_; rintro e w24 ⟨rfl, gr⟩
      clear za xa ya
      have C24 := Lib.hid (Cs.go C23.out gr)
      have G24 := Lib.hid (grown_trans G23.out gr)
      clear gr C23 G23
      have zb := C24.out.2.2.2.2.2.1.1
      have xb := C24.out.2.2.2.2.2.1.2.1
      have yb := C24.out.2.2.2.2.2.1.2.2
      go_wp2_with fail
      refine (is_yes 0 1 _).mono ?_; rintro e w25 ⟨rfl, gr⟩
      clear zb xb yb
      have C25 := Lib.hid (Cs.go C24.out gr)
      have G25 := Lib.hid (grown_trans G24.out gr)
      clear gr C24 G24
      have zc := C25.out.2.2.2.1.1
      have xc := C25.out.2.2.2.1.2.1
      have yc := C25.out.2.2.2.1.2.2
      go_wp2_with fail
      refine (is_yes (-1073741824) 1 _).mono ?_; rintro e w26 ⟨rfl, gr⟩
      clear zc xc yc
      have C26 := Lib.hid (Cs.go C25.out gr)
      have G26 := Lib.hid (grown_trans G25.out gr)
      clear gr C25 G25
      have zd := C26.out.1.1
      have xd := C26.out.1.2.1
      have yd := C26.out.1.2.2
      go_wp2_with fail
      refine (is_yes 1 1 _).mono ?_; rintro e w27 ⟨rfl, gr⟩
      clear zd xd yd
      have C27 := Lib.hid (Cs.go C26.out gr)
      have G27 := Lib.hid (grown_trans G26.out gr)
      clear gr C26 G26
      go_wp2_with fail
      go_ret
      exact ⟨rfl, G27.out⟩

theorem own_ratKnown : ownKnob Try.prog.godebug = none := by kernel_rfl
set_option maxRecDepth 100000 in
theorem ratKnown_lifted (os : Os) (started : os.Started) (H : Type) (enc : TypeId × Value → H) :
    ReturnsInHanded {} Try.checked os 9 .any (Rows.ratKnownSpec.pre6 enc Try.prog Try.f9 Rows.ratKnownRow.domain false) (Rows.ratKnownSpec.post enc Try.prog Try.f9 false true false false) := by
  refine returnsInHanded_of_change (C := Try.checked) own_ratKnown started (by kernel_rfl) Try.func9
    (ChangeSpec.witness6 (enc := enc) (C := Try.checked) false ⟨#[], #[], []⟩ 8 (by kernel_rfl) (by kernel_rfl) (by kernel_rfl) (by kernel_rfl)) ?_
  intro W base args ds gs before _ hW _ _
  have hW' := hW
  obtain ⟨p, q, hA0, hV, rfl, hfz, hnd⟩ := hW
  have hA : DataW.TrodAll enc Try.prog W 0 (fun _ => true) true Try.f9.params.toList args.toList ds p := hA0
  rw [Try.params9] at hA
  obtain ⟨rfl, rfl, rfl⟩ := trodAll_none hA
  obtain ⟨rfl, rfl⟩ := trodVars_none hV
  clear hA0
  simp only [List.append_nil] at hW'
  refine (ratKnown_any W).mono fun e W' ⟨he, hg⟩ => ?_
  subst he
  exact ⟨_, rfl, post_of_same (pa := []) (pv := []) hW' (fun _ _ _ => trodAll_mk1 (shut_bool Try.underlying4 _)) (fun sp _ => rfl) (fun _ _ => rfl) rfl (hg.frame _) hg.2.1 (ok_one (by kernel_rfl) rfl (okWide_bool_mk Try.underlying4 _))⟩

/-- The given statement. -/
theorem ratKnown_holds : Rows.RatKnownSaid :=
  OpenClaim.holds_of_wide 9 Try.f9 rfl rfl rfl rfl rfl rfl rfl ⟨rfl, rfl, rfl, rfl, rfl⟩ rfl rfl rfl rfl rfl (by kernel_rfl) Try.func9 (by kernel_rfl)
    (of_decide_eq_true (by kernel_rfl)) (by unfold Func.isWrapper; first | (rw [if_pos (by decide +kernel)]; kernel_rfl) | (rw [if_neg (by decide +kernel)]; exact ⟨rfl, rfl⟩))
    (fun os started H enc _ => ratKnown_lifted os started H enc)
#print axioms ratKnown_holds

end Go.Proofs.Ytgbjooecomgfoaa
