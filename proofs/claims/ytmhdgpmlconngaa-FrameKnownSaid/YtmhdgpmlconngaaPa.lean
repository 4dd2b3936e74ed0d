/-
  FrameKnown: the examples, limits of all fields, and malformed strings.
-/
import Derived.Test.YtmhdgpmlconngaaOa
import Derived.Deep.RegionHeld3
import Derived.Deep.CutBlock
namespace Go.Proofs.Ytmhdgpmlconngaa
open Go.RowKit Go.Proofs.Ytmhdgpmlconngaa.Cr

set_option maxRecDepth 20000 in
set_option maxHeartbeats 4000000 in
theorem known_law (w : World) :
    Calls Try.prog 8 #[] w fun e w' => e = .returned (.bool true) ∧ Bl w w' := by
  have KH := Lib.hid (fun w => hello_any w)
  unfold helF Fr.v at KH
  dsimp only at KH
  go_enter Try.func8, Try.ntmps8
  go_wp2_with fail
  refine (KH.out _).mono ?_; rintro e wn ⟨rfl, gr⟩
  go_wp2_with fail
  have hF := Fb.alloc (Fb.new wn 23 helF) (.cells Try.zeroCells54 54)
  obtain ⟨V0, hV⟩ := Tv.new (wn.alloc (.cells #[.int .i64 1, .int .i64 2, .bool false, .int .i64 0, .int .i64 0, .bool false, .int .i64 0, .int .i64 2048, .string ⟨#[104, 101, 108, 108, 111]⟩] 23)) Try.zeroCells54 54 (by kernel_rfl)
  have hs1 : (wn.alloc (.cells #[.int .i64 1, .int .i64 2, .bool false, .int .i64 0, .int .i64 0, .bool false, .int .i64 0, .int .i64 2048, .string ⟨#[104, 101, 108, 108, 111]⟩] 23)).heap.size = wn.heap.size + 1 := World.size_alloc _ _
  rw [hs1] at hV
  have K : Hid (Kw w ((wn.alloc (.cells #[.int .i64 1, .int .i64 2, .bool false, .int .i64 0, .int .i64 0, .bool false, .int .i64 0, .int .i64 2048, .string ⟨#[104, 101, 108, 108, 111]⟩] 23)).alloc (.cells Try.zeroCells54 54)) wn.heap.size (wn.heap.size + 1) helF V0) := Lib.hid ⟨hF, hV, Bl.alloc (Bl.alloc gr (.cells #[.int .i64 1, .int .i64 2, .bool false, .int .i64 0, .int .i64 0, .bool false, .int .i64 0, .int .i64 2048, .string ⟨#[104, 101, 108, 108, 111]⟩] 23)) (.cells Try.zeroCells54 54)⟩
  have hac : wn.heap.size + 1 ≠ wn.heap.size := by omega
  have hu : w.heap.size ≤ wn.heap.size + 1 := Nat.le_trans gr.size (Nat.le_succ _)
  clear hF hV hs1 gr KH
  generalize wn.heap.size + 1 = c at *
  generalize wn.heap.size = a at *
  generalize (wn.alloc (.cells #[.int .i64 1, .int .i64 2, .bool false, .int .i64 0, .int .i64 0, .bool false, .int .i64 0, .int .i64 2048, .string ⟨#[104, 101, 108, 108, 111]⟩] 23)).alloc (.cells Try.zeroCells54 54) = wb at *
  have K0 : Hid (Kw w wb a c helF (firstV 0 helF V0)) := Lib.hid (K.out.congr fun j _ i _ => rfl)
  clear K
  go_loopw [3] (fun i wr => ∃ k : Nat, k ≤ 12 ∧ i = .int .i64 (k : Int) ∧ Hid (Kw w wr a c helF (firstV k helF V0))) (fun i _ => 12 - (intOf i).toNat)
  case atStart => exact ⟨0, by omega, rfl, K0⟩
  case round =>
    clear K0
    obtain ⟨k, hk, rfl, K⟩ := hrel
    by_cases hlt : k < 12
    · have K2 := Lib.hid (K.out.row9 hac hu hlt)
      unfold fw9 helF at K2
      dsimp only at K2
      obtain ⟨q0, q1, q2, q3, q4, q5, q6, q7, q8⟩ := K.out.own.cells
      obtain ⟨s0, s1, s2, s3, s4, s5, s6, s7, s8⟩ := K.out.row.cells hlt
      obtain ⟨t0, t1, t2, t3, t4, t5, t6, t7, t8⟩ := K.out.row.frozen hlt
      unfold helF at q0 q1 q2 q3 q4 q5 q6 q7 q8
      dsimp only at q0 q1 q2 q3 q4 q5 q6 q7 q8
      clear K
      go_wp2_with fail
      clear q0 q1 q2 q3 q4 q5 q6 q7 q8 s0 s1 s2 s3 s4 s5 s6 s7 s8 t0 t1 t2 t3 t4 t5 t6 t7 t8
      go_roundw
      case rel => exact ⟨k + 1, by omega, by go_num, K2⟩
      case measure => simp [intOf]; omega
    · obtain rfl : k = 12 := by omega
      rw [show ((12 : Nat) : Int) = 12 from rfl]
      rename World => wn
      have KA := Lib.hid (fun w => repeat_any 120 1501 (by decide) w)
      have KB := Lib.hid (fun w => repeat_any 120 1495 (by decide) w)
      obtain ⟨xa, hxa⟩ : ∃ xa, Hid (xa = cop 120 1501) := ⟨_, Lib.hid rfl⟩
      obtain ⟨xb, hxb⟩ : ∃ xb, Hid (xb = cop 120 1495) := ⟨_, Lib.hid rfl⟩
      rw [← hxa.out] at KA
      rw [← hxb.out] at KB
      go_upto_region 7 with fail
      have s0 : (wn).cell? ⟨c, 0, none⟩ = some _ := (K.out.row.2 0 (by decide) 0 (by decide)).1
      have t0 : (wn).frozen? ⟨c, 0, none⟩ = false := (K.out.row.2 0 (by decide) 0 (by decide)).2
      have K0 : Hid (Kw w ((wn).setCell ⟨c, 0, none⟩ (.int .i64 (-1))) a c helF _) := Lib.hid (K.out.set hac hu (j := 0) (i := 0) (by decide) (by decide) (.int .i64 (-1)))
      have s1 : ((wn).setCell ⟨c, 0, none⟩ (.int .i64 (-1))).cell? ⟨c, 9, none⟩ = some _ := (K0.out.row.2 1 (by decide) 0 (by decide)).1
      have t1 : ((wn).setCell ⟨c, 0, none⟩ (.int .i64 (-1))).frozen? ⟨c, 9, none⟩ = false := (K0.out.row.2 1 (by decide) 0 (by decide)).2
      have K1 : Hid (Kw w (((wn).setCell ⟨c, 0, none⟩ (.int .i64 (-1))).setCell ⟨c, 9, none⟩ (.int .i64 (281474976710656))) a c helF _) := Lib.hid (K0.out.set hac hu (j := 1) (i := 0) (by decide) (by decide) (.int .i64 (281474976710656)))
      have s2 : (((wn).setCell ⟨c, 0, none⟩ (.int .i64 (-1))).setCell ⟨c, 9, none⟩ (.int .i64 (281474976710656))).cell? ⟨c, 19, none⟩ = some _ := (K1.out.row.2 2 (by decide) 1 (by decide)).1
      have t2 : (((wn).setCell ⟨c, 0, none⟩ (.int .i64 (-1))).setCell ⟨c, 9, none⟩ (.int .i64 (281474976710656))).frozen? ⟨c, 19, none⟩ = false := (K1.out.row.2 2 (by decide) 1 (by decide)).2
      have K2 : Hid (Kw w ((((wn).setCell ⟨c, 0, none⟩ (.int .i64 (-1))).setCell ⟨c, 9, none⟩ (.int .i64 (281474976710656))).setCell ⟨c, 19, none⟩ (.int .i64 (281474976710656))) a c helF _) := Lib.hid (K1.out.set hac hu (j := 2) (i := 1) (by decide) (by decide) (.int .i64 (281474976710656)))
      have s3 : ((((wn).setCell ⟨c, 0, none⟩ (.int .i64 (-1))).setCell ⟨c, 9, none⟩ (.int .i64 (281474976710656))).setCell ⟨c, 19, none⟩ (.int .i64 (281474976710656))).cell? ⟨c, 34, none⟩ = some _ := (K2.out.row.2 3 (by decide) 7 (by decide)).1
      have t3 : ((((wn).setCell ⟨c, 0, none⟩ (.int .i64 (-1))).setCell ⟨c, 9, none⟩ (.int .i64 (281474976710656))).setCell ⟨c, 19, none⟩ (.int .i64 (281474976710656))).frozen? ⟨c, 34, none⟩ = false := (K2.out.row.2 3 (by decide) 7 (by decide)).2
      have K3 : Hid (Kw w (((((wn).setCell ⟨c, 0, none⟩ (.int .i64 (-1))).setCell ⟨c, 9, none⟩ (.int .i64 (281474976710656))).setCell ⟨c, 19, none⟩ (.int .i64 (281474976710656))).setCell ⟨c, 34, none⟩ (.int .i64 (65536))) a c helF _) := Lib.hid (K2.out.set hac hu (j := 3) (i := 7) (by decide) (by decide) (.int .i64 (65536)))
      go_upto_region 8 with fail
      clear s0 t0 s1 t1 s2 t2 s3 t3 K K0 K1 K2
      have K := K3
      clear K3
      generalize ((((wn).setCell ⟨c, 0, none⟩ (.int .i64 (-1))).setCell ⟨c, 9, none⟩ (.int .i64 (281474976710656))).setCell ⟨c, 19, none⟩ (.int .i64 (281474976710656))).setCell ⟨c, 34, none⟩ (.int .i64 (65536)) = wn at *
      have s0 : (wn).cell? ⟨c, 38, none⟩ = some _ := (K.out.row.2 4 (by decide) 2 (by decide)).1
      have t0 : (wn).frozen? ⟨c, 38, none⟩ = false := (K.out.row.2 4 (by decide) 2 (by decide)).2
      have K0 : Hid (Kw w ((wn).setCell ⟨c, 38, none⟩ (.bool true)) a c helF _) := Lib.hid (K.out.set hac hu (j := 4) (i := 2) (by decide) (by decide) (.bool true))
      have s1 : ((wn).setCell ⟨c, 38, none⟩ (.bool true)).cell? ⟨c, 39, none⟩ = some _ := (K0.out.row.2 4 (by decide) 3 (by decide)).1
      have t1 : ((wn).setCell ⟨c, 38, none⟩ (.bool true)).frozen? ⟨c, 39, none⟩ = false := (K0.out.row.2 4 (by decide) 3 (by decide)).2
      have K1 : Hid (Kw w (((wn).setCell ⟨c, 38, none⟩ (.bool true)).setCell ⟨c, 39, none⟩ (.int .i64 (8))) a c helF _) := Lib.hid (K0.out.set hac hu (j := 4) (i := 3) (by decide) (by decide) (.int .i64 (8)))
      have s2 : (((wn).setCell ⟨c, 38, none⟩ (.bool true)).setCell ⟨c, 39, none⟩ (.int .i64 (8))).cell? ⟨c, 47, none⟩ = some _ := (K1.out.row.2 5 (by decide) 2 (by decide)).1
      have t2 : (((wn).setCell ⟨c, 38, none⟩ (.bool true)).setCell ⟨c, 39, none⟩ (.int .i64 (8))).frozen? ⟨c, 47, none⟩ = false := (K1.out.row.2 5 (by decide) 2 (by decide)).2
      have K2 : Hid (Kw w ((((wn).setCell ⟨c, 38, none⟩ (.bool true)).setCell ⟨c, 39, none⟩ (.int .i64 (8))).setCell ⟨c, 47, none⟩ (.bool true)) a c helF _) := Lib.hid (K1.out.set hac hu (j := 5) (i := 2) (by decide) (by decide) (.bool true))
      have s3 : ((((wn).setCell ⟨c, 38, none⟩ (.bool true)).setCell ⟨c, 39, none⟩ (.int .i64 (8))).setCell ⟨c, 47, none⟩ (.bool true)).cell? ⟨c, 49, none⟩ = some _ := (K2.out.row.2 5 (by decide) 4 (by decide)).1
      have t3 : ((((wn).setCell ⟨c, 38, none⟩ (.bool true)).setCell ⟨c, 39, none⟩ (.int .i64 (8))).setCell ⟨c, 47, none⟩ (.bool true)).frozen? ⟨c, 49, none⟩ = false := (K2.out.row.2 5 (by decide) 4 (by decide)).2
      have K3 : Hid (Kw w (((((wn).setCell ⟨c, 38, none⟩ (.bool true)).setCell ⟨c, 39, none⟩ (.int .i64 (8))).setCell ⟨c, 47, none⟩ (.bool true)).setCell ⟨c, 49, none⟩ (.int .i64 (4095))) a c helF _) := Lib.hid (K2.out.set hac hu (j := 5) (i := 4) (by decide) (by decide) (.int .i64 (4095)))
      have s4 : (((((wn).setCell ⟨c, 38, none⟩ (.bool true)).setCell ⟨c, 39, none⟩ (.int .i64 (8))).setCell ⟨c, 47, none⟩ (.bool true)).setCell ⟨c, 49, none⟩ (.int .i64 (4095))).cell? ⟨c, 57, none⟩ = some _ := (K3.out.row.2 6 (by decide) 3 (by decide)).1
      have t4 : (((((wn).setCell ⟨c, 38, none⟩ (.bool true)).setCell ⟨c, 39, none⟩ (.int .i64 (8))).setCell ⟨c, 47, none⟩ (.bool true)).setCell ⟨c, 49, none⟩ (.int .i64 (4095))).frozen? ⟨c, 57, none⟩ = false := (K3.out.row.2 6 (by decide) 3 (by decide)).2
      have K4 : Hid (Kw w ((((((wn).setCell ⟨c, 38, none⟩ (.bool true)).setCell ⟨c, 39, none⟩ (.int .i64 (8))).setCell ⟨c, 47, none⟩ (.bool true)).setCell ⟨c, 49, none⟩ (.int .i64 (4095))).setCell ⟨c, 57, none⟩ (.int .i64 (1))) a c helF _) := Lib.hid (K3.out.set hac hu (j := 6) (i := 3) (by decide) (by decide) (.int .i64 (1)))
      go_upto_region 9 with fail
      clear s0 t0 s1 t1 s2 t2 s3 t3 s4 t4 K K0 K1 K2 K3
      have K := K4
      clear K4
      generalize (((((wn).setCell ⟨c, 38, none⟩ (.bool true)).setCell ⟨c, 39, none⟩ (.int .i64 (8))).setCell ⟨c, 47, none⟩ (.bool true)).setCell ⟨c, 49, none⟩ (.int .i64 (4095))).setCell ⟨c, 57, none⟩ (.int .i64 (1)) = wn at *
      go_wp2_with fail
      refine (KA.out _).mono ?_; rintro e wn ⟨rfl, gr⟩
      replace K := Lib.hid (K.out.step gr)
      clear gr KA
      have s0 : (wn).cell? ⟨c, 69, none⟩ = some _ := (K.out.row.2 7 (by decide) 6 (by decide)).1
      have t0 : (wn).frozen? ⟨c, 69, none⟩ = false := (K.out.row.2 7 (by decide) 6 (by decide)).2
      have K0 : Hid (Kw w ((wn).setCell ⟨c, 69, none⟩ (.int .i64 (1))) a c helF _) := Lib.hid (K.out.set hac hu (j := 7) (i := 6) (by decide) (by decide) (.int .i64 (1)))
      have s1 : ((wn).setCell ⟨c, 69, none⟩ (.int .i64 (1))).cell? ⟨c, 77, none⟩ = some _ := (K0.out.row.2 8 (by decide) 5 (by decide)).1
      have t1 : ((wn).setCell ⟨c, 69, none⟩ (.int .i64 (1))).frozen? ⟨c, 77, none⟩ = false := (K0.out.row.2 8 (by decide) 5 (by decide)).2
      have K1 : Hid (Kw w (((wn).setCell ⟨c, 69, none⟩ (.int .i64 (1))).setCell ⟨c, 77, none⟩ (.bool true)) a c helF _) := Lib.hid (K0.out.set hac hu (j := 8) (i := 5) (by decide) (by decide) (.bool true))
      have s2 : (((wn).setCell ⟨c, 69, none⟩ (.int .i64 (1))).setCell ⟨c, 77, none⟩ (.bool true)).cell? ⟨c, 78, none⟩ = some _ := (K1.out.row.2 8 (by decide) 6 (by decide)).1
      have t2 : (((wn).setCell ⟨c, 69, none⟩ (.int .i64 (1))).setCell ⟨c, 77, none⟩ (.bool true)).frozen? ⟨c, 78, none⟩ = false := (K1.out.row.2 8 (by decide) 6 (by decide)).2
      have K2 : Hid (Kw w ((((wn).setCell ⟨c, 69, none⟩ (.int .i64 (1))).setCell ⟨c, 77, none⟩ (.bool true)).setCell ⟨c, 78, none⟩ (.int .i64 (65536))) a c helF _) := Lib.hid (K1.out.set hac hu (j := 8) (i := 6) (by decide) (by decide) (.int .i64 (65536)))
      have s3 : ((((wn).setCell ⟨c, 69, none⟩ (.int .i64 (1))).setCell ⟨c, 77, none⟩ (.bool true)).setCell ⟨c, 78, none⟩ (.int .i64 (65536))).cell? ⟨c, 88, none⟩ = some _ := (K2.out.row.2 9 (by decide) 7 (by decide)).1
      have t3 : ((((wn).setCell ⟨c, 69, none⟩ (.int .i64 (1))).setCell ⟨c, 77, none⟩ (.bool true)).setCell ⟨c, 78, none⟩ (.int .i64 (65536))).frozen? ⟨c, 88, none⟩ = false := (K2.out.row.2 9 (by decide) 7 (by decide)).2
      have K3 : Hid (Kw w (((((wn).setCell ⟨c, 69, none⟩ (.int .i64 (1))).setCell ⟨c, 77, none⟩ (.bool true)).setCell ⟨c, 78, none⟩ (.int .i64 (65536))).setCell ⟨c, 88, none⟩ (.int .i64 (61889))) a c helF _) := Lib.hid (K2.out.set hac hu (j := 9) (i := 7) (by decide) (by decide) (.int .i64 (61889)))
      have s4 : (((((wn).setCell ⟨c, 69, none⟩ (.int .i64 (1))).setCell ⟨c, 77, none⟩ (.bool true)).setCell ⟨c, 78, none⟩ (.int .i64 (65536))).setCell ⟨c, 88, none⟩ (.int .i64 (61889))).cell? ⟨c, 98, none⟩ = some _ := (K3.out.row.2 10 (by decide) 8 (by decide)).1
      have t4 : (((((wn).setCell ⟨c, 69, none⟩ (.int .i64 (1))).setCell ⟨c, 77, none⟩ (.bool true)).setCell ⟨c, 78, none⟩ (.int .i64 (65536))).setCell ⟨c, 88, none⟩ (.int .i64 (61889))).frozen? ⟨c, 98, none⟩ = false := (K3.out.row.2 10 (by decide) 8 (by decide)).2
      have K4 : Hid (Kw w ((((((wn).setCell ⟨c, 69, none⟩ (.int .i64 (1))).setCell ⟨c, 77, none⟩ (.bool true)).setCell ⟨c, 78, none⟩ (.int .i64 (65536))).setCell ⟨c, 88, none⟩ (.int .i64 (61889))).setCell ⟨c, 98, none⟩ (.string xa)) a c helF _) := Lib.hid (K3.out.set hac hu (j := 10) (i := 8) (by decide) (by decide) (.string xa))
      go_upto_region 10 with fail
      clear s0 t0 s1 t1 s2 t2 s3 t3 s4 t4 K K0 K1 K2 K3
      have K := K4
      clear K4
      generalize (((((wn).setCell ⟨c, 69, none⟩ (.int .i64 (1))).setCell ⟨c, 77, none⟩ (.bool true)).setCell ⟨c, 78, none⟩ (.int .i64 (65536))).setCell ⟨c, 88, none⟩ (.int .i64 (61889))).setCell ⟨c, 98, none⟩ (.string xa) = wn at *
      go_wp2_with fail
      refine (KB.out _).mono ?_; rintro e wn ⟨rfl, gr⟩
      replace K := Lib.hid (K.out.step gr)
      clear gr KB
      have s0 : (wn).cell? ⟨c, 104, none⟩ = some _ := (K.out.row.2 11 (by decide) 5 (by decide)).1
      have t0 : (wn).frozen? ⟨c, 104, none⟩ = false := (K.out.row.2 11 (by decide) 5 (by decide)).2
      have K0 : Hid (Kw w ((wn).setCell ⟨c, 104, none⟩ (.bool true)) a c helF _) := Lib.hid (K.out.set hac hu (j := 11) (i := 5) (by decide) (by decide) (.bool true))
      have s1 : ((wn).setCell ⟨c, 104, none⟩ (.bool true)).cell? ⟨c, 107, none⟩ = some _ := (K0.out.row.2 11 (by decide) 8 (by decide)).1
      have t1 : ((wn).setCell ⟨c, 104, none⟩ (.bool true)).frozen? ⟨c, 107, none⟩ = false := (K0.out.row.2 11 (by decide) 8 (by decide)).2
      have K1 : Hid (Kw w (((wn).setCell ⟨c, 104, none⟩ (.bool true)).setCell ⟨c, 107, none⟩ (.string xb)) a c helF _) := Lib.hid (K0.out.set hac hu (j := 11) (i := 8) (by decide) (by decide) (.string xb))
      go_upto_region 11 with fail
      clear s0 t0 s1 t1 K K0
      have K := K1
      clear K1
      generalize ((wn).setCell ⟨c, 104, none⟩ (.bool true)).setCell ⟨c, 107, none⟩ (.string xb) = wn at *
      have KQ : Hid (Kw w wn a c helF (fun j i => frC (badF j) i)) := Lib.hid (K.out.congr (by
        rw [hxa.out, hxb.out]
        intro j hj
        match j, hj with
        | 0, _ => exact nine_cases rfl rfl rfl rfl rfl rfl rfl rfl rfl
        | 1, _ => exact nine_cases rfl rfl rfl rfl rfl rfl rfl rfl rfl
        | 2, _ => exact nine_cases rfl rfl rfl rfl rfl rfl rfl rfl rfl
        | 3, _ => exact nine_cases rfl rfl rfl rfl rfl rfl rfl rfl rfl
        | 4, _ => exact nine_cases rfl rfl rfl rfl rfl rfl rfl rfl rfl
        | 5, _ => exact nine_cases rfl rfl rfl rfl rfl rfl rfl rfl rfl
        | 6, _ => exact nine_cases rfl rfl rfl rfl rfl rfl rfl rfl rfl
        | 7, _ => exact nine_cases rfl rfl rfl rfl rfl rfl rfl rfl rfl
        | 8, _ => exact nine_cases rfl rfl rfl rfl rfl rfl rfl rfl rfl
        | 9, _ => exact nine_cases rfl rfl rfl rfl rfl rfl rfl rfl rfl
        | 10, _ => exact nine_cases rfl rfl rfl rfl rfl rfl rfl rfl rfl
        | 11, _ => exact nine_cases rfl rfl rfl rfl rfl rfl rfl rfl rfl
        ))
      clear K hxa hxb
      go_wp2_with fail
      go_loopw [4] (fun i wr => ∃ k : Nat, k ≤ 12 ∧ i = .int .i64 (k : Int) ∧ Hid (Kw w wr a c helF (fun j i => frC (badF j) i))) (fun i _ => 12 - (intOf i).toNat)
      case atStart => exact ⟨0, by omega, rfl, KQ⟩
      case round =>
        clear KQ
        obtain ⟨k, hk2, rfl, K⟩ := hrel
        by_cases hlt2 : k < 12
        · have hb := badF_no k hlt2
          have K1 := Lib.hid (fun w => encode_any (badF k) w)
          have K2 := Lib.hid (fun w => wire_any (badF k) w)
          have K3 := Lib.hid (fun w => check_v (chE_f hb) w)
          rw [← enR_no hb] at K1
          rw [← wiR_no hb] at K2
          clear hb
          obtain ⟨f, hf⟩ : ∃ f, badF k = f := ⟨_, rfl⟩
          rw [hf] at K1 K2 K3
          have HBF := Lib.hid hf
          clear hf
          obtain ⟨d, sr, t, p, v, r, q, y, x⟩ := f
          unfold Fr.v at K1 K2 K3
          dsimp only at K1 K2 K3
          obtain ⟨s0, s1, s2, s3, s4, s5, s6, s7, s8⟩ := bad_cells K.out.row hlt2 HBF.out
          dsimp only at s0 s1 s2 s3 s4 s5 s6 s7 s8
          go_wp2_with fail
          refine (K1.out _).mono ?_; rintro e wn ⟨rfl, gr⟩
          replace K := Lib.hid (K.out.step gr)
          clear gr s0 s1 s2 s3 s4 s5 s6 s7 s8
          obtain ⟨s0, s1, s2, s3, s4, s5, s6, s7, s8⟩ := bad_cells K.out.row hlt2 HBF.out
          dsimp only at s0 s1 s2 s3 s4 s5 s6 s7 s8
          go_wp2_with fail
          refine (K2.out _).mono ?_; rintro e wn ⟨rfl, gr⟩
          replace K := Lib.hid (K.out.step gr)
          clear gr s0 s1 s2 s3 s4 s5 s6 s7 s8
          obtain ⟨s0, s1, s2, s3, s4, s5, s6, s7, s8⟩ := bad_cells K.out.row hlt2 HBF.out
          dsimp only at s0 s1 s2 s3 s4 s5 s6 s7 s8
          go_wp2_with fail
          refine (K3.out _).mono ?_; rintro e wn ⟨rfl, gr⟩
          replace K := Lib.hid (K.out.step gr)
          clear gr s0 s1 s2 s3 s4 s5 s6 s7 s8
          go_wp2_with fail
          go_roundw
          case rel => exact ⟨k + 1, by omega, by go_num, K⟩
          case measure => simp [intOf]; omega
        · obtain rfl : k = 12 := by omega
          rw [show ((12 : Nat) : Int) = 12 from rfl]
          rename World => wn
          have G := Lib.hid K.out.bl
          clear K
          have KR1 := Lib.hid (fun w => repeat_any 121 1494 (by decide) w)
          have KR2 := Lib.hid (fun w => repeat_any 0 60 (by decide) w)
          have KW := Lib.hid (fun w => works_any w)
          have KB1 := Lib.hid (fun w => back_t fulF fulF ful_ok (by rw [back_pad ful_ok, ful_pad]) w)
          have KS1 := Lib.hid (fun w => size_t fulF 1542 (ok_iff.2 ful_ok) ful_size w)
          have KB2 := Lib.hid (fun w => back_t zoF zoF zo_ok (by rw [back_pad zo_ok, zo_pad]) w)
          have KS2 := Lib.hid (fun w => size_t zoF 84 (ok_iff.2 zo_ok) zo_size w)
          unfold fulF Fr.v at KB1 KS1
          unfold zoF Fr.v at KB2 KS2
          dsimp only at KB1 KS1 KB2 KS2
          have KM0 := Lib.hid (fun w => malformed_t ⟨#[]⟩ (by decide) (dec_small (by decide)) w)
          have hr60 : (cop 0 60).size = 60 := cop_size _ _
          have KE1 := Lib.hid (fun w => seal_any ((cop 0 60).extract 0 59) (by rw [ByteArray.size_extract]; omega) w)
          have KM1 := Lib.hid (fun w => malformed_t (sealB ((cop 0 60).extract 0 59) 0) (by rw [sealB_size, ByteArray.size_extract]; omega) (dec_small (by rw [sealB_size, ByteArray.size_extract]; omega)) w)
          have hz2 : (hed ++ ⟨#[0, 0]⟩ ++ cop 0 60).size = 74 := by rw [ByteArray.size_append, ByteArray.size_append, hr60]; rfl
          have KE2 := Lib.hid (fun w => seal_any (hed ++ ⟨#[0, 0]⟩ ++ cop 0 60) (by omega) w)
          have KM2 := Lib.hid (fun w => malformed_t (sealB (hed ++ ⟨#[0, 0]⟩ ++ cop 0 60) 0) (by rw [sealB_size]; omega) (noB_dec long_1) w)
          have KR3 := Lib.hid (fun w => repeat_any 120 1501 (by decide) w)
          have hx3 : (cop 120 1501).size = 1501 := cop_size _ _
          have KE3 := Lib.hid (fun w => seal_any lonS (by rw [lonS_size]; decide) w)
          have KM3 := Lib.hid (fun w => malformed_t (sealB lonS 0) (by rw [sealB_size, lonS_size]; decide) long_2 w)
          have h1 : ∀ W : World, (Op.stringOp .add ⟨#[0, 0, 0, 0, 0, 1, 0, 0, 0, 0, 0, 2]⟩ ⟨#[0, 0]⟩).run Try.prog W = .ok (.string (hed ++ ⟨#[0, 0]⟩)) W := fun W => run_string_add W _ _ (by decide) (by decide)
          have h2 : ∀ W : World, (Op.stringOp .add (hed ++ ⟨#[0, 0]⟩) (cop 0 60)).run Try.prog W = .ok (.string (hed ++ ⟨#[0, 0]⟩ ++ cop 0 60)) W := fun W => run_string_add W _ _ (by decide) (by rw [hr60]; decide)
          have h3 : ∀ W : World, (Op.stringOp .add ⟨#[0, 0, 0, 0, 0, 1, 0, 0, 0, 0, 0, 2]⟩ ⟨#[8, 0]⟩).run Try.prog W = .ok (.string (hed ++ ⟨#[8, 0]⟩)) W := fun W => run_string_add W _ _ (by decide) (by decide)
          have h4 : ∀ W : World, (Op.stringOp .add (hed ++ ⟨#[8, 0]⟩) (cop 120 1501)).run Try.prog W = .ok (.string lonS) W := fun W => run_string_add W _ _ (by decide) (by rw [hx3]; decide)
          have HS : Hid (∀ z : ByteArray, z.size ≤ 8 → (∀ W : World, (Op.stringOp .add ⟨#[0, 0, 0, 0, 0, 1, 0, 0, 0, 0, 0, 2]⟩ z).run Try.prog W = .ok (.string (hed ++ z)) W) ∧ (∀ W : World, (Op.stringOp .add (hed ++ z) (cop 0 60)).run Try.prog W = .ok (.string (hed ++ z ++ cop 0 60)) W) ∧ (60 : Int) ≤ ((hed ++ z ++ cop 0 60).size : Int) ∧ (bent z).size = 60) := Lib.hid (fun z hz => by
            have hh : (hed ++ z).size = 12 + z.size := by rw [ByteArray.size_append]; rfl
            have hq : (hed ++ z ++ cop 0 60).size = 72 + z.size := by rw [ByteArray.size_append, hh, hr60]; omega
            exact ⟨fun W => run_string_add W _ _ (by decide) (by omega), fun W => run_string_add W _ _ (by omega) (by rw [hr60]; decide), by omega, by unfold bent; rw [ByteArray.size_extract]; omega⟩)
          generalize lonS = ls at *
          clear hx3
          generalize cop 121 1494 = yy at *
          go_wp2_with fail
          refine (KR1.out _).mono ?_; rintro e wn ⟨rfl, gr⟩
          replace G := Lib.hid (Bl.trans G.out gr); clear gr KR1
          go_upto_region 19 with fail
          have F9 := Lib.hid (Fb.new wn 23 { dst := 281474976710655, src := 281474976710655, tag := true, prio := 7, vid := 4094, red := true, seq := 65535, typ := 65535, data := yy })
          replace G := Lib.hid (Bl.alloc G.out (.cells #[.int .i64 281474976710655, .int .i64 281474976710655, .bool true, .int .i64 7, .int .i64 4094, .bool true, .int .i64 65535, .int .i64 65535, .string yy] 23))
          dsimp only at F9
          generalize wn.heap.size = c9 at *
          generalize wn.alloc (.cells #[.int .i64 281474976710655, .int .i64 281474976710655, .bool true, .int .i64 7, .int .i64 4094, .bool true, .int .i64 65535, .int .i64 65535, .string yy] 23) = wn at *
          go_upto_region 20 with fail
          have F0 := Lib.hid (Fb.new wn 23 { dst := 0, src := 0, tag := false, prio := 0, vid := 0, red := false, seq := 0, typ := 0, data := ⟨#[]⟩ })
          replace F9 := Lib.hid (F9.out.alloc (.cells #[.int .i64 0, .int .i64 0, .bool false, .int .i64 0, .int .i64 0, .bool false, .int .i64 0, .int .i64 0, .string ⟨#[]⟩] 23))
          replace G := Lib.hid (Bl.alloc G.out (.cells #[.int .i64 0, .int .i64 0, .bool false, .int .i64 0, .int .i64 0, .bool false, .int .i64 0, .int .i64 0, .string ⟨#[]⟩] 23))
          dsimp only at F0
          generalize wn.heap.size = c10 at *
          generalize wn.alloc (.cells #[.int .i64 0, .int .i64 0, .bool false, .int .i64 0, .int .i64 0, .bool false, .int .i64 0, .int .i64 0, .string ⟨#[]⟩] 23) = wn at *
          go_wp2_with fail
          refine (KR2.out _).mono ?_; rintro e wn ⟨rfl, gr⟩
          replace F9 := Lib.hid (F9.out.bl gr)
          replace F0 := Lib.hid (F0.out.bl gr)
          replace G := Lib.hid (Bl.trans G.out gr)
          clear gr KR2
          go_wp2_with fail
          go_loopw [101] (fun i wr => ∃ k : Nat, k ≤ 7 ∧ i = .int .i64 (k : Int) ∧ Hid (Fb wr c9 { dst := 281474976710655, src := 281474976710655, tag := true, prio := 7, vid := 4094, red := true, seq := 65535, typ := 65535, data := yy } ∧ Fb wr c10 { dst := 0, src := 0, tag := false, prio := 0, vid := 0, red := false, seq := 0, typ := 0, data := ⟨#[]⟩ } ∧ Bl w wr)) (fun i _ => 7 - (intOf i).toNat)
          case atStart => exact ⟨0, by omega, rfl, Lib.hid ⟨F9.out, F0.out, G.out⟩⟩
          case round =>
            clear F9 F0 G
            obtain ⟨k, hk3, rfl, K⟩ := hrel
            by_cases hlt3 : k < 7
            · clear h1 h2 h3 h4 KW KB1 KS1 KB2 KS2 KM0 KE1 KM1 KE2 KM2 KR3 KE3 KM3 hz2 hr60
              obtain ⟨z, hz, hno, hrun⟩ := seven_heads k hlt3
              obtain ⟨a1, a2, a3, a4⟩ := HS.out z hz.1
              have KE := Lib.hid (fun w => seal_any (bent z) (by omega) w)
              have KM := Lib.hid (fun w => malformed_t (sealB (bent z) 0) (by rw [sealB_size]; omega) (noB_dec hno) w)
              clear a4 hno hz HS
              unfold bent at KE KM
              go_wp2_with fail
              refine (KE.out _).mono ?_; rintro e wn ⟨rfl, gr⟩
              replace K := Lib.hid (show _ ∧ _ ∧ _ from ⟨K.out.1.bl gr, K.out.2.1.bl gr, Bl.trans K.out.2.2 gr⟩)
              clear gr
              go_wp2_with fail
              refine (KM.out _).mono ?_; rintro e wn ⟨rfl, gr⟩
              replace K := Lib.hid (show _ ∧ _ ∧ _ from ⟨K.out.1.bl gr, K.out.2.1.bl gr, Bl.trans K.out.2.2 gr⟩)
              clear gr
              go_wp2_with fail
              go_roundw
              case rel => exact ⟨k + 1, by omega, by go_num, K⟩
              case measure => simp [intOf]; omega
            · clear HS
              have F9 := Lib.hid K.out.1
              have F0 := Lib.hid K.out.2.1
              have G := Lib.hid K.out.2.2
              clear K
              go_wp2_with fail
              refine (KW.out _).mono ?_; rintro e wn ⟨rfl, gr⟩
              replace F9 := Lib.hid (F9.out.bl gr)
              replace F0 := Lib.hid (F0.out.bl gr)
              replace G := Lib.hid (Bl.trans G.out gr)
              clear gr
              obtain ⟨q0, q1, q2, q3, q4, q5, q6, q7, q8⟩ := F9.out.cells
              dsimp only at q0 q1 q2 q3 q4 q5 q6 q7 q8
              go_wp2_with fail
              refine (KB1.out _).mono ?_; rintro e wn ⟨rfl, gr⟩
              replace F9 := Lib.hid (F9.out.bl gr)
              replace F0 := Lib.hid (F0.out.bl gr)
              replace G := Lib.hid (Bl.trans G.out gr)
              clear gr q0 q1 q2 q3 q4 q5 q6 q7 q8
              obtain ⟨q0, q1, q2, q3, q4, q5, q6, q7, q8⟩ := F9.out.cells
              dsimp only at q0 q1 q2 q3 q4 q5 q6 q7 q8
              go_wp2_with fail
              refine (KS1.out _).mono ?_; rintro e wn ⟨rfl, gr⟩
              replace F9 := Lib.hid (F9.out.bl gr)
              replace F0 := Lib.hid (F0.out.bl gr)
              replace G := Lib.hid (Bl.trans G.out gr)
              clear gr q0 q1 q2 q3 q4 q5 q6 q7 q8
              obtain ⟨q0, q1, q2, q3, q4, q5, q6, q7, q8⟩ := F0.out.cells
              dsimp only at q0 q1 q2 q3 q4 q5 q6 q7 q8
              go_wp2_with fail
              refine (KB2.out _).mono ?_; rintro e wn ⟨rfl, gr⟩
              replace F9 := Lib.hid (F9.out.bl gr)
              replace F0 := Lib.hid (F0.out.bl gr)
              replace G := Lib.hid (Bl.trans G.out gr)
              clear gr q0 q1 q2 q3 q4 q5 q6 q7 q8
              obtain ⟨q0, q1, q2, q3, q4, q5, q6, q7, q8⟩ := F0.out.cells
              dsimp only at q0 q1 q2 q3 q4 q5 q6 q7 q8
              go_wp2_with fail
              refine (KS2.out _).mono ?_; rintro e wn ⟨rfl, gr⟩
              replace F9 := Lib.hid (F9.out.bl gr)
              replace F0 := Lib.hid (F0.out.bl gr)
              replace G := Lib.hid (Bl.trans G.out gr)
              clear gr q0 q1 q2 q3 q4 q5 q6 q7 q8
              go_wp2_with fail
              refine (KM0.out _).mono ?_; rintro e wn ⟨rfl, gr⟩
              replace F9 := Lib.hid (F9.out.bl gr)
              replace F0 := Lib.hid (F0.out.bl gr)
              replace G := Lib.hid (Bl.trans G.out gr)
              clear gr
              go_wp2_with fail
              refine (KE1.out _).mono ?_; rintro e wn ⟨rfl, gr⟩
              replace F9 := Lib.hid (F9.out.bl gr)
              replace F0 := Lib.hid (F0.out.bl gr)
              replace G := Lib.hid (Bl.trans G.out gr)
              clear gr
              go_wp2_with fail
              refine (KM1.out _).mono ?_; rintro e wn ⟨rfl, gr⟩
              replace F9 := Lib.hid (F9.out.bl gr)
              replace F0 := Lib.hid (F0.out.bl gr)
              replace G := Lib.hid (Bl.trans G.out gr)
              clear gr
              go_wp2_with fail
              refine (KE2.out _).mono ?_; rintro e wn ⟨rfl, gr⟩
              replace F9 := Lib.hid (F9.out.bl gr)
              replace F0 := Lib.hid (F0.out.bl gr)
              replace G := Lib.hid (Bl.trans G.out gr)
              clear gr
              go_wp2_with fail
              refine (KM2.out _).mono ?_; rintro e wn ⟨rfl, gr⟩
              replace F9 := Lib.hid (F9.out.bl gr)
              replace F0 := Lib.hid (F0.out.bl gr)
              replace G := Lib.hid (Bl.trans G.out gr)
              clear gr
              go_wp2_with fail
              refine (KR3.out _).mono ?_; rintro e wn ⟨rfl, gr⟩
              replace F9 := Lib.hid (F9.out.bl gr)
              replace F0 := Lib.hid (F0.out.bl gr)
              replace G := Lib.hid (Bl.trans G.out gr)
              clear gr
              go_wp2_with fail
              refine (KE3.out _).mono ?_; rintro e wn ⟨rfl, gr⟩
              replace F9 := Lib.hid (F9.out.bl gr)
              replace F0 := Lib.hid (F0.out.bl gr)
              replace G := Lib.hid (Bl.trans G.out gr)
              clear gr
              go_wp2_with fail
              refine (KM3.out _).mono ?_; rintro e wn ⟨rfl, gr⟩
              replace F9 := Lib.hid (F9.out.bl gr)
              replace F0 := Lib.hid (F0.out.bl gr)
              replace G := Lib.hid (Bl.trans G.out gr)
              clear gr
              go_wp2_with fail
              go_ret
              exact ⟨rfl, G.out⟩
end Go.Proofs.Ytmhdgpmlconngaa
