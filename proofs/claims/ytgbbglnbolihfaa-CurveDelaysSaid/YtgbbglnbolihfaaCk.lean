/-
  What delayed and works of the law's package return.
-/
import Derived.Test.YtgbbglnbolihfaaCj
namespace Go.Proofs.Ytgbbglnbolihfaa
open Go.RowKit Go.Shelf

theorem Tr.two {w : World} {c : Nat} {a b p q : Int} (h0 : w.cell? ⟨c, 0, none⟩ = some (.int .i64 a)) (h1 : w.cell? ⟨c, 1, none⟩ = some (.int .i64 b)) (h2 : w.cell? ⟨c, 2, none⟩ = some (.int .i64 p)) (h3 : w.cell? ⟨c, 3, none⟩ = some (.int .i64 q)) : Tr w (some ⟨c, 0, none⟩) [(a, b), (p, q)] := fun k hk => by
  obtain rfl | rfl : k = 0 ∨ k = 1 := by simp at hk; omega
  · exact ⟨c, 0, rfl, cell_lt h0, h0, h1⟩
  · exact ⟨c, 0, rfl, cell_lt h0, h2, h3⟩
theorem Tr.three {w : World} {c : Nat} {a b p q x y : Int} (h0 : w.cell? ⟨c, 0, none⟩ = some (.int .i64 a)) (h1 : w.cell? ⟨c, 1, none⟩ = some (.int .i64 b)) (h2 : w.cell? ⟨c, 2, none⟩ = some (.int .i64 p)) (h3 : w.cell? ⟨c, 3, none⟩ = some (.int .i64 q)) (h4 : w.cell? ⟨c, 4, none⟩ = some (.int .i64 x)) (h5 : w.cell? ⟨c, 5, none⟩ = some (.int .i64 y)) : Tr w (some ⟨c, 0, none⟩) [(a, b), (p, q), (x, y)] := fun k hk => by
  obtain rfl | rfl | rfl : k = 0 ∨ k = 1 ∨ k = 2 := by simp at hk; omega
  · exact ⟨c, 0, rfl, cell_lt h0, h0, h1⟩
  · exact ⟨c, 0, rfl, cell_lt h0, h2, h3⟩
  · exact ⟨c, 0, rfl, cell_lt h0, h4, h5⟩

set_option maxHeartbeats 400000 in
/-- delayed, where Delay gives the number. -/
theorem delayed_t {xs : List (Int × Int)} {r l n : Int} (hv : deV xs r l = n) (he : flE xs r l = 0) (A : Option Addr) (cap : Nat) (w : World) (hn : (xs.length : Int) ≤ 9223372036854775807) (hT : Tr w A xs) :
    Calls Try.prog 44 #[.agg #[.int .i64 r, .int .i64 l], .int .i64 n, .slice A xs.length cap] w fun e w' => e = .returned (.bool true) ∧ Bl w w' := by
  have K := Lib.hid (fun w (h : Tr w A xs) => by have := delay_any xs A cap r l w hn h; rw [hv, he] at this; exact this)
  have HT := Lib.hid hT
  clear hT hv he
  go_enter Try.func44, Try.ntmps44
  go_wp2_with fail
  refine (K.out _ (HT.out.go ((Bl.refl w).alloc _))).mono ?_; rintro e w1 ⟨rfl, gr⟩
  have G := Lib.hid (Bl.trans ((Bl.refl w).alloc _) gr)
  clear gr
  go_wp2_with fail
  go_ret
  exact ⟨rfl, G.out⟩

theorem wk1 : deV [(1000, 65536)] 131072 100 = 8100 ∧ flE [(1000, 65536)] 131072 100 = 0 := by decide +kernel
theorem wk2 : deV [(1001, 131072)] 131072 100 = 8108 ∧ flE [(1001, 131072)] 131072 100 = 0 := by decide +kernel
theorem wk3 : deV [(1000, 65536), (100, 262144)] 131072 100 = 5700 ∧ flE [(1000, 65536), (100, 262144)] 131072 100 = 0 := by decide +kernel
theorem wk4 : deV [(1, 262144)] 131072 100 = 0 ∧ flE [(1, 262144)] 131072 100 = 141 := by decide +kernel
theorem wk5 : baV 1000 65536 131072 100 = 1007 ∧ flE [(1000, 65536)] 131072 100 = 0 := by decide +kernel
theorem wk6 : ouB 1000 65536 131072 100 = 1507 ∧ ouR 1000 65536 131072 100 = 65536 ∧ ouE 1000 65536 131072 100 = 0 := by decide +kernel
theorem wk7 : joR 131072 100 65536 5 = 65536 ∧ joL 131072 100 65536 5 = 105 ∧ joE 131072 100 65536 5 = 0 := by decide +kernel
theorem wk8 : drE [(0, 100), (10, 50), (2000, 1)] 131072 100 = 0 ∧ smB 3 3 (dep [(0, 100), (10, 50), (2000, 1)] 131072 100) (fun k => [900, 1300, 2108].getD k 0) = true := by decide +kernel

theorem iv_three {w : World} {c : Nat} {x y z : Int} (h0 : w.cell? ⟨c, 0, none⟩ = some (.int .i64 x)) (h1 : w.cell? ⟨c, 1, none⟩ = some (.int .i64 y)) (h2 : w.cell? ⟨c, 2, none⟩ = some (.int .i64 z)) : Iv w (some ⟨c, 0, none⟩) 3 (fun k => [x, y, z].getD k 0) := fun k hk => by
  obtain rfl | rfl | rfl : k = 0 ∨ k = 1 ∨ k = 2 := by omega
  · exact ⟨c, 0, rfl, h0⟩
  · exact ⟨c, 0, rfl, h1⟩
  · exact ⟨c, 0, rfl, h2⟩

set_option maxRecDepth 100000 in
set_option maxHeartbeats 4000000 in
theorem cworks_any (w : World) : Calls Try.prog 32 #[] w fun e w' => e = .returned (.bool true) ∧ Bl w w' := by
  have K1 := Lib.hid (fun (c : Nat) (W : World) h0 h1 => delayed_t wk1.1 wk1.2 (some ⟨c, 0, none⟩) 1 W (by decide) (Tr.one h0 h1))
  have K2 := Lib.hid (fun (c : Nat) (W : World) h0 h1 => delayed_t wk2.1 wk2.2 (some ⟨c, 0, none⟩) 1 W (by decide) (Tr.one h0 h1))
  have K3 := Lib.hid (fun (c : Nat) (W : World) h0 h1 h2 h3 => delayed_t wk3.1 wk3.2 (some ⟨c, 0, none⟩) 2 W (by decide) (Tr.two h0 h1 h2 h3))
  have K4 := Lib.hid (fun (c : Nat) (W : World) h0 h1 => delay1 (c := c) (w := W) wk4.1 wk4.2 h0 h1)
  have K5 := Lib.hid (fun (W : World) => by have := backlog_any 1000 65536 131072 100 W; rw [wk5.1, wk5.2] at this; exact this)
  have K6 := Lib.hid (fun (W : World) => by have := output_any 1000 65536 131072 100 W; rw [wk6.1, wk6.2.1, wk6.2.2] at this; exact this)
  have K7 := Lib.hid (fun (W : World) => by have := join_any 131072 100 65536 5 W; rw [wk7.1, wk7.2.1, wk7.2.2] at this; exact this)
  have K8 := Lib.hid (fun (c : Nat) (W : World) h0 h1 h2 h3 h4 h5 => by have := drain_any [(0, 100), (10, 50), (2000, 1)] (some ⟨c, 0, none⟩) 3 131072 100 W (by decide) (Tr.three h0 h1 h2 h3 h4 h5); rw [wk8.1] at this; exact this)
  have K9 := Lib.hid (fun (b c : Nat) (W : World) (hI : Iv W (some ⟨b, 0, none⟩) 3 (dep [(0, 100), (10, 50), (2000, 1)] 131072 100)) h0 h1 h2 => by have := same_any (some ⟨b, 0, none⟩) (some ⟨c, 0, none⟩) 3 3 3 3 _ _ W (by decide) (by decide) hI (iv_three (c := c) (x := 900) (y := 1300) (z := 2108) h0 h1 h2); rw [wk8.2] at this; exact this)
  go_enter Try.func32, Try.ntmps32
  go_wp2_with fail
  refine Calls.mono (K1.out _ _ ?_ ?_ ) ?_
  iterate 2 (· simp [go_sem])
  rintro e w1 ⟨rfl, gr⟩
  have g1 : Bl ((w.alloc (.cells #[.int .i64 131072, .int .i64 100] 54)).alloc (.cells #[.int .i64 1000, .int .i64 65536] 30)) w1 := Bl.trans (by (repeat (first | exact Bl.refl _ | with_reducible refine Bl.alloc ?_ _))) gr
  have SA1 := Lib.hid (((Sl.new w 131072 100 54).go ((Bl.refl _).alloc (.cells #[.int .i64 1000, .int .i64 65536] 30))).go g1)
  have SB1 := Lib.hid (show Sl (w.heap.size + 1) 1000 65536 w1 by have h := Sl.new (w.alloc (.cells #[.int .i64 131072, .int .i64 100] 54)) 1000 65536 30; rw [World.size_alloc] at h; exact h.go g1)
  have BW1 := Lib.hid (Bl.trans (((Bl.refl w).alloc _).alloc _) g1)
  clear gr g1
  generalize w.heap.size = a at *
  have s0 := SA1.out.c0
  have s1 := SA1.out.c1
  have b0 := SB1.out.c0
  have b1 := SB1.out.c1
  have sl := SA1.out.lt
  have bl := SB1.out.lt
  go_wp2_with fail
  refine Calls.mono (K2.out _ _ ?_ ?_ ) ?_
  iterate 2 (· simp [go_sem])
  rintro e w2 ⟨rfl, gr⟩
  have g2 : Bl w1 w2 := Bl.trans (by (repeat (first | exact Bl.refl _ | with_reducible refine Bl.alloc ?_ _))) gr
  have SA2 := Lib.hid (SA1.out.go g2)
  have SB2 := Lib.hid (SB1.out.go g2)
  have BW2 := Lib.hid (BW1.out.trans g2)
  clear gr g2 s0 s1 b0 b1 sl bl SA1 SB1 BW1
  have s0 := SA2.out.c0
  have s1 := SA2.out.c1
  have b0 := SB2.out.c0
  have b1 := SB2.out.c1
  have sl := SA2.out.lt
  have bl := SB2.out.lt
  go_wp2_with fail
  refine Calls.mono (K3.out _ _ ?_ ?_ ?_ ?_ ) ?_
  iterate 4 (· simp [go_sem])
  rintro e w3 ⟨rfl, gr⟩
  have g3 : Bl w2 w3 := Bl.trans (by (repeat (first | exact Bl.refl _ | with_reducible refine Bl.alloc ?_ _))) gr
  have SA3 := Lib.hid (SA2.out.go g3)
  have SB3 := Lib.hid (SB2.out.go g3)
  have BW3 := Lib.hid (BW2.out.trans g3)
  clear gr g3 s0 s1 b0 b1 sl bl SA2 SB2 BW2
  have s0 := SA3.out.c0
  have s1 := SA3.out.c1
  have b0 := SB3.out.c0
  have b1 := SB3.out.c1
  have sl := SA3.out.lt
  have bl := SB3.out.lt
  go_wp2_with fail
  refine Calls.mono (K4.out _ _ ?_ ?_ ) ?_
  iterate 2 (· simp [go_sem])
  rintro e w4 ⟨rfl, gr⟩
  have g4 : Bl w3 w4 := Bl.trans (by (repeat (first | exact Bl.refl _ | with_reducible refine Bl.alloc ?_ _))) gr
  have SA4 := Lib.hid (SA3.out.go g4)
  have SB4 := Lib.hid (SB3.out.go g4)
  have BW4 := Lib.hid (BW3.out.trans g4)
  clear gr g4 s0 s1 b0 b1 sl bl SA3 SB3 BW3
  have s0 := SA4.out.c0
  have s1 := SA4.out.c1
  have b0 := SB4.out.c0
  have b1 := SB4.out.c1
  have sl := SA4.out.lt
  have bl := SB4.out.lt
  go_wp2_with fail
  refine Calls.mono (K5.out _ ) ?_
  rintro e w5 ⟨rfl, gr⟩
  have g5 : Bl w4 w5 := Bl.trans (by (repeat (first | exact Bl.refl _ | with_reducible refine Bl.alloc ?_ _))) gr
  have SA5 := Lib.hid (SA4.out.go g5)
  have SB5 := Lib.hid (SB4.out.go g5)
  have BW5 := Lib.hid (BW4.out.trans g5)
  clear gr g5 s0 s1 b0 b1 sl bl SA4 SB4 BW4
  have s0 := SA5.out.c0
  have s1 := SA5.out.c1
  have b0 := SB5.out.c0
  have b1 := SB5.out.c1
  have sl := SA5.out.lt
  have bl := SB5.out.lt
  go_wp2_with fail
  refine Calls.mono (K6.out _ ) ?_
  rintro e w6 ⟨rfl, gr⟩
  have g6 : Bl w5 w6 := Bl.trans (by (repeat (first | exact Bl.refl _ | with_reducible refine Bl.alloc ?_ _))) gr
  have SA6 := Lib.hid (SA5.out.go g6)
  have SB6 := Lib.hid (SB5.out.go g6)
  have BW6 := Lib.hid (BW5.out.trans g6)
  clear gr g6 s0 s1 b0 b1 sl bl SA5 SB5 BW5
  have s0 := SA6.out.c0
  have s1 := SA6.out.c1
  have b0 := SB6.out.c0
  have b1 := SB6.out.c1
  have sl := SA6.out.lt
  have bl := SB6.out.lt
  go_wp2_with fail
  refine Calls.mono (K7.out _ ) ?_
  rintro e w7 ⟨rfl, gr⟩
  have g7 : Bl w6 w7 := Bl.trans (by (repeat (first | exact Bl.refl _ | with_reducible refine Bl.alloc ?_ _))) gr
  have SA7 := Lib.hid (SA6.out.go g7)
  have SB7 := Lib.hid (SB6.out.go g7)
  have BW7 := Lib.hid (BW6.out.trans g7)
  have SO := Lib.hid (Sl.newP gr)
  generalize w6.heap.size = ob at *
  clear gr g7 s0 s1 b0 b1 sl bl SA6 SB6 BW6
  have s0 := SA7.out.c0
  have s1 := SA7.out.c1
  have b0 := SB7.out.c0
  have b1 := SB7.out.c1
  have sl := SA7.out.lt
  have bl := SB7.out.lt
  go_wp2_with fail
  refine Calls.mono (K8.out _ _ ?_ ?_ ?_ ?_ ?_ ?_ ) ?_
  iterate 6 (· simp [go_sem])
  rintro e w8 ⟨v, rfl, hv, gr⟩
  have g8 : Bl w7 w8 := Bl.trans (by (repeat (first | exact Bl.refl _ | with_reducible refine Bl.alloc ?_ _))) gr
  have SA8 := Lib.hid (SA7.out.go g8)
  have SB8 := Lib.hid (SB7.out.go g8)
  have BW8 := Lib.hid (BW7.out.trans g8)
  have SJ := Lib.hid ((Sl.new w7 65536 105 54).go (Bl.trans ((Bl.refl _).alloc _) gr))
  have SO2 := Lib.hid (SO.out.go g8)
  clear SO
  generalize w7.heap.size = jb at *
  obtain ⟨hne, _⟩ | ⟨_, db, rfl, _, hI⟩ := hv
  · exact absurd wk8.1 hne
  have HI := Lib.hid hI
  clear hI
  have o0 := SO2.out.c0
  have o1 := SO2.out.c1
  have j0 := SJ.out.c0
  have j1 := SJ.out.c1
  have ol := SO2.out.lt
  have jl := SJ.out.lt
  clear gr g8 s0 s1 b0 b1 sl bl SA7 SB7 BW7
  have s0 := SA8.out.c0
  have s1 := SA8.out.c1
  have b0 := SB8.out.c0
  have b1 := SB8.out.c1
  have sl := SA8.out.lt
  have bl := SB8.out.lt
  go_wp2_with fail
  refine Calls.mono (K9.out _ _ _ (HI.out.go ((Bl.refl _).alloc _)) ?_ ?_ ?_) ?_
  iterate 3 (· simp [go_sem])
  rintro e w9 ⟨rfl, gr⟩
  have BW9 := Lib.hid (BW8.out.trans (Bl.trans (by (repeat (first | exact Bl.refl _ | with_reducible refine Bl.alloc ?_ _))) gr))
  clear gr
  go_wp2_with fail
  go_ret
  exact ⟨rfl, BW9.out⟩

end Go.Proofs.Ytgbbglnbolihfaa
