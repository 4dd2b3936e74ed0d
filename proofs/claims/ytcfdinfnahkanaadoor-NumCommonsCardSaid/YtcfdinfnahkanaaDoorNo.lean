/-
  The examples of the chapter: works returns true, whatever the world, if the table of TrailingZeros64 lies in its variable.
-/
import Derived.Test.YtcfdinfnahkanaaDoorNl
namespace Go.Proofs.YtcfdinfnahkanaaDoor
open Go.RowKit

set_option maxHeartbeats 400000 in
theorem is_yes (n : Int) (w : World) :
    Calls Tryd.prog 31 #[.int .i64 n, .bool true, .int .i64 n] w fun e w' => e = .returned (.bool true) ∧ w = w' := by
  go_enter Tryd.func31, Tryd.ntmps31
  go_wp2
  go_ret
  exact ⟨rfl, rfl⟩
set_option maxHeartbeats 400000 in
theorem no_yes (w : World) :
    Calls Tryd.prog 32 #[.int .i64 0, .bool false] w fun e w' => e = .returned (.bool true) ∧ w = w' := by
  go_enter Tryd.func32, Tryd.ntmps32
  go_wp2
  go_ret
  exact ⟨rfl, rfl⟩

theorem row_new (zs : List Int) (w : World) (c : Array Value) (t : TypeId) (hl : zs.length ≤ 9223372036854775807) (h : ∀ k, k < zs.length → (w.alloc (.cells c t)).cell? ⟨w.heap.size, 0 + k, none⟩ = some (.int .i64 (zs.getD k 0))) :
    Row (w.alloc (.cells c t)) (some ⟨w.heap.size, 0, none⟩) zs :=
  ⟨hl, fun k hk => ⟨w.heap.size, 0, rfl, by simp, h k hk⟩⟩
theorem row_nil (w : World) : Row w none [] := ⟨by simp, fun k hk => absurd hk (by simp)⟩
theorem ex0 (w : World) : Calls Tryd.prog 12 #[.int .i64 2, .int .i64 3] w fun e w' => e = .returned (.tuple #[.int .i64 5, .bool true]) ∧ Grown w w' := by
  refine (add_any (2) (3) w).mono ?_
  rintro e w' ⟨rfl, hg⟩
  refine ⟨?_, hg⟩
  unfold res
  congr 1

theorem ex1 (w : World) : Calls Tryd.prog 12 #[.int .i64 1125899906842624, .int .i64 1] w fun e w' => e = .returned (.tuple #[.int .i64 0, .bool false]) ∧ Grown w w' := by
  refine (add_any (1125899906842624) (1) w).mono ?_
  rintro e w' ⟨rfl, hg⟩
  refine ⟨?_, hg⟩
  unfold res
  congr 1

theorem ex2 (w : World) : Calls Tryd.prog 12 #[.int .i64 1125899906842625, .int .i64 (-5)] w fun e w' => e = .returned (.tuple #[.int .i64 0, .bool false]) ∧ Grown w w' := by
  refine (add_any (1125899906842625) (-5) w).mono ?_
  rintro e w' ⟨rfl, hg⟩
  refine ⟨?_, hg⟩
  unfold res
  congr 1

theorem ex3 (w : World) : Calls Tryd.prog 16 #[.int .i64 (-4), .int .i64 5] w fun e w' => e = .returned (.tuple #[.int .i64 (-20), .bool true]) ∧ Grown w w' := by
  refine (mul_any (-4) (5) w).mono ?_
  rintro e w' ⟨rfl, hg⟩
  refine ⟨?_, hg⟩
  unfold res
  congr 1

theorem ex4 (w : World) : Calls Tryd.prog 16 #[.int .i64 67108864, .int .i64 16777216] w fun e w' => e = .returned (.tuple #[.int .i64 1125899906842624, .bool true]) ∧ Grown w w' := by
  refine (mul_any (67108864) (16777216) w).mono ?_
  rintro e w' ⟨rfl, hg⟩
  refine ⟨?_, hg⟩
  unfold res
  congr 1

theorem ex5 (w : World) : Calls Tryd.prog 16 #[.int .i64 67108864, .int .i64 33554432] w fun e w' => e = .returned (.tuple #[.int .i64 0, .bool false]) ∧ Grown w w' := by
  refine (mul_any (67108864) (33554432) w).mono ?_
  rintro e w' ⟨rfl, hg⟩
  refine ⟨?_, hg⟩
  unfold res
  congr 1

theorem ex12 (w : World) : Calls Tryd.prog 19 #[.int .i64 (-7), .int .i64 2] w fun e w' => e = .returned (.tuple #[.int .i64 (-4), .bool true]) ∧ Grown w w' := by
  refine (fdiv_any (-7) (2) w).mono ?_
  rintro e w' ⟨rfl, hg⟩
  refine ⟨?_, hg⟩
  unfold res
  congr 1

theorem ex13 (w : World) : Calls Tryd.prog 21 #[.int .i64 (-7), .int .i64 2] w fun e w' => e = .returned (.tuple #[.int .i64 (-3), .bool true]) ∧ Grown w w' := by
  refine (cdiv_any (-7) (2) w (by decide) (by decide)).mono ?_
  rintro e w' ⟨rfl, hg⟩
  refine ⟨?_, hg⟩
  unfold res
  congr 1

theorem ex14 (w : World) : Calls Tryd.prog 23 #[.int .i64 (-7), .int .i64 2] w fun e w' => e = .returned (.tuple #[.int .i64 1, .bool true]) ∧ Grown w w' := by
  refine (mod_any (-7) (2) w).mono ?_
  rintro e w' ⟨rfl, hg⟩
  refine ⟨?_, hg⟩
  unfold res
  congr 1

theorem ex15 (w : World) : Calls Tryd.prog 23 #[.int .i64 7, .int .i64 0] w fun e w' => e = .returned (.tuple #[.int .i64 0, .bool false]) ∧ Grown w w' := by
  refine (mod_any (7) (0) w).mono ?_
  rintro e w' ⟨rfl, hg⟩
  refine ⟨?_, hg⟩
  unfold res
  congr 1

theorem ex20 (w : World) : Calls Tryd.prog 25 #[.int .i64 1125899906842624, .int .i64 3, .int .i64 4] w fun e w' => e = .returned (.tuple #[.int .i64 844424930131968, .bool true]) ∧ Grown w w' := by
  refine (muldiv_any (1125899906842624) (3) (4) w).mono ?_
  rintro e w' ⟨rfl, hg⟩
  refine ⟨?_, hg⟩
  unfold res
  congr 1

theorem ex21 (w : World) : Calls Tryd.prog 25 #[.int .i64 (-7), .int .i64 3, .int .i64 2] w fun e w' => e = .returned (.tuple #[.int .i64 (-11), .bool true]) ∧ Grown w w' := by
  refine (muldiv_any (-7) (3) (2) w).mono ?_
  rintro e w' ⟨rfl, hg⟩
  refine ⟨?_, hg⟩
  unfold res
  congr 1

theorem ex22 (w : World) : Calls Tryd.prog 25 #[.int .i64 1125899906842624, .int .i64 1125899906842624, .int .i64 1125899906842624] w fun e w' => e = .returned (.tuple #[.int .i64 1125899906842624, .bool true]) ∧ Grown w w' := by
  refine (muldiv_any (1125899906842624) (1125899906842624) (1125899906842624) w).mono ?_
  rintro e w' ⟨rfl, hg⟩
  refine ⟨?_, hg⟩
  unfold res
  congr 1

theorem ex23 (w : World) : Calls Tryd.prog 25 #[.int .i64 1125899906842624, .int .i64 2, .int .i64 1] w fun e w' => e = .returned (.tuple #[.int .i64 0, .bool false]) ∧ Grown w w' := by
  refine (muldiv_any (1125899906842624) (2) (1) w).mono ?_
  rintro e w' ⟨rfl, hg⟩
  refine ⟨?_, hg⟩
  unfold res
  congr 1

theorem ex24 (w : World) : Calls Tryd.prog 25 #[.int .i64 1, .int .i64 1, .int .i64 0] w fun e w' => e = .returned (.tuple #[.int .i64 0, .bool false]) ∧ Grown w w' := by
  refine (muldiv_any (1) (1) (0) w).mono ?_
  rintro e w' ⟨rfl, hg⟩
  refine ⟨?_, hg⟩
  unfold res
  congr 1

theorem ex30 (w : World) (hT : Tab w) : Calls Tryd.prog 29 #[.slice (some ⟨w.heap.size, 0, none⟩) 3 3] (w.alloc (.cells #[.int .i64 4, .int .i64 6, .int .i64 10] 3)) fun e w' => e = .returned (.tuple #[.int .i64 60, .bool true]) ∧ Grown w w' := by
  have e : lcmO [4, 6, 10] = some 60 := by decide +kernel
  have hg : Grown w (w.alloc (.cells #[.int .i64 4, .int .i64 6, .int .i64 10] 3)) := (Grown.refl w).alloc _ _
  have hrow : Row (w.alloc (.cells #[.int .i64 4, .int .i64 6, .int .i64 10] 3)) (some ⟨w.heap.size, 0, none⟩) [4, 6, 10] := row_new [4, 6, 10] w _ _ (by simp) (by
    intro k hk
    match k, hk with
    | 0, _ => simp [go_sem]
    | 1, _ => simp [go_sem]
    | 2, _ => simp [go_sem])
  have := lcm_any [4, 6, 10] (some ⟨w.heap.size, 0, none⟩) 3 (w.alloc (.cells #[.int .i64 4, .int .i64 6, .int .i64 10] 3)) (hT.grown hg) hrow
  rw [e] at this
  refine this.mono ?_
  rintro e w' ⟨rfl, h⟩
  exact ⟨rfl, grown_trans hg h⟩

theorem ex31 (w : World) (hT : Tab w) : Calls Tryd.prog 29 #[.slice none 0 0] w fun e w' => e = .returned (.tuple #[.int .i64 1, .bool true]) ∧ Grown w w' := by
  have e : lcmO [] = some 1 := by decide +kernel
  have := lcm_any [] none 0 w hT (row_nil w)
  rw [e] at this
  exact this

theorem ex32 (w : World) (hT : Tab w) : Calls Tryd.prog 29 #[.slice (some ⟨w.heap.size, 0, none⟩) 2 2] (w.alloc (.cells #[.int .i64 3, .int .i64 0] 3)) fun e w' => e = .returned (.tuple #[.int .i64 0, .bool false]) ∧ Grown w w' := by
  have e : lcmO [3, 0] = none := by decide +kernel
  have hg : Grown w (w.alloc (.cells #[.int .i64 3, .int .i64 0] 3)) := (Grown.refl w).alloc _ _
  have hrow : Row (w.alloc (.cells #[.int .i64 3, .int .i64 0] 3)) (some ⟨w.heap.size, 0, none⟩) [3, 0] := row_new [3, 0] w _ _ (by simp) (by
    intro k hk
    match k, hk with
    | 0, _ => simp [go_sem]
    | 1, _ => simp [go_sem])
  have := lcm_any [3, 0] (some ⟨w.heap.size, 0, none⟩) 2 (w.alloc (.cells #[.int .i64 3, .int .i64 0] 3)) (hT.grown hg) hrow
  rw [e] at this
  refine this.mono ?_
  rintro e w' ⟨rfl, h⟩
  exact ⟨rfl, grown_trans hg h⟩

theorem ex33 (w : World) (hT : Tab w) : Calls Tryd.prog 27 #[.int .i64 12, .int .i64 (-18)] w fun e w' => e = .returned (.int .i64 6) ∧ Grown w w' := by
  have e : gcdV (12) (-18) = 6 := by decide +kernel
  have := gcd_any (12) (-18) w hT
  rw [e] at this
  exact this

theorem ex34 (w : World) (hT : Tab w) : Calls Tryd.prog 27 #[.int .i64 0, .int .i64 0] w fun e w' => e = .returned (.int .i64 0) ∧ Grown w w' := by
  have e : gcdV (0) (0) = 0 := by decide +kernel
  have := gcd_any (0) (0) w hT
  rw [e] at this
  exact this

set_option maxRecDepth 100000 in
set_option maxHeartbeats 4000000 in
theorem works_any (w : World) (hT : Tab w) :
    Calls Tryd.prog 18 #[] w fun e w' => e = .returned (.bool true) ∧ Grown w w' := by
  have G0 := Lib.hid (Grown.refl w)
  go_enter Tryd.func18, Tryd.ntmps18
  go_wp2_with fail
  refine (ex0 _).mono ?_
  rintro e w1 ⟨rfl, g⟩
  have G1 := Lib.hid (grown_trans G0.out g)
  clear g G0
  go_wp2_with fail
  refine (ex1 _).mono ?_
  rintro e w2 ⟨rfl, g⟩
  have G2 := Lib.hid (grown_trans G1.out g)
  clear g G1
  go_wp2_with fail
  refine (ex2 _).mono ?_
  rintro e w3 ⟨rfl, g⟩
  have G3 := Lib.hid (grown_trans G2.out g)
  clear g G2
  go_wp2_with fail
  refine (ex3 _).mono ?_
  rintro e w4 ⟨rfl, g⟩
  have G4 := Lib.hid (grown_trans G3.out g)
  clear g G3
  go_wp2_with fail
  refine (ex4 _).mono ?_
  rintro e w5 ⟨rfl, g⟩
  have G5 := Lib.hid (grown_trans G4.out g)
  clear g G4
  go_wp2_with fail
  refine (ex5 _).mono ?_
  rintro e w6 ⟨rfl, g⟩
  have G6 := Lib.hid (grown_trans G5.out g)
  clear g G5
  go_wp2_with fail
  refine (is_yes _ _).mono ?_
  rintro e w' ⟨rfl, rfl⟩
  go_wp2_with fail
  refine (no_yes _).mono ?_
  rintro e w' ⟨rfl, rfl⟩
  go_wp2_with fail
  refine (no_yes _).mono ?_
  rintro e w' ⟨rfl, rfl⟩
  go_wp2_with fail
  refine (is_yes _ _).mono ?_
  rintro e w' ⟨rfl, rfl⟩
  go_wp2_with fail
  refine (is_yes _ _).mono ?_
  rintro e w' ⟨rfl, rfl⟩
  go_wp2_with fail
  refine (no_yes _).mono ?_
  rintro e w' ⟨rfl, rfl⟩
  go_wp2_with fail
  refine (ex12 _).mono ?_
  rintro e w7 ⟨rfl, g⟩
  have G7 := Lib.hid (grown_trans G6.out g)
  clear g G6
  go_wp2_with fail
  refine (ex13 _).mono ?_
  rintro e w8 ⟨rfl, g⟩
  have G8 := Lib.hid (grown_trans G7.out g)
  clear g G7
  go_wp2_with fail
  refine (ex14 _).mono ?_
  rintro e w9 ⟨rfl, g⟩
  have G9 := Lib.hid (grown_trans G8.out g)
  clear g G8
  go_wp2_with fail
  refine (ex15 _).mono ?_
  rintro e w10 ⟨rfl, g⟩
  have G10 := Lib.hid (grown_trans G9.out g)
  clear g G9
  go_wp2_with fail
  refine (is_yes _ _).mono ?_
  rintro e w' ⟨rfl, rfl⟩
  go_wp2_with fail
  refine (is_yes _ _).mono ?_
  rintro e w' ⟨rfl, rfl⟩
  go_wp2_with fail
  refine (is_yes _ _).mono ?_
  rintro e w' ⟨rfl, rfl⟩
  go_wp2_with fail
  refine (no_yes _).mono ?_
  rintro e w' ⟨rfl, rfl⟩
  go_wp2_with fail
  refine (ex20 _).mono ?_
  rintro e w11 ⟨rfl, g⟩
  have G11 := Lib.hid (grown_trans G10.out g)
  clear g G10
  go_wp2_with fail
  refine (ex21 _).mono ?_
  rintro e w12 ⟨rfl, g⟩
  have G12 := Lib.hid (grown_trans G11.out g)
  clear g G11
  go_wp2_with fail
  refine (ex22 _).mono ?_
  rintro e w13 ⟨rfl, g⟩
  have G13 := Lib.hid (grown_trans G12.out g)
  clear g G12
  go_wp2_with fail
  refine (ex23 _).mono ?_
  rintro e w14 ⟨rfl, g⟩
  have G14 := Lib.hid (grown_trans G13.out g)
  clear g G13
  go_wp2_with fail
  refine (ex24 _).mono ?_
  rintro e w15 ⟨rfl, g⟩
  have G15 := Lib.hid (grown_trans G14.out g)
  clear g G14
  go_wp2_with fail
  refine (is_yes _ _).mono ?_
  rintro e w' ⟨rfl, rfl⟩
  go_wp2_with fail
  refine (is_yes _ _).mono ?_
  rintro e w' ⟨rfl, rfl⟩
  go_wp2_with fail
  refine (is_yes _ _).mono ?_
  rintro e w' ⟨rfl, rfl⟩
  go_wp2_with fail
  refine (no_yes _).mono ?_
  rintro e w' ⟨rfl, rfl⟩
  go_wp2_with fail
  refine (no_yes _).mono ?_
  rintro e w' ⟨rfl, rfl⟩
  go_wp2_with fail
  refine (ex30 _ (hT.grown G15.out)).mono ?_
  rintro e w16 ⟨rfl, g⟩
  have G16 := Lib.hid (grown_trans G15.out g)
  clear g G15
  go_wp2_with fail
  refine (ex31 _ (hT.grown G16.out)).mono ?_
  rintro e w17 ⟨rfl, g⟩
  have G17 := Lib.hid (grown_trans G16.out g)
  clear g G16
  go_wp2_with fail
  refine (ex32 _ (hT.grown G17.out)).mono ?_
  rintro e w18 ⟨rfl, g⟩
  have G18 := Lib.hid (grown_trans G17.out g)
  clear g G17
  go_wp2_with fail
  refine (ex33 _ (hT.grown G18.out)).mono ?_
  rintro e w19 ⟨rfl, g⟩
  have G19 := Lib.hid (grown_trans G18.out g)
  clear g G18
  go_wp2_with fail
  refine (ex34 _ (hT.grown G19.out)).mono ?_
  rintro e w20 ⟨rfl, g⟩
  have G20 := Lib.hid (grown_trans G19.out g)
  clear g G19
  go_wp2_with fail
  refine (is_yes _ _).mono ?_
  rintro e w' ⟨rfl, rfl⟩
  go_wp2_with fail
  refine (is_yes _ _).mono ?_
  rintro e w' ⟨rfl, rfl⟩
  go_wp2_with fail
  refine (no_yes _).mono ?_
  rintro e w' ⟨rfl, rfl⟩
  go_wp2
  go_ret
  exact ⟨rfl, G20.out⟩

end Go.Proofs.YtcfdinfnahkanaaDoor
