/-
  NumKnown returns true for its one input: the examples of layer 1 and the results at the bounds of the range come out as the statement lists them. Condition: the table of TrailingZeros64 lies in its variable as the program's text lays it (the card ties it).
-/
import Derived.Test.YtcfdinfnahkanaaDoorNp
import Derived.Test.YtcfdinfnahkanaaDoorTie
import Derived.Test.YtcfdinfnahkanaaDoorCards
import Derived.SevenTiedAt
namespace Go.Proofs.YtcfdinfnahkanaaDoor
open Go.ChangeShapes Go.WideShapes Go.ChangeAt Go.WideMaps Go.WideElems Go.RowKit

theorem kn0 (w : World) : Calls Tryd.prog 14 #[.int .i64 (-1125899906842624), .int .i64 0] w fun e w' => e = .returned (.tuple #[.int .i64 (-1125899906842624), .bool true]) ∧ Grown w w' := by
  refine (sub_any (-1125899906842624) (0) w).mono ?_
  rintro e w' ⟨rfl, hg⟩
  refine ⟨?_, hg⟩
  unfold res
  congr 1

theorem kn1 (w : World) : Calls Tryd.prog 14 #[.int .i64 (-1125899906842624), .int .i64 1] w fun e w' => e = .returned (.tuple #[.int .i64 0, .bool false]) ∧ Grown w w' := by
  refine (sub_any (-1125899906842624) (1) w).mono ?_
  rintro e w' ⟨rfl, hg⟩
  refine ⟨?_, hg⟩
  unfold res
  congr 1

theorem kn2 (w : World) : Calls Tryd.prog 16 #[.int .i64 1125899906842624, .int .i64 (-1)] w fun e w' => e = .returned (.tuple #[.int .i64 (-1125899906842624), .bool true]) ∧ Grown w w' := by
  refine (mul_any (1125899906842624) (-1) w).mono ?_
  rintro e w' ⟨rfl, hg⟩
  refine ⟨?_, hg⟩
  unfold res
  congr 1

theorem kn3 (w : World) : Calls Tryd.prog 16 #[.int .i64 (-9223372036854775808), .int .i64 0] w fun e w' => e = .returned (.tuple #[.int .i64 0, .bool false]) ∧ Grown w w' := by
  refine (mul_any (-9223372036854775808) (0) w).mono ?_
  rintro e w' ⟨rfl, hg⟩
  refine ⟨?_, hg⟩
  unfold res
  congr 1

theorem kn4 (w : World) : Calls Tryd.prog 19 #[.int .i64 (-1125899906842624), .int .i64 1125899906842624] w fun e w' => e = .returned (.tuple #[.int .i64 (-1), .bool true]) ∧ Grown w w' := by
  refine (fdiv_any (-1125899906842624) (1125899906842624) w).mono ?_
  rintro e w' ⟨rfl, hg⟩
  refine ⟨?_, hg⟩
  unfold res
  congr 1

theorem kn5 (w : World) : Calls Tryd.prog 21 #[.int .i64 1, .int .i64 1125899906842624] w fun e w' => e = .returned (.tuple #[.int .i64 1, .bool true]) ∧ Grown w w' := by
  refine (cdiv_any (1) (1125899906842624) w (by decide) (by decide)).mono ?_
  rintro e w' ⟨rfl, hg⟩
  refine ⟨?_, hg⟩
  unfold res
  congr 1

theorem kn6 (w : World) : Calls Tryd.prog 19 #[.int .i64 5, .int .i64 (-1)] w fun e w' => e = .returned (.tuple #[.int .i64 0, .bool false]) ∧ Grown w w' := by
  refine (fdiv_any (5) (-1) w).mono ?_
  rintro e w' ⟨rfl, hg⟩
  refine ⟨?_, hg⟩
  unfold res
  congr 1

theorem kn7 (w : World) : Calls Tryd.prog 25 #[.int .i64 (-1125899906842624), .int .i64 1125899906842623, .int .i64 1125899906842624] w fun e w' => e = .returned (.tuple #[.int .i64 (-1125899906842623), .bool true]) ∧ Grown w w' := by
  refine (muldiv_any (-1125899906842624) (1125899906842623) (1125899906842624) w).mono ?_
  rintro e w' ⟨rfl, hg⟩
  refine ⟨?_, hg⟩
  unfold res
  congr 1

theorem kn8 (w : World) : Calls Tryd.prog 25 #[.int .i64 1125899906842624, .int .i64 1125899906842624, .int .i64 1125899906842623] w fun e w' => e = .returned (.tuple #[.int .i64 0, .bool false]) ∧ Grown w w' := by
  refine (muldiv_any (1125899906842624) (1125899906842624) (1125899906842623) w).mono ?_
  rintro e w' ⟨rfl, hg⟩
  refine ⟨?_, hg⟩
  unfold res
  congr 1

theorem kn9 (w : World) : Calls Tryd.prog 25 #[.int .i64 0, .int .i64 (-1125899906842624), .int .i64 7] w fun e w' => e = .returned (.tuple #[.int .i64 0, .bool true]) ∧ Grown w w' := by
  refine (muldiv_any (0) (-1125899906842624) (7) w).mono ?_
  rintro e w' ⟨rfl, hg⟩
  refine ⟨?_, hg⟩
  unfold res
  congr 1

theorem kn10 (w : World) (hT : Tab w) : Calls Tryd.prog 29 #[.slice (some ⟨w.heap.size, 0, none⟩) 3 3] (w.alloc (.cells #[.int .i64 33554432, .int .i64 3, .int .i64 16777216] 3)) fun e w' => e = .returned (.tuple #[.int .i64 100663296, .bool true]) ∧ Grown w w' := by
  have e : lcmO [33554432, 3, 16777216] = some 100663296 := by decide +kernel
  have hg : Grown w (w.alloc (.cells #[.int .i64 33554432, .int .i64 3, .int .i64 16777216] 3)) := (Grown.refl w).alloc _ _
  have hrow : Row (w.alloc (.cells #[.int .i64 33554432, .int .i64 3, .int .i64 16777216] 3)) (some ⟨w.heap.size, 0, none⟩) [33554432, 3, 16777216] := row_new [33554432, 3, 16777216] w _ _ (by simp) (by
    intro k hk
    match k, hk with
    | 0, _ => simp [go_sem]
    | 1, _ => simp [go_sem]
    | 2, _ => simp [go_sem])
  have := lcm_any [33554432, 3, 16777216] (some ⟨w.heap.size, 0, none⟩) 3 (w.alloc (.cells #[.int .i64 33554432, .int .i64 3, .int .i64 16777216] 3)) (hT.grown hg) hrow
  rw [e] at this
  refine this.mono ?_
  rintro e w' ⟨rfl, h⟩
  exact ⟨rfl, grown_trans hg h⟩

theorem kn11 (w : World) (hT : Tab w) : Calls Tryd.prog 29 #[.slice (some ⟨w.heap.size, 0, none⟩) 2 2] (w.alloc (.cells #[.int .i64 1125899906842624, .int .i64 3] 3)) fun e w' => e = .returned (.tuple #[.int .i64 0, .bool false]) ∧ Grown w w' := by
  have e : lcmO [1125899906842624, 3] = none := by decide +kernel
  have hg : Grown w (w.alloc (.cells #[.int .i64 1125899906842624, .int .i64 3] 3)) := (Grown.refl w).alloc _ _
  have hrow : Row (w.alloc (.cells #[.int .i64 1125899906842624, .int .i64 3] 3)) (some ⟨w.heap.size, 0, none⟩) [1125899906842624, 3] := row_new [1125899906842624, 3] w _ _ (by simp) (by
    intro k hk
    match k, hk with
    | 0, _ => simp [go_sem]
    | 1, _ => simp [go_sem])
  have := lcm_any [1125899906842624, 3] (some ⟨w.heap.size, 0, none⟩) 2 (w.alloc (.cells #[.int .i64 1125899906842624, .int .i64 3] 3)) (hT.grown hg) hrow
  rw [e] at this
  refine this.mono ?_
  rintro e w' ⟨rfl, h⟩
  exact ⟨rfl, grown_trans hg h⟩

theorem kn12 (w : World) (hT : Tab w) : Calls Tryd.prog 29 #[.slice (some ⟨w.heap.size, 0, none⟩) 1 1] (w.alloc (.cells #[.int .i64 (-2)] 3)) fun e w' => e = .returned (.tuple #[.int .i64 0, .bool false]) ∧ Grown w w' := by
  have e : lcmO [-2] = none := by decide +kernel
  have hg : Grown w (w.alloc (.cells #[.int .i64 (-2)] 3)) := (Grown.refl w).alloc _ _
  have hrow : Row (w.alloc (.cells #[.int .i64 (-2)] 3)) (some ⟨w.heap.size, 0, none⟩) [-2] := row_new [-2] w _ _ (by simp) (by
    intro k hk
    match k, hk with
    | 0, _ => simp [go_sem])
  have := lcm_any [-2] (some ⟨w.heap.size, 0, none⟩) 1 (w.alloc (.cells #[.int .i64 (-2)] 3)) (hT.grown hg) hrow
  rw [e] at this
  refine this.mono ?_
  rintro e w' ⟨rfl, h⟩
  exact ⟨rfl, grown_trans hg h⟩

theorem kn13 (w : World) (hT : Tab w) : Calls Tryd.prog 29 #[.slice (some ⟨w.heap.size, 0, none⟩) 1 1] (w.alloc (.cells #[.int .i64 1125899906842625] 3)) fun e w' => e = .returned (.tuple #[.int .i64 0, .bool false]) ∧ Grown w w' := by
  have e : lcmO [1125899906842625] = none := by decide +kernel
  have hg : Grown w (w.alloc (.cells #[.int .i64 1125899906842625] 3)) := (Grown.refl w).alloc _ _
  have hrow : Row (w.alloc (.cells #[.int .i64 1125899906842625] 3)) (some ⟨w.heap.size, 0, none⟩) [1125899906842625] := row_new [1125899906842625] w _ _ (by simp) (by
    intro k hk
    match k, hk with
    | 0, _ => simp [go_sem])
  have := lcm_any [1125899906842625] (some ⟨w.heap.size, 0, none⟩) 1 (w.alloc (.cells #[.int .i64 1125899906842625] 3)) (hT.grown hg) hrow
  rw [e] at this
  refine this.mono ?_
  rintro e w' ⟨rfl, h⟩
  exact ⟨rfl, grown_trans hg h⟩

theorem kn29 (w : World) (hT : Tab w) : Calls Tryd.prog 27 #[.int .i64 1125899906842624, .int .i64 1048576] w fun e w' => e = .returned (.int .i64 1048576) ∧ Grown w w' := by
  have e : gcdV (1125899906842624) (1048576) = 1048576 := by decide +kernel
  have := gcd_any (1125899906842624) (1048576) w hT
  rw [e] at this
  exact this

theorem kn30 (w : World) (hT : Tab w) : Calls Tryd.prog 27 #[.int .i64 0, .int .i64 (-9)] w fun e w' => e = .returned (.int .i64 9) ∧ Grown w w' := by
  have e : gcdV (0) (-9) = 9 := by decide +kernel
  have := gcd_any (0) (-9) w hT
  rw [e] at this
  exact this

theorem kn31 (w : World) (hT : Tab w) : Calls Tryd.prog 27 #[.int .i64 1125899906842625, .int .i64 3] w fun e w' => e = .returned (.int .i64 0) ∧ Grown w w' := by
  have e : gcdV (1125899906842625) (3) = 0 := by decide +kernel
  have := gcd_any (1125899906842625) (3) w hT
  rw [e] at this
  exact this

theorem kn32 (w : World) (hT : Tab w) : Calls Tryd.prog 27 #[.int .i64 (-9223372036854775808), .int .i64 2] w fun e w' => e = .returned (.int .i64 0) ∧ Grown w w' := by
  have e : gcdV (-9223372036854775808) (2) = 0 := by decide +kernel
  have := gcd_any (-9223372036854775808) (2) w hT
  rw [e] at this
  exact this

set_option maxRecDepth 100000 in
set_option maxHeartbeats 4000000 in
theorem numKnown_any (w : World) (hT : Tab w) :
    Calls Tryd.prog 10 #[] w fun e w' => e = .returned (.bool true) ∧ Grown w w' := by
  have G0 := Lib.hid (Grown.refl w)
  go_enter Tryd.func10, Tryd.ntmps10
  go_wp2_with fail
  refine (kn0 _).mono ?_
  rintro e w1 ⟨rfl, g⟩
  have G1 := Lib.hid (grown_trans G0.out g)
  clear g G0
  go_wp2_with fail
  refine (kn1 _).mono ?_
  rintro e w2 ⟨rfl, g⟩
  have G2 := Lib.hid (grown_trans G1.out g)
  clear g G1
  go_wp2_with fail
  refine (kn2 _).mono ?_
  rintro e w3 ⟨rfl, g⟩
  have G3 := Lib.hid (grown_trans G2.out g)
  clear g G2
  go_wp2_with fail
  refine (kn3 _).mono ?_
  rintro e w4 ⟨rfl, g⟩
  have G4 := Lib.hid (grown_trans G3.out g)
  clear g G3
  go_wp2_with fail
  refine (kn4 _).mono ?_
  rintro e w5 ⟨rfl, g⟩
  have G5 := Lib.hid (grown_trans G4.out g)
  clear g G4
  go_wp2_with fail
  refine (kn5 _).mono ?_
  rintro e w6 ⟨rfl, g⟩
  have G6 := Lib.hid (grown_trans G5.out g)
  clear g G5
  go_wp2_with fail
  refine (kn6 _).mono ?_
  rintro e w7 ⟨rfl, g⟩
  have G7 := Lib.hid (grown_trans G6.out g)
  clear g G6
  go_wp2_with fail
  refine (kn7 _).mono ?_
  rintro e w8 ⟨rfl, g⟩
  have G8 := Lib.hid (grown_trans G7.out g)
  clear g G7
  go_wp2_with fail
  refine (kn8 _).mono ?_
  rintro e w9 ⟨rfl, g⟩
  have G9 := Lib.hid (grown_trans G8.out g)
  clear g G8
  go_wp2_with fail
  refine (kn9 _).mono ?_
  rintro e w10 ⟨rfl, g⟩
  have G10 := Lib.hid (grown_trans G9.out g)
  clear g G9
  go_wp2_with fail
  refine (kn10 _ (hT.grown G10.out)).mono ?_
  rintro e w11 ⟨rfl, g⟩
  have G11 := Lib.hid (grown_trans G10.out g)
  clear g G10
  go_wp2_with fail
  refine (kn11 _ (hT.grown G11.out)).mono ?_
  rintro e w12 ⟨rfl, g⟩
  have G12 := Lib.hid (grown_trans G11.out g)
  clear g G11
  go_wp2_with fail
  refine (kn12 _ (hT.grown G12.out)).mono ?_
  rintro e w13 ⟨rfl, g⟩
  have G13 := Lib.hid (grown_trans G12.out g)
  clear g G12
  go_wp2_with fail
  refine (kn13 _ (hT.grown G13.out)).mono ?_
  rintro e w14 ⟨rfl, g⟩
  have G14 := Lib.hid (grown_trans G13.out g)
  clear g G13
  go_wp2_with fail
  refine (is_yes _ _).mono ?_
  rintro e w' ⟨rfl, rfl⟩
  go_wp2_with fail
  refine (no_yes _).mono ?_
  rintro e w' ⟨rfl, rfl⟩
  go_wp2_with fail
  refine (is_yes _ _).mono ?_
  rintro e w' ⟨rfl, rfl⟩
  go_wp2_with fail
  refine (no_yes _).mono ?_
  rintro e w' ⟨rfl, rfl⟩
  go_wp2_with fail
  refine (is_yes _ _).mono ?_
  rintro e w' ⟨rfl, rfl⟩
  go_wp2_with fail
  refine (is_yes _ _).mono ?_
  rintro e w' ⟨rfl, rfl⟩
  go_wp2_with fail
  refine (no_yes _).mono ?_
  rintro e w' ⟨rfl, rfl⟩
  go_wp2_with fail
  refine (is_yes _ _).mono ?_
  rintro e w' ⟨rfl, rfl⟩
  go_wp2_with fail
  refine (no_yes _).mono ?_
  rintro e w' ⟨rfl, rfl⟩
  go_wp2_with fail
  refine (is_yes _ _).mono ?_
  rintro e w' ⟨rfl, rfl⟩
  go_wp2_with fail
  refine (is_yes _ _).mono ?_
  rintro e w' ⟨rfl, rfl⟩
  go_wp2_with fail
  refine (no_yes _).mono ?_
  rintro e w' ⟨rfl, rfl⟩
  go_wp2_with fail
  refine (no_yes _).mono ?_
  rintro e w' ⟨rfl, rfl⟩
  go_wp2_with fail
  refine (no_yes _).mono ?_
  rintro e w' ⟨rfl, rfl⟩
  go_wp2_with fail
  refine (works_any _ (hT.grown G14.out)).mono ?_
  rintro e w15 ⟨rfl, g⟩
  have G15 := Lib.hid (grown_trans G14.out g)
  clear g G14
  go_wp2_with fail
  refine (kn29 _ (hT.grown G15.out)).mono ?_
  rintro e w16 ⟨rfl, g⟩
  have G16 := Lib.hid (grown_trans G15.out g)
  clear g G15
  go_wp2_with fail
  refine (kn30 _ (hT.grown G16.out)).mono ?_
  rintro e w17 ⟨rfl, g⟩
  have G17 := Lib.hid (grown_trans G16.out g)
  clear g G16
  go_wp2_with fail
  refine (kn31 _ (hT.grown G17.out)).mono ?_
  rintro e w18 ⟨rfl, g⟩
  have G18 := Lib.hid (grown_trans G17.out g)
  clear g G17
  go_wp2_with fail
  refine (kn32 _ (hT.grown G18.out)).mono ?_
  rintro e w19 ⟨rfl, g⟩
  have G19 := Lib.hid (grown_trans G18.out g)
  clear g G18
  go_wp2
  go_ret
  exact ⟨rfl, G19.out⟩

set_option maxRecDepth 100000 in
theorem numKnown_lifted (os : Os) (started : os.Started) (H : Type) (enc : TypeId × Value → H) :
    ReturnsInHanded {} Tryd.checked os 10 .any (fun w args => (Rows.numKnownSpec.pre enc Tryd.prog Tryd.f10 [] false w args ∧ laidMetH Tryd.prog laid1 w) ∧ sizedMet enc Tryd.prog Tryd.f10 (OpenSpec.ofChange Rows.numKnownSpec) false w args)
      (Rows.numKnownSpec.post enc Tryd.prog Tryd.f10 false true false false) := by
  refine returnsInHanded_of_change_and (C := Tryd.checked) (X := fun w _ => laidMetH Tryd.prog laid1 w) (fun _ _ _ hh h => h.of_heap hh) own started (by kernel_rfl) Tryd.func10
    (ChangeSpec.witness_shaped (enc := enc) (C := Tryd.checked) (os := os) (X := fun w _ => laidMetH Tryd.prog laid1 w) false (World.doorLaid Tryd.prog 400 os) #[] 8 rfl (World.shaped_of_RefB (by kernel_rfl) (by kernel_rfl)) (by kernel_rfl) (by kernel_rfl) (by kernel_rfl) (door_met os _)) ?_
  intro W base args ds gs before _ hW _ _ hL _
  have hW' := hW
  obtain ⟨p, q, hA0, hV, rfl, hfz, hnd⟩ := hW
  have hA : DataW.TrodAll enc Tryd.prog W 0 (fun _ => true) true Tryd.f10.params.toList args.toList ds p := hA0
  rw [Tryd.params10] at hA
  obtain ⟨rfl, rfl, rfl⟩ := trodAll_none hA
  obtain ⟨rfl, rfl⟩ := trodVars_none hV
  have hT := of_laid hL
  clear hA0
  simp only [List.append_nil] at hW'
  refine (numKnown_any W hT).mono fun e W' ⟨he, hg⟩ => ?_
  subst he
  exact ⟨_, rfl, post_of_same (pa := []) (pv := []) hW' (fun _ _ _ => trodAll_mk1 (shut_bool Tryd.underlying4 _)) (fun sp _ => trodAll_mk0) (fun _ _ => rfl) rfl (hg.frame _) hg.2.1 (ok_one (by kernel_rfl) rfl (okWide_bool_mk Tryd.underlying4 _))⟩

theorem numKnown_row : Rows.NumKnownSaid :=
  OpenClaim.holds_of_wide 10 Tryd.f10 rfl rfl rfl rfl rfl rfl rfl ⟨rfl, rfl, rfl, rfl, rfl⟩ rfl rfl rfl rfl rfl (by kernel_rfl) Tryd.func10 (by kernel_rfl)
    (of_decide_eq_true (by kernel_rfl)) (by unfold Func.isWrapper; first | (rw [if_pos (by decide +kernel)]; kernel_rfl) | (rw [if_neg (by decide +kernel)]; exact ⟨rfl, rfl⟩))
    (fun os started H enc _ => numKnown_lifted os started H enc)

/-- The given statement. -/
theorem numKnown_holds : Rows.NumKnownCardSaid :=
  Claim7.holds_tied_plain_at .later [] [.data] true (true, "bf85c4916e9a7308bbe47f137d5538c5dc2f9a21ef3ee3eb2e642297461c402c") false
    numKnown_row (fun _ h => by cases h) (by kernel_rfl) (fun _ h => by cases h) numKnown_row_tie rfl ⟨rfl, rfl⟩ (by kernel_rfl) rfl
    (fun f fn hf hfn => by
      obtain rfl : f = 10 := Option.some.inj ((show Tryd.prog.funcNamed "isochron/isochronlaw01.NumKnown" = some 10 by kernel_rfl).symm.trans hf) |>.symm
      obtain rfl : fn = Tryd.f10 := (Option.some.inj (Tryd.func10.symm.trans hfn)).symm
      exact ⟨by kernel_rfl, fun j t ht => by
        rw [Tryd.params10] at ht
        simp at ht⟩)
    (by kernel_rfl)
#print axioms numKnown_holds

end Go.Proofs.YtcfdinfnahkanaaDoor
