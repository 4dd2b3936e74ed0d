/-
  NumSums returns true for every input: Add, Sub and Mul of the program answer as the reference does. Condition: the table of TrailingZeros64 lies in its variable as the program's text lays it (the card ties it).
-/
import Derived.Test.YtcfdinfnahkanaaDoorNt
import Derived.Test.YtcfdinfnahkanaaDoorTie
import Derived.Test.YtcfdinfnahkanaaDoorCards
import Derived.SevenTiedAt
namespace Go.Proofs.YtcfdinfnahkanaaDoor
open Go.ChangeShapes Go.WideShapes Go.ChangeAt Go.WideMaps Go.WideElems Go.RowKit

theorem numSums_elem (a b u v : Int) (ha : fits a) (hb : fits b) (k : Nat) (hk : k < 3) : ∃ x y : Int, fits x ∧ fits y ∧ ∀ w, (Instr.index 25 (.agg #[.int .i64 a, .int .i64 b, .int .i64 (nearV a u), .int .i64 (nearV b v), .int .i64 (nearV a u), .int .i64 b]) (.int .i64 k)).run Tryd.prog w = .ok (.agg #[.int .i64 x, .int .i64 y]) w := by
  match k, hk with
  | 0, _ => exact ⟨a, b, ha, hb, fun _ => by kernel_rfl⟩
  | 1, _ => exact ⟨nearV a u, nearV b v, (nearV_fits a u ha), (nearV_fits b v hb), fun _ => by kernel_rfl⟩
  | 2, _ => exact ⟨nearV a u, b, (nearV_fits a u ha), hb, fun _ => by kernel_rfl⟩

set_option maxRecDepth 100000 in
set_option maxHeartbeats 4000000 in
theorem numSums_any (a b u v : Int) (w : World) (hT : Tab w) (ha : fits a) (hb : fits b) (u0 : 0 ≤ u) (u1 : u ≤ 255) (v0 : 0 ≤ v) (v1 : v ≤ 255) :
    Calls Tryd.prog 3 #[.agg #[.int .i64 a, .int .i64 b], .agg #[.int .u8 u, .int .u8 v]] w fun e w' => e = .returned (.bool true) ∧ Grown w w' := by
  have HT := Lib.hid hT; clear hT
  have HE := Lib.hid (numSums_elem a b u v ha hb)
  go_enter Tryd.func3, Tryd.ntmps3
  go_wp2_with fail
  go_quiet ((go_at_call 11; exact Calls.quiet_of_same (near_any _ _ _ (by first | assumption | omega) (by first | assumption | omega) (by first | assumption | omega))))
  go_wp2_with fail
  go_loopw [40] (fun i wr => ∃ k : Nat, k ≤ 3 ∧ i = .int .i64 k ∧ Hid (Grown w wr)) (fun i _ => 3 - (intOf i).toNat)
  case atStart => exact ⟨0, by omega, rfl, (((Grown.refl w).alloc _ _).alloc _ _)⟩
  case round =>
    obtain ⟨k, hk, rfl, hgw⟩ := hrel
    by_cases hlt : k < 3
    · obtain ⟨x, y, fx, fy, hidx⟩ := HE.out k hlt
      clear HE
      have hbl : wr.heap.size < (wr.alloc (.cells #[.int .i64 x, .int .i64 y] 22)).heap.size := by simp
      have G0 := Lib.hid (hgw.out.alloc #[.int .i64 x, .int .i64 y] 22)
      have c0_0 : (wr.alloc (.cells #[.int .i64 x, .int .i64 y] 22)).cell? ⟨wr.heap.size, 0, none⟩ = some (.int .i64 x) := by simp [go_sem]
      have c0_1 : (wr.alloc (.cells #[.int .i64 x, .int .i64 y] 22)).cell? ⟨wr.heap.size, 1, none⟩ = some (.int .i64 y) := by simp [go_sem]
      have S0 := Lib.hid hbl; clear hbl
      go_wp2_with fail
      refine (add_any _ _ _).mono ?_
      rintro e w1 ⟨rfl, g⟩
      unfold res
      have c1_0 := (grown_cell g (p := ⟨wr.heap.size, 0, none⟩) S0.out).trans c0_0
      have c1_1 := (grown_cell g (p := ⟨wr.heap.size, 1, none⟩) S0.out).trans c0_1
      have S1 := Lib.hid (Nat.lt_of_lt_of_le S0.out g.2.2)
      have G1 := Lib.hid (grown_trans G0.out g)
      clear g S0 G0 c0_0 c0_1
      go_wp2_with fail
      refine (rAdd_any _ _ _).mono ?_
      rintro e w' ⟨rfl, rfl⟩
      unfold res
      have S2 := S1; clear S1
      have G2 := G1; clear G1
      have c2_0 := c1_0; clear c1_0
      have c2_1 := c1_1; clear c1_1
      go_wp2_with fail
      refine (sub_any _ _ _).mono ?_
      rintro e w3 ⟨rfl, g⟩
      unfold res
      have c3_0 := (grown_cell g (p := ⟨wr.heap.size, 0, none⟩) S2.out).trans c2_0
      have c3_1 := (grown_cell g (p := ⟨wr.heap.size, 1, none⟩) S2.out).trans c2_1
      have S3 := Lib.hid (Nat.lt_of_lt_of_le S2.out g.2.2)
      have G3 := Lib.hid (grown_trans G2.out g)
      clear g S2 G2 c2_0 c2_1
      go_wp2_with fail
      refine (rSub_any _ _ _).mono ?_
      rintro e w' ⟨rfl, rfl⟩
      unfold res
      have S4 := S3; clear S3
      have G4 := G3; clear G3
      have c4_0 := c3_0; clear c3_0
      have c4_1 := c3_1; clear c3_1
      go_wp2_with fail
      refine (mul_any _ _ _).mono ?_
      rintro e w5 ⟨rfl, g⟩
      unfold res
      have c5_0 := (grown_cell g (p := ⟨wr.heap.size, 0, none⟩) S4.out).trans c4_0
      have c5_1 := (grown_cell g (p := ⟨wr.heap.size, 1, none⟩) S4.out).trans c4_1
      have S5 := Lib.hid (Nat.lt_of_lt_of_le S4.out g.2.2)
      have G5 := Lib.hid (grown_trans G4.out g)
      clear g S4 G4 c4_0 c4_1
      go_wp2_with fail
      refine (rmul_any _ _ _).mono ?_
      rintro e w6 ⟨rfl, g⟩
      unfold res
      have c6_0 := (grown_cell g (p := ⟨wr.heap.size, 0, none⟩) S5.out).trans c5_0
      have c6_1 := (grown_cell g (p := ⟨wr.heap.size, 1, none⟩) S5.out).trans c5_1
      have S6 := Lib.hid (Nat.lt_of_lt_of_le S5.out g.2.2)
      have G6 := Lib.hid (grown_trans G5.out g)
      clear g S5 G5 c5_0 c5_1
      go_wp2
      go_roundw
      case rel => exact ⟨k + 1, by omega, by go_num, G6⟩
      case measure => simp [intOf]; omega
    · go_wp2_with fail
      refine (works_any _ (HT.out.grown hgw.out)).mono ?_
      rintro e w' ⟨rfl, g⟩
      have G := Lib.hid (grown_trans hgw.out g)
      clear g
      go_wp2
      go_ret
      exact ⟨rfl, G.out⟩

set_option maxRecDepth 100000 in
theorem numSums_lifted (os : Os) (started : os.Started) (H : Type) (enc : TypeId × Value → H) :
    ReturnsInHanded {} Tryd.checked os 3 .any (fun w args => (Rows.numSumsSpec.pre enc Tryd.prog Tryd.f3 [] false w args ∧ laidMetH Tryd.prog laid1 w) ∧ sizedMet enc Tryd.prog Tryd.f3 (OpenSpec.ofChange Rows.numSumsSpec) false w args)
      (Rows.numSumsSpec.post enc Tryd.prog Tryd.f3 false true false false) := by
  refine returnsInHanded_of_change_and (C := Tryd.checked) (X := fun w _ => laidMetH Tryd.prog laid1 w) (fun _ _ _ hh h => h.of_heap hh) own started (by kernel_rfl) Tryd.func3
    (ChangeSpec.witness_shaped (enc := enc) (C := Tryd.checked) (os := os) (X := fun w _ => laidMetH Tryd.prog laid1 w) false (World.doorLaid Tryd.prog 400 os) #[.agg #[.int .i64 0, .int .i64 0], .agg #[.int .u8 0, .int .u8 0]] 8 rfl (World.shaped_of_RefB (by kernel_rfl) (by kernel_rfl)) (by kernel_rfl) (by kernel_rfl) (by kernel_rfl) (door_met os _)) ?_
  intro W base args ds gs before hval0 hW _ _ hL _
  have hval : ∀ (j : Nat) t v, Tryd.f3.params[j]? = some t → args[j]? = some v → Value.okWide Tryd.prog W .any base t v := hval0
  have hW' := hW
  obtain ⟨p, q, hA0, hV, rfl, hfz, hnd⟩ := hW
  have hA : DataW.TrodAll enc Tryd.prog W 0 (fun _ => true) true Tryd.f3.params.toList args.toList ds p := hA0
  rw [Tryd.params3] at hA hval
  obtain ⟨v0, v1, d0, d1, p0, p1, rfl, rfl, rfl, h0, h1⟩ := trodAll_two hA
  obtain ⟨rfl, rfl⟩ := trodVars_none hV
  obtain ⟨zs, hz, rfl, rfl, rfl, wz⟩ := open_arr Tryd.underlying22 Tryd.underlying3 (by kernel_rfl) (by kernel_rfl) (hval 0 22 v0 rfl rfl) h0
  obtain ⟨us, hu, rfl, rfl, rfl, wu⟩ := open_arr Tryd.underlying23 Tryd.underlying5 (by kernel_rfl) (by kernel_rfl) (hval 1 23 v1 rfl rfl) h1
  obtain ⟨a, b, rfl⟩ := list2 hz
  obtain ⟨u, v, rfl⟩ := list2 hu
  have hT := of_laid hL
  clear hA0 hval0
  simp only [List.append_nil] at hW'
  refine (numSums_any a b u v W hT (fits_of (wz a (by simp))) (fits_of (wz b (by simp))) (bounds_u8 (wu u (by simp))).1 (bounds_u8 (wu u (by simp))).2 (bounds_u8 (wu v (by simp))).1 (bounds_u8 (wu v (by simp))).2).mono fun e W' ⟨he, hg⟩ => ?_
  subst he
  exact ⟨_, rfl, post_of_same (pa := []) (pv := []) hW' (fun _ _ _ => trodAll_mk1 (shut_bool Tryd.underlying4 _)) (fun sp _ => trodAll_mk2 (shut_arr Tryd.underlying22 Tryd.underlying3 (by kernel_rfl) (by kernel_rfl) hz wz) (shut_arr Tryd.underlying23 Tryd.underlying5 (by kernel_rfl) (by kernel_rfl) hu wu)) (fun _ _ => rfl) rfl (hg.frame _) hg.2.1 (ok_one (by kernel_rfl) rfl (okWide_bool_mk Tryd.underlying4 _))⟩

theorem numSums_row : Rows.NumSumsSaid :=
  OpenClaim.holds_of_wide 3 Tryd.f3 rfl rfl rfl rfl rfl rfl rfl ⟨rfl, rfl, rfl, rfl, rfl⟩ rfl rfl rfl rfl rfl (by kernel_rfl) Tryd.func3 (by kernel_rfl)
    (of_decide_eq_true (by kernel_rfl)) (by unfold Func.isWrapper; first | (rw [if_pos (by decide +kernel)]; kernel_rfl) | (rw [if_neg (by decide +kernel)]; exact ⟨rfl, rfl⟩))
    (fun os started H enc _ => numSums_lifted os started H enc)

/-- The given statement. -/
theorem numSums_holds : Rows.NumSumsCardSaid :=
  Claim7.holds_tied_plain_at .later [] [.data] true (true, "bf85c4916e9a7308bbe47f137d5538c5dc2f9a21ef3ee3eb2e642297461c402c") false
    numSums_row (fun _ h => by cases h) (by kernel_rfl) (fun _ h => by cases h) numSums_row_tie rfl ⟨rfl, rfl⟩ (by kernel_rfl) rfl
    (fun f fn hf hfn => by
      obtain rfl : f = 3 := Option.some.inj ((show Tryd.prog.funcNamed "isochron/isochronlaw01.NumSums" = some 3 by kernel_rfl).symm.trans hf) |>.symm
      obtain rfl : fn = Tryd.f3 := (Option.some.inj (Tryd.func3.symm.trans hfn)).symm
      exact ⟨by kernel_rfl, fun j t ht => by
        rw [Tryd.params3] at ht
        have hm : t ∈ [22, 23] := by simpa using Array.mem_of_getElem? ht
        have hall : ([22, 23].all fun u => !Tryd.prog.wantsStandIn u) = true := by kernel_rfl
        exact (show Tryd.prog.wantsStandIn t = false by simpa using List.all_eq_true.1 hall t hm)⟩)
    (by kernel_rfl)
#print axioms numSums_holds

end Go.Proofs.YtcfdinfnahkanaaDoor
