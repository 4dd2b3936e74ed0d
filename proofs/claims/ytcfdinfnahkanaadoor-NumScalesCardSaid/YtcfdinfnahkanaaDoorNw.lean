/-
  NumScales returns true for every input: MulDiv of the program answers as the reference does. Condition: the table of TrailingZeros64 lies in its variable as the program's text lays it (the card ties it).
-/
import Derived.Test.YtcfdinfnahkanaaDoorNt
import Derived.Test.YtcfdinfnahkanaaDoorTie
import Derived.Test.YtcfdinfnahkanaaDoorCards
import Derived.SevenTiedAt
namespace Go.Proofs.YtcfdinfnahkanaaDoor
open Go.ChangeShapes Go.WideShapes Go.ChangeAt Go.WideMaps Go.WideElems Go.RowKit

theorem numScales_elem (N : Nat) (a b c u v s : Int) (ha : fits a) (hb : fits b) (hc : fits c) (k : Nat) (hk : k < 3) : ∃ x y z : Int, fits x ∧ fits y ∧ fits z ∧ ∀ w, (Instr.index 33 (.agg #[.int .i64 a, .int .i64 b, .int .i64 c, .int .i64 (nearV a u), .int .i64 (nearV b v), .int .i64 (nearV c s), .int .i64 (nearV a 5), .int .i64 (nearV b 5), .int .i64 (1 + (N : Int) % 1125899906842624)]) (.int .i64 k)).run Tryd.prog w = .ok (.agg #[.int .i64 x, .int .i64 y, .int .i64 z]) w := by
  match k, hk with
  | 0, _ => exact ⟨a, b, c, ha, hb, hc, fun _ => by kernel_rfl⟩
  | 1, _ => exact ⟨nearV a u, nearV b v, nearV c s, (nearV_fits a u ha), (nearV_fits b v hb), (nearV_fits c s hc), fun _ => by kernel_rfl⟩
  | 2, _ => exact ⟨nearV a 5, nearV b 5, 1 + (N : Int) % 1125899906842624, (nearV_fits a 5 ha), (nearV_fits b 5 hb), (by unfold fits; omega), fun _ => by kernel_rfl⟩

set_option maxRecDepth 100000 in
set_option maxHeartbeats 4000000 in
theorem numScales_any (a b c u v s : Int) (w : World) (hT : Tab w) (ha : fits a) (hb : fits b) (hc : fits c) (u0 : 0 ≤ u) (u1 : u ≤ 255) (v0 : 0 ≤ v) (v1 : v ≤ 255) (s0 : 0 ≤ s) (s1 : s ≤ 255) :
    Calls Tryd.prog 5 #[.agg #[.int .i64 a, .int .i64 b, .int .i64 c], .agg #[.int .u8 u, .int .u8 v, .int .u8 s]] w fun e w' => e = .returned (.bool true) ∧ Grown w w' := by
  have HT := Lib.hid hT; clear hT
  obtain ⟨N, hN⟩ : ∃ N, unat c = N := ⟨_, rfl⟩
  have hw : IntKind.u64.wrap c = (N : Int) := by rw [IntKind.wrap_u64, ← hN]; unfold unat; omega
  clear hN
  have HE := Lib.hid (numScales_elem N a b c u v s ha hb hc)
  go_enter Tryd.func5, Tryd.ntmps5
  go_wp2_with fail
  go_quiet ((go_at_call 11; exact Calls.quiet_of_same (near_any _ _ _ (by first | assumption | omega) (by first | assumption | omega) (by first | assumption | omega))))
  go_wp2_with fail
  go_loopw [42] (fun i wr => ∃ k : Nat, k ≤ 3 ∧ i = .int .i64 k ∧ Hid (Grown w wr)) (fun i _ => 3 - (intOf i).toNat)
  case atStart => exact ⟨0, by omega, rfl, (((Grown.refl w).alloc _ _).alloc _ _)⟩
  case round =>
    obtain ⟨k, hk, rfl, hgw⟩ := hrel
    by_cases hlt : k < 3
    · obtain ⟨x, y, z, fx, fy, fz, hidx⟩ := HE.out k hlt
      clear HE
      have hbl : wr.heap.size < (wr.alloc (.cells #[.int .i64 x, .int .i64 y, .int .i64 z] 31)).heap.size := by simp
      have G0 := Lib.hid (hgw.out.alloc #[.int .i64 x, .int .i64 y, .int .i64 z] 31)
      have c0_0 : (wr.alloc (.cells #[.int .i64 x, .int .i64 y, .int .i64 z] 31)).cell? ⟨wr.heap.size, 0, none⟩ = some (.int .i64 x) := by simp [go_sem]
      have c0_1 : (wr.alloc (.cells #[.int .i64 x, .int .i64 y, .int .i64 z] 31)).cell? ⟨wr.heap.size, 1, none⟩ = some (.int .i64 y) := by simp [go_sem]
      have c0_2 : (wr.alloc (.cells #[.int .i64 x, .int .i64 y, .int .i64 z] 31)).cell? ⟨wr.heap.size, 2, none⟩ = some (.int .i64 z) := by simp [go_sem]
      have S0 := Lib.hid hbl; clear hbl
      go_wp2_with fail
      refine (muldiv_any _ _ _ _).mono ?_
      rintro e w1 ⟨rfl, g⟩
      unfold res
      have c1_0 := (grown_cell g (p := ⟨wr.heap.size, 0, none⟩) S0.out).trans c0_0
      have c1_1 := (grown_cell g (p := ⟨wr.heap.size, 1, none⟩) S0.out).trans c0_1
      have c1_2 := (grown_cell g (p := ⟨wr.heap.size, 2, none⟩) S0.out).trans c0_2
      have S1 := Lib.hid (Nat.lt_of_lt_of_le S0.out g.2.2)
      have G1 := Lib.hid (grown_trans G0.out g)
      clear g S0 G0 c0_0 c0_1 c0_2
      go_wp2_with fail
      refine (rmuldiv_any _ _ _ _).mono ?_
      rintro e w2 ⟨rfl, g⟩
      unfold res
      have c2_0 := (grown_cell g (p := ⟨wr.heap.size, 0, none⟩) S1.out).trans c1_0
      have c2_1 := (grown_cell g (p := ⟨wr.heap.size, 1, none⟩) S1.out).trans c1_1
      have c2_2 := (grown_cell g (p := ⟨wr.heap.size, 2, none⟩) S1.out).trans c1_2
      have S2 := Lib.hid (Nat.lt_of_lt_of_le S1.out g.2.2)
      have G2 := Lib.hid (grown_trans G1.out g)
      clear g S1 G1 c1_0 c1_1 c1_2
      go_wp2
      go_roundw
      case rel => exact ⟨k + 1, by omega, by go_num, G2⟩
      case measure => simp [intOf]; omega
    · go_wp2_with fail
      refine (works_any _ (HT.out.grown hgw.out)).mono ?_
      rintro e w' ⟨rfl, g⟩
      have G := Lib.hid (grown_trans hgw.out g)
      clear g
      go_wp2
      go_ret
      exact ⟨rfl, G.out⟩

set_option maxRecDepth 100000 in
theorem numScales_lifted (os : Os) (started : os.Started) (H : Type) (enc : TypeId × Value → H) :
    ReturnsInHanded {} Tryd.checked os 5 .any (fun w args => (Rows.numScalesSpec.pre enc Tryd.prog Tryd.f5 [] false w args ∧ laidMetH Tryd.prog laid1 w) ∧ sizedMet enc Tryd.prog Tryd.f5 (OpenSpec.ofChange Rows.numScalesSpec) false w args)
      (Rows.numScalesSpec.post enc Tryd.prog Tryd.f5 false true false false) := by
  refine returnsInHanded_of_change_and (C := Tryd.checked) (X := fun w _ => laidMetH Tryd.prog laid1 w) (fun _ _ _ hh h => h.of_heap hh) own started (by kernel_rfl) Tryd.func5
    (ChangeSpec.witness_shaped (enc := enc) (C := Tryd.checked) (os := os) (X := fun w _ => laidMetH Tryd.prog laid1 w) false (World.doorLaid Tryd.prog 400 os) #[.agg #[.int .i64 0, .int .i64 0, .int .i64 0], .agg #[.int .u8 0, .int .u8 0, .int .u8 0]] 8 rfl (World.shaped_of_RefB (by kernel_rfl) (by kernel_rfl)) (by kernel_rfl) (by kernel_rfl) (by kernel_rfl) (door_met os _)) ?_
  intro W base args ds gs before hval0 hW _ _ hL _
  have hval : ∀ (j : Nat) t v, Tryd.f5.params[j]? = some t → args[j]? = some v → Value.okWide Tryd.prog W .any base t v := hval0
  have hW' := hW
  obtain ⟨p, q, hA0, hV, rfl, hfz, hnd⟩ := hW
  have hA : DataW.TrodAll enc Tryd.prog W 0 (fun _ => true) true Tryd.f5.params.toList args.toList ds p := hA0
  rw [Tryd.params5] at hA hval
  obtain ⟨v0, v1, d0, d1, p0, p1, rfl, rfl, rfl, h0, h1⟩ := trodAll_two hA
  obtain ⟨rfl, rfl⟩ := trodVars_none hV
  obtain ⟨zs, hz, rfl, rfl, rfl, wz⟩ := open_arr Tryd.underlying31 Tryd.underlying3 (by kernel_rfl) (by kernel_rfl) (hval 0 31 v0 rfl rfl) h0
  obtain ⟨us, hu, rfl, rfl, rfl, wu⟩ := open_arr Tryd.underlying32 Tryd.underlying5 (by kernel_rfl) (by kernel_rfl) (hval 1 32 v1 rfl rfl) h1
  obtain ⟨a, b, c, rfl⟩ := list3 hz
  obtain ⟨u, v, s, rfl⟩ := list3 hu
  have hT := of_laid hL
  clear hA0 hval0
  simp only [List.append_nil] at hW'
  refine (numScales_any a b c u v s W hT (fits_of (wz a (by simp))) (fits_of (wz b (by simp))) (fits_of (wz c (by simp))) (bounds_u8 (wu u (by simp))).1 (bounds_u8 (wu u (by simp))).2 (bounds_u8 (wu v (by simp))).1 (bounds_u8 (wu v (by simp))).2 (bounds_u8 (wu s (by simp))).1 (bounds_u8 (wu s (by simp))).2).mono fun e W' ⟨he, hg⟩ => ?_
  subst he
  exact ⟨_, rfl, post_of_same (pa := []) (pv := []) hW' (fun _ _ _ => trodAll_mk1 (shut_bool Tryd.underlying4 _)) (fun sp _ => trodAll_mk2 (shut_arr Tryd.underlying31 Tryd.underlying3 (by kernel_rfl) (by kernel_rfl) hz wz) (shut_arr Tryd.underlying32 Tryd.underlying5 (by kernel_rfl) (by kernel_rfl) hu wu)) (fun _ _ => rfl) rfl (hg.frame _) hg.2.1 (ok_one (by kernel_rfl) rfl (okWide_bool_mk Tryd.underlying4 _))⟩

theorem numScales_row : Rows.NumScalesSaid :=
  OpenClaim.holds_of_wide 5 Tryd.f5 rfl rfl rfl rfl rfl rfl rfl ⟨rfl, rfl, rfl, rfl, rfl⟩ rfl rfl rfl rfl rfl (by kernel_rfl) Tryd.func5 (by kernel_rfl)
    (of_decide_eq_true (by kernel_rfl)) (by unfold Func.isWrapper; first | (rw [if_pos (by decide +kernel)]; kernel_rfl) | (rw [if_neg (by decide +kernel)]; exact ⟨rfl, rfl⟩))
    (fun os started H enc _ => numScales_lifted os started H enc)

/-- The given statement. -/
theorem numScales_holds : Rows.NumScalesCardSaid :=
  Claim7.holds_tied_plain_at .later [] [.data] true (true, "bf85c4916e9a7308bbe47f137d5538c5dc2f9a21ef3ee3eb2e642297461c402c") false
    numScales_row (fun _ h => by cases h) (by kernel_rfl) (fun _ h => by cases h) numScales_row_tie rfl ⟨rfl, rfl⟩ (by kernel_rfl) rfl
    (fun f fn hf hfn => by
      obtain rfl : f = 5 := Option.some.inj ((show Tryd.prog.funcNamed "isochron/isochronlaw01.NumScales" = some 5 by kernel_rfl).symm.trans hf) |>.symm
      obtain rfl : fn = Tryd.f5 := (Option.some.inj (Tryd.func5.symm.trans hfn)).symm
      exact ⟨by kernel_rfl, fun j t ht => by
        rw [Tryd.params5] at ht
        have hm : t ∈ [31, 32] := by simpa using Array.mem_of_getElem? ht
        have hall : ([31, 32].all fun u => !Tryd.prog.wantsStandIn u) = true := by kernel_rfl
        exact (show Tryd.prog.wantsStandIn t = false by simpa using List.all_eq_true.1 hall t hm)⟩)
    (by kernel_rfl)
#print axioms numScales_holds

end Go.Proofs.YtcfdinfnahkanaaDoor
