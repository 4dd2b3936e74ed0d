/-
  NumShares returns true for every input: the greatest common divisor and the least common multiple give the product. Condition: the table of TrailingZeros64 lies in its variable as the program's text lays it (the card ties it).
-/
import Derived.Test.YtcfdinfnahkanaaDoorNt
import Derived.Test.YtcfdinfnahkanaaDoorTie
import Derived.Test.YtcfdinfnahkanaaDoorCards
import Derived.SevenTiedAt
namespace Go.Proofs.YtcfdinfnahkanaaDoor
open Go.ChangeShapes Go.WideShapes Go.ChangeAt Go.WideMaps Go.WideElems Go.RowKit

/-- What the walk of NumShares needs of its numbers. -/
structure Sh (k x y a b g a1 b1 L : Int) : Prop where
  k1 : 1 ≤ k
  k2 : k ≤ 32
  x1 : 0 ≤ x
  x2 : x < 1048576
  y1 : 0 ≤ y
  y2 : y < 1048576
  ea : k * (1 + x) = a
  eb : k * (1 + y) = b
  la : 1 ≤ a
  la2 : a ≤ 33554432
  lb : 1 ≤ b
  lb2 : b ≤ 33554432
  lg : 1 ≤ g
  lg2 : g ≤ 33554432
  ra : a.tmod g = 0
  rb : b.tmod g = 0
  rk : g.tmod k = 0
  qa : a / g = a1
  qb : b / g = b1
  a11 : 1 ≤ a1
  a12 : a1 ≤ 33554432
  b11 : 1 ≤ b1
  b12 : b1 ≤ 33554432
  gab : gcdV a b = g
  gba : gcdV b (-a) = g
  g11 : gcdV a1 b1 = 1
  eL : a1 * b = L
  L1 : 1 ≤ L
  L2 : L ≤ 1125899906842624
  lc : lcmO [a, b] = some L

theorem gcdV_nat (A B : Nat) (hA : A ≤ 1125899906842624) (hB : B ≤ 1125899906842624) : gcdV (A : Int) (B : Int) = ((Nat.gcd A B : Nat) : Int) := by
  unfold gcdV
  rw [if_pos (by rw [inB_iff.2 ⟨by omega, by omega⟩, inB_iff.2 ⟨by omega, by omega⟩]; rfl)]
  simp

theorem Sh.of (K X Y : Nat) (k1 : 1 ≤ K) (k2 : K ≤ 32) (x2 : X < 1048576) (y2 : Y < 1048576) :
    ∃ a b g a1 b1 L, Sh (K : Int) (X : Int) (Y : Int) a b g a1 b1 L := by
  obtain ⟨A, hA⟩ : ∃ A, K * (1 + X) = A := ⟨_, rfl⟩
  obtain ⟨B, hB⟩ : ∃ B, K * (1 + Y) = B := ⟨_, rfl⟩
  have a0 : 1 * 1 ≤ A := by rw [← hA]; exact Nat.mul_le_mul k1 (by omega)
  have a9 : A ≤ 32 * 1048576 := by rw [← hA]; exact Nat.mul_le_mul k2 (by omega)
  have b0 : 1 * 1 ≤ B := by rw [← hB]; exact Nat.mul_le_mul k1 (by omega)
  have b9 : B ≤ 32 * 1048576 := by rw [← hB]; exact Nat.mul_le_mul k2 (by omega)
  obtain ⟨G, hG⟩ : ∃ G, Nat.gcd A B = G := ⟨_, rfl⟩
  have dA : G ∣ A := hG ▸ Nat.gcd_dvd_left A B
  have dB : G ∣ B := hG ▸ Nat.gcd_dvd_right A B
  have g0 : 0 < G := hG ▸ Nat.gcd_pos_of_pos_left B (show 0 < A by omega)
  have dK : K ∣ G := hG ▸ Nat.dvd_gcd ⟨1 + X, hA.symm⟩ ⟨1 + Y, hB.symm⟩
  obtain ⟨A1, eA⟩ := dA
  obtain ⟨B1, eB⟩ := dB
  obtain ⟨M, eM⟩ := dK
  have qA : A / G = A1 := by rw [eA, Nat.mul_div_cancel_left _ g0]
  have qB : B / G = B1 := by rw [eB, Nat.mul_div_cancel_left _ g0]
  have p1 : 1 ≤ A1 := by
    apply Nat.one_le_iff_ne_zero.2
    intro h; rw [h] at eA; simp at eA; omega
  have p2 : 1 ≤ B1 := by
    apply Nat.one_le_iff_ne_zero.2
    intro h; rw [h] at eB; simp at eB; omega
  have l1 : A1 ≤ A := by rw [← qA]; exact Nat.div_le_self _ _
  have l2 : B1 ≤ B := by rw [← qB]; exact Nat.div_le_self _ _
  have lG : G ≤ A := Nat.le_of_dvd (by omega) ⟨A1, eA⟩
  have co : Nat.gcd A1 B1 = 1 := by
    have := Nat.gcd_mul_left G A1 B1
    rw [← eA, ← eB, hG] at this
    exact Nat.eq_of_mul_eq_mul_left g0 (by omega)
  have hL : A1 * B ≤ 33554432 * 33554432 := Nat.mul_le_mul (by omega) (by omega)
  have hL0 : 1 * 1 ≤ A1 * B := Nat.mul_le_mul p1 (by omega)
  have hLe : A * B1 = A1 * B := by rw [eA, eB, Nat.mul_comm G A1, Nat.mul_assoc]
  have gAB : gcdV (A : Int) (B : Int) = (G : Int) := by rw [gcdV_nat A B (by omega) (by omega), hG]
  refine ⟨(A : Int), (B : Int), (G : Int), (A1 : Int), (B1 : Int), ((A1 * B : Nat) : Int), ?_⟩
  refine ⟨by omega, by omega, by omega, by omega, by omega, by omega, ?_, ?_, by omega, by omega, by omega, by omega, by omega, by omega, ?_, ?_, ?_, ?_, ?_, by omega, by omega, by omega, by omega, gAB, ?_, ?_, ?_, by omega, by omega, ?_⟩
  · rw [← hA, Int.natCast_mul]; rfl
  · rw [← hB, Int.natCast_mul]; rfl
  · rw [eA, Int.natCast_mul]; exact Int.mul_tmod_right _ _
  · rw [eB, Int.natCast_mul]; exact Int.mul_tmod_right _ _
  · rw [eM, Int.natCast_mul]; exact Int.mul_tmod_right _ _
  · rw [← qA]; exact (Int.natCast_ediv A G).symm
  · rw [← qB]; exact (Int.natCast_ediv B G).symm
  · unfold gcdV
    rw [if_pos (by rw [inB_iff.2 ⟨by omega, by omega⟩, inB_iff.2 ⟨by omega, by omega⟩]; rfl)]
    simp only [Int.natAbs_natCast, Int.natAbs_neg]
    rw [Nat.gcd_comm, hG]
  · rw [gcdV_nat A1 B1 (by omega) (by omega), co]; rfl
  · exact (Int.natCast_mul A1 B).symm
  · have e1 : lcmV 1 (A : Int) = (A : Int) := by
      unfold lcmV
      have : gcdV 1 (A : Int) = 1 := by
        have := gcdV_nat 1 A (by omega) (by omega)
        rw [Nat.gcd_one_left] at this
        exact this
      rw [this, Int.ediv_one, Int.one_mul]
    have e2 : lcmV (A : Int) (B : Int) = ((A1 * B : Nat) : Int) := by
      unfold lcmV
      rw [gAB, ← Int.natCast_ediv, qB, ← Int.natCast_mul, hLe]
    have o1 : okE (A : Int) = true := by unfold okE; rw [inB_iff.2 ⟨by omega, by omega⟩, decide_eq_true (show 1 ≤ (A : Int) by omega)]; rfl
    have o2 : okE (B : Int) = true := by unfold okE; rw [inB_iff.2 ⟨by omega, by omega⟩, decide_eq_true (show 1 ≤ (B : Int) by omega)]; rfl
    unfold lcmO
    rw [if_pos (by simp [o1, o2]), lcmS_cons, e1, if_pos (inB_iff.2 ⟨by omega, by omega⟩), lcmS_cons, e2, if_pos (inB_iff.2 ⟨by omega, by omega⟩)]
    rfl

set_option maxRecDepth 100000 in
set_option maxHeartbeats 4000000 in
theorem numShares_core (n0 n1 n2 k x y a b g a1 b1 L : Int) (w : World) (hT : Tab w) (X : Sh k x y a b g a1 b1 L)
    (i0 : 0 ≤ n0) (i1 : 0 ≤ n1) (i2 : 0 ≤ n2) (hk : 1 + n2 % 32 = k) (hx : n0 % 1048576 = x) (hy : n1 % 1048576 = y) :
    Calls Tryd.prog 9 #[.agg #[.int .u32 n0, .int .u32 n1, .int .u32 n2]] w fun e w' => e = .returned (.bool true) ∧ Grown w w' := by
  obtain ⟨k1, k2, x1, x2, y1, y2, ea, eb, la, la2, lb, lb2, lg, lg2, ra, rb, rk, qa, qb, a11, a12, b11, b12, gab, gba, g11, eL, L1, L2, lc⟩ := X
  have C1 : Hid (∀ w, Tab w → Calls Tryd.prog 27 #[.int .i64 a, .int .i64 b] w fun e w' => e = .returned (.int .i64 g) ∧ Grown w w') := fun w hT => by
    have := gcd_any a b w hT
    rw [gab] at this; exact this
  have C2 : Hid (∀ w, Tab w → Calls Tryd.prog 27 #[.int .i64 b, .int .i64 (-a)] w fun e w' => e = .returned (.int .i64 g) ∧ Grown w w') := fun w hT => by
    have := gcd_any b (-a) w hT
    rw [gba] at this; exact this
  have C3 : Hid (∀ w, Tab w → Calls Tryd.prog 27 #[.int .i64 a1, .int .i64 b1] w fun e w' => e = .returned (.int .i64 1) ∧ Grown w w') := fun w hT => by
    have := gcd_any a1 b1 w hT
    rw [g11] at this; exact this
  have C4 : Hid (∀ w, Tab w → Calls Tryd.prog 29 #[.slice (some ⟨w.heap.size, 0, none⟩) 2 2] (w.alloc (.cells #[.int .i64 a, .int .i64 b] 3)) fun e w' => e = .returned (.tuple #[.int .i64 L, .bool true]) ∧ Grown w w') := fun w hT => by
    have hg : Grown w (w.alloc (.cells #[.int .i64 a, .int .i64 b] 3)) := (Grown.refl w).alloc _ _
    have hrow : Row (w.alloc (.cells #[.int .i64 a, .int .i64 b] 3)) (some ⟨w.heap.size, 0, none⟩) [a, b] := row_new [a, b] w _ _ (by simp) (by
      intro k hk
      match k, hk with
      | 0, _ => simp [go_sem]
      | 1, _ => simp [go_sem])
    have := lcm_any [a, b] (some ⟨w.heap.size, 0, none⟩) 2 _ (hT.grown hg) hrow
    rw [lc] at this
    refine this.mono ?_
    rintro e w' ⟨rfl, h⟩
    exact ⟨rfl, grown_trans hg h⟩
  clear gab gba g11 lc
  have HT := Lib.hid hT; clear hT
  have g0 : ¬ g = 0 := by omega
  have k0 : ¬ k = 0 := by omega
  have da : a.tdiv g = a1 := by rw [← qa, Int.tdiv_eq_ediv_of_nonneg (by omega)]
  have db : b.tdiv g = b1 := by rw [← qb, Int.tdiv_eq_ediv_of_nonneg (by omega)]
  have wa : IntKind.i64.wrap a = a := IntWalk.i64_in _ (by omega)
  have wb : IntKind.i64.wrap b = b := IntWalk.i64_in _ (by omega)
  have wa1 : IntKind.i64.wrap a1 = a1 := IntWalk.i64_in _ (by omega)
  have wb1 : IntKind.i64.wrap b1 = b1 := IntWalk.i64_in _ (by omega)
  have wna : IntKind.i64.wrap (-a) = -a := IntWalk.i64_in _ (by omega)
  have hg1 : decide (g < 1) = false := decide_eq_false (by omega)
  go_enter Tryd.func9, Tryd.ntmps9
  go_wp2_with fail
  refine (works_any _ (HT.out.grown ((Grown.refl w).alloc _ _))).mono ?_
  rintro e v1 ⟨rfl, gr⟩
  have cc0 := (grown_cell gr (p := ⟨w.heap.size, 0, none⟩) (by simp)).trans (show _ = some (.int .u32 n0) by simp [go_sem])
  have cc1 := (grown_cell gr (p := ⟨w.heap.size, 1, none⟩) (by simp)).trans (show _ = some (.int .u32 n1) by simp [go_sem])
  have cc2 := (grown_cell gr (p := ⟨w.heap.size, 2, none⟩) (by simp)).trans (show _ = some (.int .u32 n2) by simp [go_sem])
  have G1 := Lib.hid (grown_trans ((Grown.refl w).alloc _ _) gr)
  clear gr
  go_wp2_with fail
  go_quiet (fail)
  go_wp2_with fail
  refine (C1.out _ (HT.out.grown (grown_trans G1.out (grown_drewN _ _)))).mono ?_
  rintro e v2 ⟨rfl, gr⟩
  have G2 := Lib.hid (grown_trans G1.out (grown_trans (grown_drewN _ _) gr)); clear gr
  go_wp2_with fail
  have G3 := Lib.hid (HT.out.grown G2.out)
  go_region_held3 (fun w' => Grown v2 w') (first | exact (Grown.refl v2).drew | assumption | (refine grown_trans ?_ gr; assumption)) (first | (go_at_call_of 27 (Value.int .i64 b); have hk2 : Grown v2 _ := (by assumption); refine (C2.out _ (G3.out.grown hk2)).mono ?_; rintro e w' ⟨rfl, gr⟩) | (go_at_call_of 27 (Value.int .i64 a1); have hk2 : Grown v2 _ := (by assumption); refine (C3.out _ (G3.out.grown hk2)).mono ?_; rintro e w' ⟨rfl, gr⟩))
  have hk3 : Grown v2 _ := (by assumption)
  have G4 := Lib.hid (grown_trans G2.out hk3)
  clear hk3
  go_wp2_with fail
  refine (C4.out _ (HT.out.grown G4.out)).mono ?_
  rintro e v5 ⟨rfl, gr⟩
  have G5 := Lib.hid (grown_trans G4.out gr); clear gr
  go_wp2_with fail
  refine (is_yes _ _).mono ?_
  rintro e w' ⟨rfl, rfl⟩
  go_wp2
  go_ret
  exact ⟨rfl, G5.out⟩

theorem numShares_any (n0 n1 n2 : Int) (w : World) (hT : Tab w) (f0 : 0 ≤ n0) (f1 : 0 ≤ n1) (f2 : 0 ≤ n2) :
    Calls Tryd.prog 9 #[.agg #[.int .u32 n0, .int .u32 n1, .int .u32 n2]] w fun e w' => e = .returned (.bool true) ∧ Grown w w' := by
  obtain ⟨a, b, g, a1, b1, L, X⟩ := Sh.of (1 + n2.toNat % 32) (n0.toNat % 1048576) (n1.toNat % 1048576) (by omega) (by omega) (by omega) (by omega)
  exact numShares_core n0 n1 n2 _ _ _ a b g a1 b1 L w hT X f0 f1 f2 (by omega) (by omega) (by omega)

set_option maxRecDepth 100000 in
theorem numShares_lifted (os : Os) (started : os.Started) (H : Type) (enc : TypeId × Value → H) :
    ReturnsInHanded {} Tryd.checked os 9 .any (fun w args => (Rows.numSharesSpec.pre enc Tryd.prog Tryd.f9 [] false w args ∧ laidMetH Tryd.prog laid1 w) ∧ sizedMet enc Tryd.prog Tryd.f9 (OpenSpec.ofChange Rows.numSharesSpec) false w args)
      (Rows.numSharesSpec.post enc Tryd.prog Tryd.f9 false true false false) := by
  refine returnsInHanded_of_change_and (C := Tryd.checked) (X := fun w _ => laidMetH Tryd.prog laid1 w) (fun _ _ _ hh h => h.of_heap hh) own started (by kernel_rfl) Tryd.func9
    (ChangeSpec.witness_shaped (enc := enc) (C := Tryd.checked) (os := os) (X := fun w _ => laidMetH Tryd.prog laid1 w) false (World.doorLaid Tryd.prog 400 os) #[.agg #[.int .u32 0, .int .u32 0, .int .u32 0]] 8 rfl (World.shaped_of_RefB (by kernel_rfl) (by kernel_rfl)) (by kernel_rfl) (by kernel_rfl) (by kernel_rfl) (door_met os _)) ?_
  intro W base args ds gs before hval0 hW _ _ hL _
  have hval : ∀ (j : Nat) t v, Tryd.f9.params[j]? = some t → args[j]? = some v → Value.okWide Tryd.prog W .any base t v := hval0
  have hW' := hW
  obtain ⟨p, q, hA0, hV, rfl, hfz, hnd⟩ := hW
  have hA : DataW.TrodAll enc Tryd.prog W 0 (fun _ => true) true Tryd.f9.params.toList args.toList ds p := hA0
  rw [Tryd.params9] at hA hval
  obtain ⟨v0, d0, rfl, rfl, h0⟩ := trodAll_one hA
  obtain ⟨rfl, rfl⟩ := trodVars_none hV
  obtain ⟨zs, hz, rfl, rfl, rfl, wz⟩ := open_arr Tryd.underlying44 Tryd.underlying43 (by kernel_rfl) (by kernel_rfl) (hval 0 44 v0 rfl rfl) h0
  obtain ⟨a, b, c, rfl⟩ := list3 hz
  have hT := of_laid hL
  clear hA0 hval0
  simp only [List.append_nil] at hW'
  refine (numShares_any a b c W hT (bounds_u32 (wz a (by simp))).1 (bounds_u32 (wz b (by simp))).1 (bounds_u32 (wz c (by simp))).1).mono fun e W' ⟨he, hg⟩ => ?_
  subst he
  exact ⟨_, rfl, post_of_same (pa := []) (pv := []) hW' (fun _ _ _ => trodAll_mk1 (shut_bool Tryd.underlying4 _)) (fun sp _ => trodAll_mk1 (shut_arr Tryd.underlying44 Tryd.underlying43 (by kernel_rfl) (by kernel_rfl) hz wz)) (fun _ _ => rfl) rfl (hg.frame _) hg.2.1 (ok_one (by kernel_rfl) rfl (okWide_bool_mk Tryd.underlying4 _))⟩

theorem numShares_row : Rows.NumSharesSaid :=
  OpenClaim.holds_of_wide 9 Tryd.f9 rfl rfl rfl rfl rfl rfl rfl ⟨rfl, rfl, rfl, rfl, rfl⟩ rfl rfl rfl rfl rfl (by kernel_rfl) Tryd.func9 (by kernel_rfl)
    (of_decide_eq_true (by kernel_rfl)) (by unfold Func.isWrapper; first | (rw [if_pos (by decide +kernel)]; kernel_rfl) | (rw [if_neg (by decide +kernel)]; exact ⟨rfl, rfl⟩))
    (fun os started H enc _ => numShares_lifted os started H enc)

/-- The given statement. -/
theorem numShares_holds : Rows.NumSharesCardSaid :=
  Claim7.holds_tied_plain_at .later [] [.data] true (true, "bf85c4916e9a7308bbe47f137d5538c5dc2f9a21ef3ee3eb2e642297461c402c") false
    numShares_row (fun _ h => by cases h) (by kernel_rfl) (fun _ h => by cases h) numShares_row_tie rfl ⟨rfl, rfl⟩ (by kernel_rfl) rfl
    (fun f fn hf hfn => by
      obtain rfl : f = 9 := Option.some.inj ((show Tryd.prog.funcNamed "isochron/isochronlaw01.NumShares" = some 9 by kernel_rfl).symm.trans hf) |>.symm
      obtain rfl : fn = Tryd.f9 := (Option.some.inj (Tryd.func9.symm.trans hfn)).symm
      exact ⟨by kernel_rfl, fun j t ht => by
        rw [Tryd.params9] at ht
        have hm : t ∈ [44] := by simpa using Array.mem_of_getElem? ht
        have hall : ([44].all fun u => !Tryd.prog.wantsStandIn u) = true := by kernel_rfl
        exact (show Tryd.prog.wantsStandIn t = false by simpa using List.all_eq_true.1 hall t hm)⟩)
    (by kernel_rfl)
#print axioms numShares_holds

end Go.Proofs.YtcfdinfnahkanaaDoor
