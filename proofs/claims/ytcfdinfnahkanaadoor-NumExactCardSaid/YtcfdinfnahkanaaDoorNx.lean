/-
  NumExact returns true for every input: quotient and remainder give the dividend, and MulDiv of exact products is exact. Condition: the table of TrailingZeros64 lies in its variable as the program's text lays it (the card ties it).
-/
import Derived.Test.YtcfdinfnahkanaaDoorNt
import Derived.Test.YtcfdinfnahkanaaDoorTie
import Derived.Test.YtcfdinfnahkanaaDoorCards
import Derived.SevenTiedAt
namespace Go.Proofs.YtcfdinfnahkanaaDoor
open Go.ChangeShapes Go.WideShapes Go.ChangeAt Go.WideMaps Go.WideElems Go.RowKit

theorem tmod_lt (x m : Int) (hm : 0 < m) : -m < x.tmod m ∧ x.tmod m < m := by
  have := tmod_bd x m (by omega)
  exact this

/-- What the walk of NumExact needs of its numbers. -/
structure Ex (a b c q r d p s e m k : Int) : Prop where
  a1 : -1125899906842624 < a
  a2 : a < 1125899906842624
  b1 : 1 ≤ b
  b2 : b ≤ 1125899906842624
  q1 : -1125899906842624 ≤ q
  q2 : q ≤ 1125899906842624
  r1 : 0 ≤ r
  r2 : r < b
  d1 : -1125899906842624 ≤ d
  d2 : d ≤ 1125899906842624
  p1 : p + r = a
  up0 : r = 0 → -d = q
  up1 : 1 ≤ r → -d = q + 1
  s1 : -16777216 < s
  s2 : s < 16777216
  c1 : -16777216 < c
  c2 : c < 16777216
  e1 : 1 ≤ e
  e2 : e ≤ 1048576
  m1 : -281474976710656 ≤ m
  m2 : m ≤ 281474976710656
  k1 : -281474976710656 ≤ k
  k2 : k ≤ 281474976710656

theorem Ex.of (a b c s e : Int) (a1 : -1125899906842624 < a) (a2 : a < 1125899906842624) (b1 : 1 ≤ b) (b2 : b ≤ 1125899906842624) (s1 : -16777216 < s) (s2 : s < 16777216) (c1 : -16777216 < c) (c2 : c < 16777216) (e1 : 1 ≤ e) (e2 : e ≤ 1048576) :
    Ex a b c (a / b) (a % b) ((-a) / b) (a / b * b) s e (s * c) (s * c / e) := by
  have hq := div_bd a b b1 1125899906842624 (by omega) (by omega) (by omega)
  have hd := div_bd (-a) b b1 1125899906842624 (by omega) (by omega) (by omega)
  have hr1 := Int.emod_nonneg a (show b ≠ 0 by omega)
  have hr2 := Int.emod_lt_of_pos a (show 0 < b by omega)
  have he := Int.mul_ediv_add_emod a b
  rw [Int.mul_comm] at he
  obtain ⟨f1, f2, _⟩ := cdv_eq a b b1 b2
  unfold cdv at f1 f2
  have hm : -281474976710656 ≤ s * c ∧ s * c ≤ 281474976710656 := by
    have h1 : (s * c).natAbs ≤ 16777216 * 16777216 := by rw [Int.natAbs_mul]; exact Nat.mul_le_mul (by omega) (by omega)
    omega
  have hk := div_bd (s * c) e e1 281474976710656 (by omega) hm.1 hm.2
  exact ⟨a1, a2, b1, b2, hq.1, hq.2, hr1, hr2, hd.1, hd.2, by omega, fun h => (f2 (by omega)).symm, fun h => (f1 (by omega)).symm, s1, s2, c1, c2, e1, e2, hm.1, hm.2, hk.1, hk.2⟩

set_option maxRecDepth 100000 in
set_option maxHeartbeats 4000000 in
theorem numExact_core (n0 n1 n2 a b c q r d p s e m k : Int) (N : Nat) (w : World) (hT : Tab w) (X : Ex a b c q r d p s e m k)
    (ha : n0.tmod 1125899906842624 = a) (hN : IntKind.u64.wrap n1 = (N : Int)) (hb : 1 + (N : Int) % 1125899906842624 = b) (hc : n2.tmod 16777216 = c)
    (hs : a.tmod 16777216 = s) (he : 1 + b % 1048576 = e) (hp : q * b = p) (hm : s * c = m)
    (C1 : ∀ w, Calls Tryd.prog 19 #[.int .i64 a, .int .i64 b] w fun e w' => e = .returned (.tuple #[.int .i64 q, .bool true]) ∧ Grown w w')
    (C2 : ∀ w, Calls Tryd.prog 23 #[.int .i64 a, .int .i64 b] w fun e w' => e = .returned (.tuple #[.int .i64 r, .bool true]) ∧ Grown w w')
    (C3 : ∀ w, Calls Tryd.prog 21 #[.int .i64 a, .int .i64 b] w fun e w' => e = .returned (.tuple #[.int .i64 (-d), .bool true]) ∧ Grown w w')
    (C4 : ∀ w, Calls Tryd.prog 19 #[.int .i64 (-a), .int .i64 b] w fun e w' => e = .returned (.tuple #[.int .i64 d, .bool true]) ∧ Grown w w')
    (C5 : ∀ w, Calls Tryd.prog 25 #[.int .i64 a, .int .i64 b, .int .i64 b] w fun e w' => e = .returned (.tuple #[.int .i64 a, .bool true]) ∧ Grown w w')
    (C6 : ∀ w, Calls Tryd.prog 25 #[.int .i64 s, .int .i64 c, .int .i64 e] w fun e w' => e = .returned (.tuple #[.int .i64 k, .bool true]) ∧ Grown w w')
    (C7 : ∀ w, Calls Tryd.prog 19 #[.int .i64 m, .int .i64 e] w fun e w' => e = .returned (.tuple #[.int .i64 k, .bool true]) ∧ Grown w w') :
    Calls Tryd.prog 7 #[.agg #[.int .i64 n0, .int .i64 n1, .int .i64 n2]] w fun e w' => e = .returned (.bool true) ∧ Grown w w' := by
  obtain ⟨a1, a2, b1, b2, q1, q2, r1, r2, d1, d2, p1, up0, up1, s1, s2, c1, c2, e1, e2, m1, m2, k1, k2⟩ := X
  have C1 := Lib.hid C1
  have C2 := Lib.hid C2
  have C3 := Lib.hid C3
  have C4 := Lib.hid C4
  have C5 := Lib.hid C5
  have C6 := Lib.hid C6
  have C7 := Lib.hid C7
  have HT := Lib.hid hT; clear hT
  have hp1 : p + r ≤ a := by omega
  have hp2 : a ≤ p + r := by omega
  clear p1
  have hu : Hid (-d - q = min r 1) := by
    unfold Hid
    rcases Int.lt_or_le 0 r with h | h
    · have := up1 h; omega
    · have := up0 (by omega); omega
  clear up0 up1
  have hmin : (-d - q != if 1 < r then 1 else r) = false := by
    have := hu.out
    simp only [bne_eq_false_iff_eq]
    split <;> omega
  go_enter Tryd.func7, Tryd.ntmps7
  go_wp2_with fail
  refine (works_any _ (HT.out.grown ((Grown.refl w).alloc _ _))).mono ?_
  rintro e w1 ⟨rfl, g⟩
  have cc0 := (grown_cell g (p := ⟨w.heap.size, 0, none⟩) (by simp)).trans (show _ = some (.int .i64 n0) by simp [go_sem])
  have cc1 := (grown_cell g (p := ⟨w.heap.size, 1, none⟩) (by simp)).trans (show _ = some (.int .i64 n1) by simp [go_sem])
  have cc2 := (grown_cell g (p := ⟨w.heap.size, 2, none⟩) (by simp)).trans (show _ = some (.int .i64 n2) by simp [go_sem])
  have G1 := Lib.hid (grown_trans ((Grown.refl w).alloc _ _) g)
  clear g
  go_wp2_with fail
  go_quiet (fail)
  go_wp2_with fail
  refine (C1.out _).mono ?_
  rintro e w2 ⟨rfl, g⟩
  have G2 := Lib.hid (grown_trans G1.out (grown_trans (grown_drewN _ _) g)); clear g
  go_wp2_with fail
  refine (C2.out _).mono ?_
  rintro e w3 ⟨rfl, g⟩
  have G3 := Lib.hid (grown_trans G2.out g); clear g G2
  go_wp2_with fail
  refine (C3.out _).mono ?_
  rintro e w4 ⟨rfl, g⟩
  have G4 := Lib.hid (grown_trans G3.out g); clear g G3
  go_wp2_with fail
  refine (C4.out _).mono ?_
  rintro e w5 ⟨rfl, g⟩
  have G5 := Lib.hid (grown_trans G4.out g); clear g G4
  go_wp2_with fail
  all_goals
    refine (C5.out _).mono ?_
    rintro e w6 ⟨rfl, g⟩
    have G6 := Lib.hid (grown_trans G5.out g); clear g G5
    go_wp2_with fail
    refine (C6.out _).mono ?_
    rintro e w7 ⟨rfl, g⟩
    have G7 := Lib.hid (grown_trans G6.out g); clear g G6
    go_wp2_with fail
    refine (C7.out _).mono ?_
    rintro e w8 ⟨rfl, g⟩
    have G8 := Lib.hid (grown_trans G7.out g); clear g G7
    go_wp2_with fail
    refine (is_yes _ _).mono ?_
    rintro e w' ⟨rfl, rfl⟩
    go_wp2
    go_ret
    exact ⟨rfl, G8.out⟩

theorem numExact_any (n0 n1 n2 : Int) (w : World) (hT : Tab w) (_f0 : fits n0) (_f1 : fits n1) (_f2 : fits n2) :
    Calls Tryd.prog 7 #[.agg #[.int .i64 n0, .int .i64 n1, .int .i64 n2]] w fun e w' => e = .returned (.bool true) ∧ Grown w w' := by
  obtain ⟨N, hN⟩ : ∃ N, unat n1 = N := ⟨_, rfl⟩
  have hw : IntKind.u64.wrap n1 = (N : Int) := by rw [IntKind.wrap_u64, ← hN]; unfold unat; omega
  have ta := tmod_lt n0 1125899906842624 (by omega)
  have tc := tmod_lt n2 16777216 (by omega)
  have X := Ex.of (n0.tmod 1125899906842624) (1 + (N : Int) % 1125899906842624) (n2.tmod 16777216) ((n0.tmod 1125899906842624).tmod 16777216) (1 + (1 + (N : Int) % 1125899906842624) % 1048576) ta.1 ta.2 (by omega) (by omega)
    (tmod_lt _ 16777216 (by omega)).1 (tmod_lt _ 16777216 (by omega)).2 tc.1 tc.2 (by omega) (by omega)
  generalize ea : n0.tmod 1125899906842624 = a at *
  generalize eb : 1 + (N : Int) % 1125899906842624 = b at *
  generalize ec : n2.tmod 16777216 = c at *
  generalize es : a.tmod 16777216 = s at *
  generalize ee : 1 + b % 1048576 = e at *
  have dv : dvB a b = true := dvB_iff.2 ⟨⟨⟨by have := X.a1; omega, by have := X.a2; omega⟩, by have := X.b1; omega, X.b2⟩, X.b1⟩
  refine numExact_core n0 n1 n2 a b c _ _ _ _ s e _ _ N w hT X ea hw eb ec es ee rfl rfl (fun w => ?_) (fun w => ?_) (fun w => ?_) (fun w => ?_) (fun w => ?_) (fun w => ?_) (fun w => ?_)
  · have := fdiv_any a b w
    rw [dv] at this; exact this
  · have := mod_any a b w
    rw [dv] at this; exact this
  · have := cdiv_any a b w (by have := X.a1; omega) (by have := X.a2; omega)
    rw [dv] at this; exact this
  · have := fdiv_any (-a) b w
    rw [dvB_neg, dv] at this; exact this
  · have := muldiv_any a b b w
    have e0 : a * b / b = a := Int.mul_ediv_cancel a (by have := X.b1; omega)
    have hm : mdB a b b = true := by
      unfold mdB
      rw [e0, inB_iff.2 ⟨by have := X.a1; omega, by have := X.a2; omega⟩, inB_iff.2 ⟨by have := X.b1; omega, X.b2⟩, decide_eq_true X.b1]; rfl
    rw [hm, e0] at this; exact this
  · have := muldiv_any s c e w
    have hm : mdB s c e = true := by
      unfold mdB
      rw [inB_iff.2 ⟨by have := X.s1; omega, by have := X.s2; omega⟩, inB_iff.2 ⟨by have := X.c1; omega, by have := X.c2; omega⟩, inB_iff.2 ⟨by have := X.e1; omega, by have := X.e2; omega⟩, decide_eq_true X.e1, inB_iff.2 ⟨by have := X.k1; omega, by have := X.k2; omega⟩]; rfl
    rw [hm] at this; exact this
  · have := fdiv_any (s * c) e w
    have hd : dvB (s * c) e = true := dvB_iff.2 ⟨⟨⟨by have := X.m1; omega, by have := X.m2; omega⟩, by have := X.e1; omega, by have := X.e2; omega⟩, X.e1⟩
    rw [hd] at this; exact this

set_option maxRecDepth 100000 in
theorem numExact_lifted (os : Os) (started : os.Started) (H : Type) (enc : TypeId × Value → H) :
    ReturnsInHanded {} Tryd.checked os 7 .any (fun w args => (Rows.numExactSpec.pre enc Tryd.prog Tryd.f7 [] false w args ∧ laidMetH Tryd.prog laid1 w) ∧ sizedMet enc Tryd.prog Tryd.f7 (OpenSpec.ofChange Rows.numExactSpec) false w args)
      (Rows.numExactSpec.post enc Tryd.prog Tryd.f7 false true false false) := by
  refine returnsInHanded_of_change_and (C := Tryd.checked) (X := fun w _ => laidMetH Tryd.prog laid1 w) (fun _ _ _ hh h => h.of_heap hh) own started (by kernel_rfl) Tryd.func7
    (ChangeSpec.witness_shaped (enc := enc) (C := Tryd.checked) (os := os) (X := fun w _ => laidMetH Tryd.prog laid1 w) false (World.doorLaid Tryd.prog 400 os) #[.agg #[.int .i64 0, .int .i64 0, .int .i64 0]] 8 rfl (World.shaped_of_RefB (by kernel_rfl) (by kernel_rfl)) (by kernel_rfl) (by kernel_rfl) (by kernel_rfl) (door_met os _)) ?_
  intro W base args ds gs before hval0 hW _ _ hL _
  have hval : ∀ (j : Nat) t v, Tryd.f7.params[j]? = some t → args[j]? = some v → Value.okWide Tryd.prog W .any base t v := hval0
  have hW' := hW
  obtain ⟨p, q, hA0, hV, rfl, hfz, hnd⟩ := hW
  have hA : DataW.TrodAll enc Tryd.prog W 0 (fun _ => true) true Tryd.f7.params.toList args.toList ds p := hA0
  rw [Tryd.params7] at hA hval
  obtain ⟨v0, d0, rfl, rfl, h0⟩ := trodAll_one hA
  obtain ⟨rfl, rfl⟩ := trodVars_none hV
  obtain ⟨zs, hz, rfl, rfl, rfl, wz⟩ := open_arr Tryd.underlying31 Tryd.underlying3 (by kernel_rfl) (by kernel_rfl) (hval 0 31 v0 rfl rfl) h0
  obtain ⟨a, b, c, rfl⟩ := list3 hz
  have hT := of_laid hL
  clear hA0 hval0
  simp only [List.append_nil] at hW'
  refine (numExact_any a b c W hT (fits_of (wz a (by simp))) (fits_of (wz b (by simp))) (fits_of (wz c (by simp)))).mono fun e W' ⟨he, hg⟩ => ?_
  subst he
  exact ⟨_, rfl, post_of_same (pa := []) (pv := []) hW' (fun _ _ _ => trodAll_mk1 (shut_bool Tryd.underlying4 _)) (fun sp _ => trodAll_mk1 (shut_arr Tryd.underlying31 Tryd.underlying3 (by kernel_rfl) (by kernel_rfl) hz wz)) (fun _ _ => rfl) rfl (hg.frame _) hg.2.1 (ok_one (by kernel_rfl) rfl (okWide_bool_mk Tryd.underlying4 _))⟩

theorem numExact_row : Rows.NumExactSaid :=
  OpenClaim.holds_of_wide 7 Tryd.f7 rfl rfl rfl rfl rfl rfl rfl ⟨rfl, rfl, rfl, rfl, rfl⟩ rfl rfl rfl rfl rfl (by kernel_rfl) Tryd.func7 (by kernel_rfl)
    (of_decide_eq_true (by kernel_rfl)) (by unfold Func.isWrapper; first | (rw [if_pos (by decide +kernel)]; kernel_rfl) | (rw [if_neg (by decide +kernel)]; exact ⟨rfl, rfl⟩))
    (fun os started H enc _ => numExact_lifted os started H enc)

/-- The given statement. -/
theorem numExact_holds : Rows.NumExactCardSaid :=
  Claim7.holds_tied_plain_at .later [] [.data] true (true, "bf85c4916e9a7308bbe47f137d5538c5dc2f9a21ef3ee3eb2e642297461c402c") false
    numExact_row (fun _ h => by cases h) (by kernel_rfl) (fun _ h => by cases h) numExact_row_tie rfl ⟨rfl, rfl⟩ (by kernel_rfl) rfl
    (fun f fn hf hfn => by
      obtain rfl : f = 7 := Option.some.inj ((show Tryd.prog.funcNamed "isochron/isochronlaw01.NumExact" = some 7 by kernel_rfl).symm.trans hf) |>.symm
      obtain rfl : fn = Tryd.f7 := (Option.some.inj (Tryd.func7.symm.trans hfn)).symm
      exact ⟨by kernel_rfl, fun j t ht => by
        rw [Tryd.params7] at ht
        have hm : t ∈ [31] := by simpa using Array.mem_of_getElem? ht
        have hall : ([31].all fun u => !Tryd.prog.wantsStandIn u) = true := by kernel_rfl
        exact (show Tryd.prog.wantsStandIn t = false by simpa using List.all_eq_true.1 hall t hm)⟩)
    (by kernel_rfl)
#print axioms numExact_holds

end Go.Proofs.YtcfdinfnahkanaaDoor
