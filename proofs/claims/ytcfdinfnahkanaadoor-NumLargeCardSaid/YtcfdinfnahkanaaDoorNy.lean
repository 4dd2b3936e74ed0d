/-
  NumLarge returns true for every input: MulDiv of a product that is out of range is the floor. Condition: the table of TrailingZeros64 lies in its variable as the program's text lays it (the card ties it).
-/
import Derived.Test.YtcfdinfnahkanaaDoorNt
import Derived.Test.YtcfdinfnahkanaaDoorTie
import Derived.Test.YtcfdinfnahkanaaDoorCards
import Derived.SevenTiedAt
namespace Go.Proofs.YtcfdinfnahkanaaDoor
open Go.ChangeShapes Go.WideShapes Go.ChangeAt Go.WideMaps Go.WideElems Go.RowKit

/-- What the walk of NumLarge needs of its numbers. -/
structure Lg (a b c q m o g l h i : Int) : Prop where
  a1 : 0 ≤ a
  a2 : a < 1125899906842624
  b1 : 0 ≤ b
  b2 : b < c
  c1 : 1 ≤ c
  c2 : c ≤ 1125899906842624
  q1 : 0 ≤ q
  q2 : q ≤ a
  m1 : q ≤ m
  m2 : m ≤ a
  o1 : o = q
  g1 : -q - 1 ≤ g
  g2 : g ≤ -q
  l1 : 0 ≤ l
  l2 : l ≤ a
  h1 : 0 ≤ h
  h2 : h ≤ a
  i1 : 0 ≤ i
  i2 : i ≤ a
  s1 : i + h ≤ q
  s2 : q ≤ i + h + 1

theorem le_div {x y c : Int} (hc : 1 ≤ c) (h : x * c ≤ y) : x ≤ y / c := (Int.le_ediv_iff_mul_le (by omega)).2 h
theorem div_mono {x y c : Int} (hc : 1 ≤ c) (h : x ≤ y) : x / c ≤ y / c := Int.ediv_le_ediv (by omega) h

theorem Lg.of (a b c l : Int) (a1 : 0 ≤ a) (a2 : a < 1125899906842624) (b1 : 0 ≤ b) (b2 : b < c) (c2 : c ≤ 1125899906842624) (l1 : 0 ≤ l) (l2 : l ≤ a) :
    Lg a b c (a * b / c) (a * (b + 1) / c) (b * a / c) (-a * b / c) l (l * b / c) ((a - l) * b / c) := by
  have c1 : 1 ≤ c := by omega
  have hac : a * c / c = a := Int.mul_ediv_cancel a (by omega)
  have n0 : 0 ≤ a * b := Int.mul_nonneg a1 b1
  have n1 : a * b ≤ a * (b + 1) := Int.mul_le_mul_of_nonneg_left (by omega) a1
  have n2 : a * (b + 1) ≤ a * c := Int.mul_le_mul_of_nonneg_left (by omega) a1
  have n3 : 0 ≤ l * b := Int.mul_nonneg l1 b1
  have n4 : 0 ≤ (a - l) * b := Int.mul_nonneg (by omega) b1
  have n5 : l * b + (a - l) * b = a * b := by rw [← Int.add_mul, show l + (a - l) = a by omega]
  have n6 : -a * b = -(a * b) := Int.neg_mul a b
  have d1 := div_mono c1 n1
  have d2 := div_mono c1 n2
  have d0 : 0 ≤ a * b / c := Int.ediv_nonneg n0 (by omega)
  have e0 : 0 ≤ l * b / c := Int.ediv_nonneg n3 (by omega)
  have e1 : 0 ≤ (a - l) * b / c := Int.ediv_nonneg n4 (by omega)
  rw [hac] at d2
  have x1 := Int.mul_ediv_add_emod (a * b) c
  have x2 := Int.emod_nonneg (a * b) (show c ≠ 0 by omega)
  have x3 := Int.emod_lt_of_pos (a * b) (show 0 < c by omega)
  have y1 := Int.mul_ediv_add_emod (l * b) c
  have y2 := Int.emod_nonneg (l * b) (show c ≠ 0 by omega)
  have y3 := Int.emod_lt_of_pos (l * b) (show 0 < c by omega)
  have z1 := Int.mul_ediv_add_emod ((a - l) * b) c
  have z2 := Int.emod_nonneg ((a - l) * b) (show c ≠ 0 by omega)
  have z3 := Int.emod_lt_of_pos ((a - l) * b) (show 0 < c by omega)
  have v1 := Int.mul_ediv_add_emod (-(a * b)) c
  have v2 := Int.emod_nonneg (-(a * b)) (show c ≠ 0 by omega)
  have v3 := Int.emod_lt_of_pos (-(a * b)) (show 0 < c by omega)
  rw [n6, Int.mul_comm b a]
  have key : ∀ x y : Int, c * x < c * y → x < y := fun x y h => Int.lt_of_mul_lt_mul_left h (by omega)
  have k1 : (a - l) * b / c + l * b / c < a * b / c + 1 := key _ _ (by rw [Int.mul_add, Int.mul_add]; omega)
  have k2 : a * b / c < (a - l) * b / c + l * b / c + 2 := key _ _ (by rw [Int.mul_add, Int.mul_add]; omega)
  have k3 : -(a * b) / c < -(a * b / c) + 1 := key _ _ (by rw [Int.mul_add, Int.mul_neg]; omega)
  have k4 : -(a * b / c) - 2 < -(a * b) / c := key _ _ (by rw [Int.mul_sub, Int.mul_neg]; omega)
  exact ⟨a1, a2, b1, b2, c1, c2, d0, by omega, d1, d2, rfl, by omega, by omega, l1, l2, e0, by omega, e1, by omega, by omega, by omega⟩

theorem md_yes {a b c v : Int} (hv : a * b / c = v) (a1 : -1125899906842624 ≤ a) (a2 : a ≤ 1125899906842624) (b1 : -1125899906842624 ≤ b) (b2 : b ≤ 1125899906842624) (c1 : 1 ≤ c) (c2 : c ≤ 1125899906842624) (v1 : -1125899906842624 ≤ v) (v2 : v ≤ 1125899906842624) (w : World) :
    Calls Tryd.prog 25 #[.int .i64 a, .int .i64 b, .int .i64 c] w fun e w' => e = .returned (.tuple #[.int .i64 v, .bool true]) ∧ Grown w w' := by
  have := muldiv_any a b c w
  have hm : mdB a b c = true := by
    unfold mdB
    rw [hv, inB_iff.2 ⟨a1, a2⟩, inB_iff.2 ⟨b1, b2⟩, inB_iff.2 ⟨by omega, c2⟩, decide_eq_true c1, inB_iff.2 ⟨v1, v2⟩]; rfl
  rw [hm, hv] at this
  exact this

set_option maxRecDepth 100000 in
set_option maxHeartbeats 4000000 in
theorem numLarge_core (n0 n1 n2 a b c q m o g l h i : Int) (N0 N1 N2 : Nat) (w : World) (hT : Tab w) (X : Lg a b c q m o g l h i)
    (w0 : IntKind.u64.wrap n0 = (N0 : Int)) (w1 : IntKind.u64.wrap n1 = (N1 : Int)) (w2 : IntKind.u64.wrap n2 = (N2 : Int))
    (hc : 1 + (N2 : Int) % 1125899906842624 = c) (ha : (N0 : Int) % 1125899906842624 = a) (hb : (N1 : Int) % c = b) (hl : a % 4096 = l)
    (C1 : ∀ w, Calls Tryd.prog 25 #[.int .i64 a, .int .i64 b, .int .i64 c] w fun e w' => e = .returned (.tuple #[.int .i64 q, .bool true]) ∧ Grown w w')
    (C2 : ∀ w, Calls Tryd.prog 25 #[.int .i64 a, .int .i64 (b + 1), .int .i64 c] w fun e w' => e = .returned (.tuple #[.int .i64 m, .bool true]) ∧ Grown w w')
    (C3 : ∀ w, Calls Tryd.prog 25 #[.int .i64 b, .int .i64 a, .int .i64 c] w fun e w' => e = .returned (.tuple #[.int .i64 o, .bool true]) ∧ Grown w w')
    (C4 : ∀ w, Calls Tryd.prog 25 #[.int .i64 (-a), .int .i64 b, .int .i64 c] w fun e w' => e = .returned (.tuple #[.int .i64 g, .bool true]) ∧ Grown w w')
    (C5 : ∀ w, Calls Tryd.prog 25 #[.int .i64 l, .int .i64 b, .int .i64 c] w fun e w' => e = .returned (.tuple #[.int .i64 h, .bool true]) ∧ Grown w w')
    (C6 : ∀ w, Calls Tryd.prog 25 #[.int .i64 (a - l), .int .i64 b, .int .i64 c] w fun e w' => e = .returned (.tuple #[.int .i64 i, .bool true]) ∧ Grown w w') :
    Calls Tryd.prog 8 #[.agg #[.int .i64 n0, .int .i64 n1, .int .i64 n2]] w fun e w' => e = .returned (.bool true) ∧ Grown w w' := by
  obtain ⟨a1, a2, b1, b2, c1, c2, q1, q2, m1, m2, o1, g1, g2, l1, l2, h1, h2, i1, i2, s1, s2⟩ := X
  have C1 := Lib.hid C1
  have C2 := Lib.hid C2
  have C3 := Lib.hid C3
  have C4 := Lib.hid C4
  have C5 := Lib.hid C5
  have C6 := Lib.hid C6
  have HT := Lib.hid hT; clear hT
  have o1' : o ≤ q := by omega
  have o2' : q ≤ o := by omega
  clear o1
  have hcw : IntKind.u64.wrap c = c := by rw [IntKind.wrap_u64]; omega
  have hc0 : ¬ c = 0 := by omega
  go_enter Tryd.func8, Tryd.ntmps8
  go_wp2_with fail
  refine (works_any _ (HT.out.grown ((Grown.refl w).alloc _ _))).mono ?_
  rintro e v1 ⟨rfl, gr⟩
  have cc0 := (grown_cell gr (p := ⟨w.heap.size, 0, none⟩) (by simp)).trans (show _ = some (.int .i64 n0) by simp [go_sem])
  have cc1 := (grown_cell gr (p := ⟨w.heap.size, 1, none⟩) (by simp)).trans (show _ = some (.int .i64 n1) by simp [go_sem])
  have cc2 := (grown_cell gr (p := ⟨w.heap.size, 2, none⟩) (by simp)).trans (show _ = some (.int .i64 n2) by simp [go_sem])
  have G1 := Lib.hid (grown_trans ((Grown.refl w).alloc _ _) gr)
  clear gr
  go_wp2_with fail
  go_quiet (fail)
  go_wp2_with fail
  refine (C1.out _).mono ?_
  rintro e v2 ⟨rfl, gr⟩
  have G2 := Lib.hid (grown_trans G1.out (grown_trans (grown_drewN _ _) gr)); clear gr G1
  go_wp2_with fail
  refine (C2.out _).mono ?_
  rintro e v3 ⟨rfl, gr⟩
  have G3 := Lib.hid (grown_trans G2.out gr); clear gr G2
  go_wp2_with fail
  refine (C3.out _).mono ?_
  rintro e v4 ⟨rfl, gr⟩
  have G4 := Lib.hid (grown_trans G3.out gr); clear gr G3
  go_wp2_with fail
  refine (C4.out _).mono ?_
  rintro e v5 ⟨rfl, gr⟩
  have G5 := Lib.hid (grown_trans G4.out gr); clear gr G4
  go_wp2_with fail
  all_goals
    refine (C5.out _).mono ?_
    rintro e v6 ⟨rfl, gr⟩
    have G6 := Lib.hid (grown_trans G5.out gr); clear gr G5
    go_wp2_with fail
    refine (C6.out _).mono ?_
    rintro e v7 ⟨rfl, gr⟩
    have G7 := Lib.hid (grown_trans G6.out gr); clear gr G6
    go_wp2
    go_ret
    exact ⟨rfl, G7.out⟩

theorem numLarge_any (n0 n1 n2 : Int) (w : World) (hT : Tab w) (_f0 : fits n0) (_f1 : fits n1) (_f2 : fits n2) :
    Calls Tryd.prog 8 #[.agg #[.int .i64 n0, .int .i64 n1, .int .i64 n2]] w fun e w' => e = .returned (.bool true) ∧ Grown w w' := by
  have wr : ∀ n : Int, IntKind.u64.wrap n = ((unat n : Nat) : Int) := fun n => by rw [IntKind.wrap_u64]; unfold unat; omega
  have hcp : 1 ≤ 1 + ((unat n2 : Nat) : Int) % 1125899906842624 := by omega
  have hb1 := Int.emod_nonneg ((unat n1 : Nat) : Int) (show 1 + ((unat n2 : Nat) : Int) % 1125899906842624 ≠ 0 by omega)
  have hb2 := Int.emod_lt_of_pos ((unat n1 : Nat) : Int) (show 0 < 1 + ((unat n2 : Nat) : Int) % 1125899906842624 by omega)
  have X := Lg.of (((unat n0 : Nat) : Int) % 1125899906842624) (((unat n1 : Nat) : Int) % (1 + ((unat n2 : Nat) : Int) % 1125899906842624)) (1 + ((unat n2 : Nat) : Int) % 1125899906842624) ((((unat n0 : Nat) : Int) % 1125899906842624) % 4096)
    (by omega) (by omega) hb1 hb2 (by omega) (by omega) (by omega)
  generalize ec : 1 + ((unat n2 : Nat) : Int) % 1125899906842624 = c at *
  generalize ea : ((unat n0 : Nat) : Int) % 1125899906842624 = a at *
  generalize eb : ((unat n1 : Nat) : Int) % c = b at *
  generalize el : a % 4096 = l at *
  obtain ⟨a1, a2, b1, b2, c1, c2, q1, q2, m1, m2, o1, g1, g2, l1, l2, h1, h2, i1, i2, s1, s2⟩ := id X
  exact numLarge_core n0 n1 n2 a b c _ _ _ _ l _ _ _ _ _ w hT X (wr n0) (wr n1) (wr n2) ec ea eb el
    (md_yes rfl (by omega) (by omega) (by omega) (by omega) c1 c2 (by omega) (by omega))
    (md_yes rfl (by omega) (by omega) (by omega) (by omega) c1 c2 (by omega) (by omega))
    (md_yes rfl (by omega) (by omega) (by omega) (by omega) c1 c2 (by omega) (by omega))
    (md_yes rfl (by omega) (by omega) (by omega) (by omega) c1 c2 (by omega) (by omega))
    (md_yes rfl (by omega) (by omega) (by omega) (by omega) c1 c2 (by omega) (by omega))
    (md_yes rfl (by omega) (by omega) (by omega) (by omega) c1 c2 (by omega) (by omega))

set_option maxRecDepth 100000 in
theorem numLarge_lifted (os : Os) (started : os.Started) (H : Type) (enc : TypeId × Value → H) :
    ReturnsInHanded {} Tryd.checked os 8 .any (fun w args => (Rows.numLargeSpec.pre enc Tryd.prog Tryd.f8 [] false w args ∧ laidMetH Tryd.prog laid1 w) ∧ sizedMet enc Tryd.prog Tryd.f8 (OpenSpec.ofChange Rows.numLargeSpec) false w args)
      (Rows.numLargeSpec.post enc Tryd.prog Tryd.f8 false true false false) := by
  refine returnsInHanded_of_change_and (C := Tryd.checked) (X := fun w _ => laidMetH Tryd.prog laid1 w) (fun _ _ _ hh h => h.of_heap hh) own started (by kernel_rfl) Tryd.func8
    (ChangeSpec.witness_shaped (enc := enc) (C := Tryd.checked) (os := os) (X := fun w _ => laidMetH Tryd.prog laid1 w) false (World.doorLaid Tryd.prog 400 os) #[.agg #[.int .i64 0, .int .i64 0, .int .i64 0]] 8 rfl (World.shaped_of_RefB (by kernel_rfl) (by kernel_rfl)) (by kernel_rfl) (by kernel_rfl) (by kernel_rfl) (door_met os _)) ?_
  intro W base args ds gs before hval0 hW _ _ hL _
  have hval : ∀ (j : Nat) t v, Tryd.f8.params[j]? = some t → args[j]? = some v → Value.okWide Tryd.prog W .any base t v := hval0
  have hW' := hW
  obtain ⟨p, q, hA0, hV, rfl, hfz, hnd⟩ := hW
  have hA : DataW.TrodAll enc Tryd.prog W 0 (fun _ => true) true Tryd.f8.params.toList args.toList ds p := hA0
  rw [Tryd.params8] at hA hval
  obtain ⟨v0, d0, rfl, rfl, h0⟩ := trodAll_one hA
  obtain ⟨rfl, rfl⟩ := trodVars_none hV
  obtain ⟨zs, hz, rfl, rfl, rfl, wz⟩ := open_arr Tryd.underlying31 Tryd.underlying3 (by kernel_rfl) (by kernel_rfl) (hval 0 31 v0 rfl rfl) h0
  obtain ⟨a, b, c, rfl⟩ := list3 hz
  have hT := of_laid hL
  clear hA0 hval0
  simp only [List.append_nil] at hW'
  refine (numLarge_any a b c W hT (fits_of (wz a (by simp))) (fits_of (wz b (by simp))) (fits_of (wz c (by simp)))).mono fun e W' ⟨he, hg⟩ => ?_
  subst he
  exact ⟨_, rfl, post_of_same (pa := []) (pv := []) hW' (fun _ _ _ => trodAll_mk1 (shut_bool Tryd.underlying4 _)) (fun sp _ => trodAll_mk1 (shut_arr Tryd.underlying31 Tryd.underlying3 (by kernel_rfl) (by kernel_rfl) hz wz)) (fun _ _ => rfl) rfl (hg.frame _) hg.2.1 (ok_one (by kernel_rfl) rfl (okWide_bool_mk Tryd.underlying4 _))⟩

theorem numLarge_row : Rows.NumLargeSaid :=
  OpenClaim.holds_of_wide 8 Tryd.f8 rfl rfl rfl rfl rfl rfl rfl ⟨rfl, rfl, rfl, rfl, rfl⟩ rfl rfl rfl rfl rfl (by kernel_rfl) Tryd.func8 (by kernel_rfl)
    (of_decide_eq_true (by kernel_rfl)) (by unfold Func.isWrapper; first | (rw [if_pos (by decide +kernel)]; kernel_rfl) | (rw [if_neg (by decide +kernel)]; exact ⟨rfl, rfl⟩))
    (fun os started H enc _ => numLarge_lifted os started H enc)

/-- The given statement. -/
theorem numLarge_holds : Rows.NumLargeCardSaid :=
  Claim7.holds_tied_plain_at .later [] [.data] true (true, "bf85c4916e9a7308bbe47f137d5538c5dc2f9a21ef3ee3eb2e642297461c402c") false
    numLarge_row (fun _ h => by cases h) (by kernel_rfl) (fun _ h => by cases h) numLarge_row_tie rfl ⟨rfl, rfl⟩ (by kernel_rfl) rfl
    (fun f fn hf hfn => by
      obtain rfl : f = 8 := Option.some.inj ((show Tryd.prog.funcNamed "isochron/isochronlaw01.NumLarge" = some 8 by kernel_rfl).symm.trans hf) |>.symm
      obtain rfl : fn = Tryd.f8 := (Option.some.inj (Tryd.func8.symm.trans hfn)).symm
      exact ⟨by kernel_rfl, fun j t ht => by
        rw [Tryd.params8] at ht
        have hm : t ∈ [31] := by simpa using Array.mem_of_getElem? ht
        have hall : ([31].all fun u => !Tryd.prog.wantsStandIn u) = true := by kernel_rfl
        exact (show Tryd.prog.wantsStandIn t = false by simpa using List.all_eq_true.1 hall t hm)⟩)
    (by kernel_rfl)
#print axioms numLarge_holds

end Go.Proofs.YtcfdinfnahkanaaDoor
