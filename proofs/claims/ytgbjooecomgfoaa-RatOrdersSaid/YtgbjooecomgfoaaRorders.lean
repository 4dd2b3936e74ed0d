/-
  RatOrders returns true for every input: Cmp, Min, Max, Floor and Ceil answer as the reference does. No condition.
-/
import Derived.Test.YtgbjooecomgfoaaRt
import Derived.Test.YtgbjooecomgfoaaRpe
import Derived.ProofKit
import Derived.OpenShut
import Derived.DataBytes
namespace Go.Proofs.Ytgbjooecomgfoaa
open Go.ChangeShapes Go.WideShapes Go.ChangeAt Go.WideMaps Go.WideElems Go.RowKit

set_option maxRecDepth 100000 in
set_option maxHeartbeats 8000000 in
theorem ratOrders_any (a b c d : Int) (w : World) (fa : fits a) (fc : fits c) :
    Calls Try.prog 5 #[.agg #[.int .i64 a, .int .i64 b], .agg #[.int .i64 c, .int .i64 d]] w fun e w' => e = .returned (.bool true) ∧ Grown w w' := by
  have HP := Lib.hid (fun w => pairs_any a b c d w fa fc)
  clear fa fc
  have HE := Lib.hid (pairs_elem a b c d (ofN a b) (ofD a b) (ofN c d) (ofD c d) a b (ofN c d) (ofD c d) (ofN a b) (ofD a b) (ofN a b) (ofD a b))
  generalize ofN a b = x1 at *
  generalize ofD a b = x2 at *
  generalize ofN c d = y1 at *
  generalize ofD c d = y2 at *
  go_enter Try.func5, Try.ntmps5
  go_wp2_with fail
  refine (HP.out _).mono ?_; rintro e wp ⟨rfl, gr⟩
  clear HP
  have GP := Lib.hid (grown_trans (((Grown.refl w).alloc _ _).alloc _ _) gr); clear gr
  go_wp2_with fail
  go_loopw [30] (fun i wr => ∃ k : Nat, k ≤ 4 ∧ i = .int .i64 k ∧ Hid (Grown w wr)) (fun i _ => 4 - (intOf i).toNat)
  case atStart => exact ⟨0, by omega, rfl, GP⟩
  case round =>
    obtain ⟨k, hk, rfl, hgw⟩ := hrel
    clear GP
    by_cases hlt : k < 4
    · obtain ⟨p, q, r, s, hidx⟩ := HE.out k hlt
      clear HE
      obtain ⟨⟨N0, E0⟩, hm0⟩ : ∃ t, cmpR p q r s = t := ⟨_, rfl⟩
      have HA0 := Lib.hid (fun w => cmp_v p q r s N0 E0 w hm0)
      have HB0 := Lib.hid (fun w => rcmp_v p q r s N0 E0 w hm0)
      clear hm0
      obtain ⟨⟨N1, D1, E1⟩, hm1⟩ : ∃ t, fuV 1 p q r s = t := ⟨_, rfl⟩
      have HA1 := Lib.hid (fun w => min_v p q r s N1 D1 E1 w hm1)
      have HB1 := Lib.hid (fun w => rmin_v p q r s N1 D1 E1 w hm1)
      clear hm1
      obtain ⟨⟨N2, D2, E2⟩, hm2⟩ : ∃ t, fuV (-1) p q r s = t := ⟨_, rfl⟩
      have HA2 := Lib.hid (fun w => max_v p q r s N2 D2 E2 w hm2)
      have HB2 := Lib.hid (fun w => rmax_v p q r s N2 D2 E2 w hm2)
      clear hm2
      obtain ⟨⟨N3, E3⟩, hm3⟩ : ∃ t, flV p q = t := ⟨_, rfl⟩
      have HA3 := Lib.hid (fun w => floor_v p q N3 E3 w hm3)
      have HB3 := Lib.hid (fun w => rfloor_v p q N3 E3 w hm3)
      clear hm3
      obtain ⟨⟨N4, E4⟩, hm4⟩ : ∃ t, ceV p q = t := ⟨_, rfl⟩
      have HA4 := Lib.hid (fun w => ceil_v p q N4 E4 w hm4)
      have HB4 := Lib.hid (fun w => rceil_v p q N4 E4 w hm4)
      clear hm4
      have k0 : (wr.alloc (.cells #[.int .i64 p, .int .i64 q, .int .i64 r, .int .i64 s] 33)).cell? ⟨wr.heap.size, 0, none⟩ = some (.int .i64 p) := by simp [go_sem]
      have k1 : (wr.alloc (.cells #[.int .i64 p, .int .i64 q, .int .i64 r, .int .i64 s] 33)).cell? ⟨wr.heap.size, 1, none⟩ = some (.int .i64 q) := by simp [go_sem]
      have k2 : (wr.alloc (.cells #[.int .i64 p, .int .i64 q, .int .i64 r, .int .i64 s] 33)).cell? ⟨wr.heap.size, 2, none⟩ = some (.int .i64 r) := by simp [go_sem]
      have k3 : (wr.alloc (.cells #[.int .i64 p, .int .i64 q, .int .i64 r, .int .i64 s] 33)).cell? ⟨wr.heap.size, 3, none⟩ = some (.int .i64 s) := by simp [go_sem]
      have hsz : wr.heap.size < (wr.alloc (.cells #[.int .i64 p, .int .i64 q, .int .i64 r, .int .i64 s] 33)).heap.size := by simp
      have G0 := Lib.hid (hgw.out.alloc #[.int .i64 p, .int .i64 q, .int .i64 r, .int .i64 s] 33)
      go_wp2_with fail
      generalize (wr.alloc (.cells #[.int .i64 p, .int .i64 q, .int .i64 r, .int .i64 s] 33)) = W0 at *
      have Q0 : Hid (Quad wr.heap.size p q r s W0) := ⟨hsz, k0, k1, k2, k3⟩
      have C0 : Hid (Cs [] W0) := trivial
      clear k0 k1 k2 k3 hsz hgw
      generalize wr.heap.size = A at *
      refine (HA0.out _).mono ?_; rintro e w1 ⟨rfl, gr⟩
      have Q1 := Lib.hid (Quad.go Q0.out gr)
      have C1 := Lib.hid (Cs.go C0.out gr)
      have G1 := Lib.hid (grown_trans G0.out gr)
      clear gr C0 G0 Q0
      obtain ⟨zz, q0, q1, q2, q3⟩ := Q1.out
      go_wp2_with fail
      refine (HB0.out _).mono ?_; rintro e w2 ⟨rfl, gr⟩
      clear zz q0 q1 q2 q3
      have Q2 := Lib.hid (Quad.go Q1.out gr)
      have C2 := Lib.hid (Cs.go C1.out gr)
      have G2 := Lib.hid (grown_trans G1.out gr)
      clear gr C1 G1 Q1
      obtain ⟨zz, q0, q1, q2, q3⟩ := Q2.out
      go_wp2_with fail
      refine (HA1.out _).mono ?_; rintro e w3 ⟨rfl, gr⟩
      clear zz q0 q1 q2 q3
      have Q3 := Lib.hid (Quad.go Q2.out gr)
      have C3 := Lib.hid (Cs.go C2.out gr)
      have G3 := Lib.hid (grown_trans G2.out gr)
      clear gr C2 G2 Q2
      obtain ⟨zz, q0, q1, q2, q3⟩ := Q3.out
      go_wp2_with fail
      refine (HB1.out _).mono ?_; rintro e w4 ⟨rfl, gr⟩
      clear zz q0 q1 q2 q3
      have Q4 := Lib.hid (Quad.go Q3.out (grown_trans ((Grown.refl _).alloc _ _) gr))
      have C4 := Lib.hid (Cs.new C3.out gr)
      have G4 := Lib.hid (grown_trans (G3.out.alloc _ _) gr)
      clear gr C3 G3 Q3
      obtain ⟨zz, q0, q1, q2, q3⟩ := Q4.out
      go_wp2_with fail
      refine (HA2.out _).mono ?_; rintro e w5 ⟨rfl, gr⟩
      clear zz q0 q1 q2 q3
      have Q5 := Lib.hid (Quad.go Q4.out (grown_trans ((Grown.refl _).alloc _ _) gr))
      have C5 := Lib.hid (Cs.new C4.out gr)
      have G5 := Lib.hid (grown_trans (G4.out.alloc _ _) gr)
      clear gr C4 G4 Q4
      obtain ⟨zz, q0, q1, q2, q3⟩ := Q5.out
      go_wp2_with fail
      refine (HB2.out _).mono ?_; rintro e w6 ⟨rfl, gr⟩
      clear zz q0 q1 q2 q3
      have Q6 := Lib.hid (Quad.go Q5.out (grown_trans ((Grown.refl _).alloc _ _) gr))
      have C6 := Lib.hid (Cs.new C5.out gr)
      have G6 := Lib.hid (grown_trans (G5.out.alloc _ _) gr)
      clear gr C5 G5 Q5
      obtain ⟨zz, q0, q1, q2, q3⟩ := Q6.out
      have zA1 := C6.out.2.2.1.1
      have xA1 := C6.out.2.2.1.2.1
      have yA1 := C6.out.2.2.1.2.2
      have zB1 := C6.out.2.1.1
      have xB1 := C6.out.2.1.2.1
      have yB1 := C6.out.2.1.2.2
      have zA2 := C6.out.1.1
      have xA2 := C6.out.1.2.1
      have yA2 := C6.out.1.2.2
      go_wp2_with fail
      refine (HA3.out _).mono ?_; rintro e w7 ⟨rfl, gr⟩
      clear zz q0 q1 q2 q3 zA1 xA1 yA1 zB1 xB1 yB1 zA2 xA2 yA2
      have Q7 := Lib.hid (Quad.go Q6.out (grown_trans ((Grown.refl _).alloc _ _) gr))
      have C7 := Lib.hid (Cs.new C6.out gr)
      have G7 := Lib.hid (grown_trans (G6.out.alloc _ _) gr)
      clear gr C6 G6 Q6
      obtain ⟨zz, q0, q1, q2, q3⟩ := Q7.out
      go_wp2_with fail
      refine (HB3.out _).mono ?_; rintro e w8 ⟨rfl, gr⟩
      clear zz q0 q1 q2 q3
      have Q8 := Lib.hid (Quad.go Q7.out gr)
      have C8 := Lib.hid (Cs.go C7.out gr)
      have G8 := Lib.hid (grown_trans G7.out gr)
      clear gr C7 G7 Q7
      obtain ⟨zz, q0, q1, q2, q3⟩ := Q8.out
      go_wp2_with fail
      refine (HA4.out _).mono ?_; rintro e w9 ⟨rfl, gr⟩
      clear zz q0 q1 q2 q3
      have Q9 := Lib.hid (Quad.go Q8.out gr)
      have C9 := Lib.hid (Cs.go C8.out gr)
      have G9 := Lib.hid (grown_trans G8.out gr)
      clear gr C8 G8 Q8
      obtain ⟨zz, q0, q1, q2, q3⟩ := Q9.out
      go_wp2_with fail
      refine (HB4.out _).mono ?_; rintro e w10 ⟨rfl, gr⟩
      clear zz q0 q1 q2 q3
      have Q10 := Lib.hid (Quad.go Q9.out gr)
      have C10 := Lib.hid (Cs.go C9.out gr)
      have G10 := Lib.hid (grown_trans G9.out gr)
      clear gr C9 G9 Q9
      obtain ⟨zz, q0, q1, q2, q3⟩ := Q10.out
      go_wp2_with fail
      go_roundw
      case rel => exact ⟨k + 1, by omega, by go_num, G10⟩
      case measure => simp [intOf]; omega
    · clear HE
      go_wp2_with fail
      refine (works_any _).mono ?_; rintro e w1 ⟨rfl, gr⟩
      have G1 := Lib.hid (grown_trans hgw.out gr); clear gr
      go_wp2_with fail
      go_ret
      exact ⟨rfl, G1.out⟩

theorem own_ratOrders : ownKnob Try.prog.godebug = none := by kernel_rfl
set_option maxRecDepth 100000 in
theorem ratOrders_lifted (os : Os) (started : os.Started) (H : Type) (enc : TypeId × Value → H) :
    ReturnsInHanded {} Try.checked os 5 .any (Rows.ratOrdersSpec.pre6 enc Try.prog Try.f5 Rows.ratOrdersRow.domain false) (Rows.ratOrdersSpec.post enc Try.prog Try.f5 false true false false) := by
  refine returnsInHanded_of_change (C := Try.checked) own_ratOrders started (by kernel_rfl) Try.func5
    (ChangeSpec.witness6 (enc := enc) (C := Try.checked) false ⟨#[], #[.agg #[.int .i64 0, .int .i64 0], .agg #[.int .i64 0, .int .i64 0]], []⟩ 8 (by kernel_rfl) (by kernel_rfl) (by kernel_rfl) (by kernel_rfl)) ?_
  intro W base args ds gs before hval0 hW _ _
  have hval : ∀ (j : Nat) t v, Try.f5.params[j]? = some t → args[j]? = some v → Value.okWide Try.prog W .any base t v := hval0
  have hW' := hW
  obtain ⟨p, q, hA0, hV, rfl, hfz, hnd⟩ := hW
  have hA : DataW.TrodAll enc Try.prog W 0 (fun _ => true) true Try.f5.params.toList args.toList ds p := hA0
  rw [Try.params5] at hA hval
  obtain ⟨v0, v1, d0, d1, p0, p1, rfl, rfl, rfl, h0, h1⟩ := trodAll_two hA
  obtain ⟨rfl, rfl⟩ := trodVars_none hV
  obtain ⟨a, b, rfl, rfl, rfl, wa, wb⟩ := open_rat (hval 0 23 v0 rfl rfl) h0
  obtain ⟨c, d, rfl, rfl, rfl, wc, wd⟩ := open_rat (hval 1 23 v1 rfl rfl) h1
  clear hA0 hval0
  simp only [List.append_nil] at hW'
  refine (ratOrders_any a b c d W (bounds_i64 wa) (bounds_i64 wc)).mono fun e W' ⟨he, hg⟩ => ?_
  subst he
  exact ⟨_, rfl, post_of_same (pa := []) (pv := []) hW' (fun _ _ _ => trodAll_mk1 (shut_bool Try.underlying4 _)) (fun sp _ => trodAll_mk2 (shut_rat wa wb) (shut_rat wc wd)) (fun _ _ => rfl) rfl (hg.frame _) hg.2.1 (ok_one (by kernel_rfl) rfl (okWide_bool_mk Try.underlying4 _))⟩

/-- The given statement. -/
theorem ratOrders_holds : Rows.RatOrdersSaid :=
  OpenClaim.holds_of_wide 5 Try.f5 rfl rfl rfl rfl rfl rfl rfl ⟨rfl, rfl, rfl, rfl, rfl⟩ rfl rfl rfl rfl rfl (by kernel_rfl) Try.func5 (by kernel_rfl)
    (of_decide_eq_true (by kernel_rfl)) (by unfold Func.isWrapper; first | (rw [if_pos (by decide +kernel)]; kernel_rfl) | (rw [if_neg (by decide +kernel)]; exact ⟨rfl, rfl⟩))
    (fun os started H enc _ => ratOrders_lifted os started H enc)
#print axioms ratOrders_holds

end Go.Proofs.Ytgbjooecomgfoaa
