/-
  RatMakes returns true for every input: Make and Check answer as the reference does. No condition.
-/
import Derived.Test.YtgbjooecomgfoaaRt
import Derived.ProofKit
import Derived.OpenShut
import Derived.DataBytes
import Derived.Deep.RegionHeld3
import Derived.Deep.DeepCutAuto
import Derived.Deep.CutBlock
namespace Go.Proofs.Ytgbjooecomgfoaa
open Go.ChangeShapes Go.WideShapes Go.ChangeAt Go.WideMaps Go.WideElems Go.RowKit

theorem makes_elem (z0 z1 z2 z3 z4 z5 z6 z7 z8 z9 z10 z11 : Int) (k : Nat) (hk : k < 6) : ∃ x y : Int, ∀ w, (Instr.index 26 (.agg #[.int .i64 z0, .int .i64 z1, .int .i64 z2, .int .i64 z3, .int .i64 z4, .int .i64 z5, .int .i64 z6, .int .i64 z7, .int .i64 z8, .int .i64 z9, .int .i64 z10, .int .i64 z11]) (.int .i64 k)).run Try.prog w = .ok (.agg #[.int .i64 x, .int .i64 y]) w := by
  match k, hk with
  | 0, _ => exact ⟨z0, z1, fun _ => by kernel_rfl⟩
  | 1, _ => exact ⟨z2, z3, fun _ => by kernel_rfl⟩
  | 2, _ => exact ⟨z4, z5, fun _ => by kernel_rfl⟩
  | 3, _ => exact ⟨z6, z7, fun _ => by kernel_rfl⟩
  | 4, _ => exact ⟨z8, z9, fun _ => by kernel_rfl⟩
  | 5, _ => exact ⟨z10, z11, fun _ => by kernel_rfl⟩

set_option maxRecDepth 100000 in
set_option maxHeartbeats 8000000 in
theorem ratMakes_any (n d a b : Int) (w : World) :
    Calls Try.prog 3 #[.int .i64 n, .int .i64 d, .agg #[.int .i64 a, .int .i64 b]] w fun e w' => e = .returned (.bool true) ∧ Grown w w' := by
  obtain ⟨U, hU⟩ : ∃ U, unat d = U := ⟨_, rfl⟩
  have hw : IntKind.u64.wrap d = (U : Int) := by rw [IntKind.wrap_u64, ← hU]; unfold unat; omega
  have bU : U < 18446744073709551616 := by rw [← hU]; unfold unat; omega
  clear hU
  go_enter Try.func3, Try.ntmps3
  go_wp2_with fail
  clear hw bU
  generalize wrap64 (2 ^ (U % 63)) = y1
  generalize wrap64 (-2 ^ (U % 63)) = y2
  generalize n.tmod 1000 = y3
  generalize d.tmod 100 = y4
  generalize n.tmod 9 = y5
  generalize n.tmod 2147483648 = y6
  have HE := Lib.hid (makes_elem n d y3 y4 n y1 y1 d y2 y5 y6 0)
  have ca : (w.alloc (.cells #[.int .i64 a, .int .i64 b] 23)).cell? ⟨w.heap.size, 0, none⟩ = some (.int .i64 a) := by simp [go_sem]
  have cb : (w.alloc (.cells #[.int .i64 a, .int .i64 b] 23)).cell? ⟨w.heap.size, 1, none⟩ = some (.int .i64 b) := by simp [go_sem]
  have hx : w.heap.size < (w.alloc (.cells #[.int .i64 a, .int .i64 b] 23)).heap.size := by simp
  have HCB : Hid (Cs [(w.heap.size, a, b)] (w.alloc (.cells #[.int .i64 a, .int .i64 b] 23))) := ⟨⟨hx, ca, cb⟩, trivial⟩
  clear ca cb hx
  go_loopw [42] (fun i wr => ∃ k : Nat, k ≤ 6 ∧ i = .int .i64 k ∧ Hid (Grown w wr) ∧ Hid (Cs [(w.heap.size, a, b)] wr)) (fun i _ => 6 - (intOf i).toNat)
  case atStart => exact ⟨0, by omega, rfl, (Grown.refl w).alloc _ _, HCB⟩
  case round =>
    obtain ⟨k, hk, rfl, hgw, hcb⟩ := hrel
    clear HCB
    by_cases hlt : k < 6
    · obtain ⟨x, y, hidx⟩ := HE.out k hlt
      clear HE
      obtain ⟨⟨N, D, E⟩, hm⟩ : ∃ t, Fr.mkV x y = t := ⟨_, rfl⟩
      obtain ⟨v, hv⟩ : ∃ v, ckV x y = v := ⟨_, rfl⟩
      have H1 := Lib.hid (fun w => make_v x y N D E w hm)
      have H2 := Lib.hid (fun w => rmake_v x y N D E w hm)
      have H3 := Lib.hid (fun w => check_v x y v w hv)
      have H4 := Lib.hid (fun w => rcheck_v x y v w hv)
      clear hm hv
      have k0 : (wr.alloc (.cells #[.int .i64 x, .int .i64 y] 25)).cell? ⟨wr.heap.size, 0, none⟩ = some (.int .i64 x) := by simp [go_sem]
      have k1 : (wr.alloc (.cells #[.int .i64 x, .int .i64 y] 25)).cell? ⟨wr.heap.size, 1, none⟩ = some (.int .i64 y) := by simp [go_sem]
      have hsz : wr.heap.size < (wr.alloc (.cells #[.int .i64 x, .int .i64 y] 25)).heap.size := by simp
      have hga := Lib.hid ((Grown.refl wr).alloc #[.int .i64 x, .int .i64 y] 25)
      have GW := Lib.hid (hgw.out.alloc #[.int .i64 x, .int .i64 y] 25)
      go_wp2_with fail
      generalize (wr.alloc (.cells #[.int .i64 x, .int .i64 y] 25)) = W0 at *
      have C0 : Hid (Cs [(wr.heap.size, x, y), (w.heap.size, a, b)] W0) := ⟨⟨hsz, k0, k1⟩, Cs.go hcb.out hga.out⟩
      clear k0 k1 hsz hcb hga hgw
      generalize wr.heap.size = A at *
      have G0 := GW; clear GW
      refine (H1.out _).mono ?_; rintro e w1 ⟨rfl, gr⟩
      have C1 := Lib.hid (Cs.go C0.out gr)
      have G1 := Lib.hid (grown_trans G0.out gr)
      clear gr C0 G0
      have ze := C1.out.1.1
      have xe := C1.out.1.2.1
      have ye := C1.out.1.2.2
      go_wp2_with fail
      refine (H2.out _).mono ?_; rintro e w2 ⟨rfl, gr⟩
      clear ze xe ye
      have C2 := Lib.hid (Cs.new C1.out gr)
      have G2 := Lib.hid (grown_trans (G1.out.alloc _ _) gr)
      clear gr C1 G1
      have ze := C2.out.2.1.1
      have xe := C2.out.2.1.2.1
      have ye := C2.out.2.1.2.2
      have zp := C2.out.1.1
      have xp := C2.out.1.2.1
      have yp := C2.out.1.2.2
      go_wp2_with fail
      clear ze xe ye zp xp yp
      have gq := Lib.hid ((Grown.refl w2).alloc #[.int .i64 N, .int .i64 D] 23)
      have C3 := Lib.hid (Cs.go C2.out gq.out)
      have G3 := Lib.hid (grown_trans G2.out gq.out)
      clear C2 G2 gq
      generalize (w2.alloc (.cells #[.int .i64 N, .int .i64 D] 23)) = W3 at *
      have k0 := C3.out.2.1.2.1
      have k1 := C3.out.2.1.2.2
      have HA := Lib.hid C3.out.2.1.1
      have C4 := Lib.hid C3.out.2.2; clear C3
      go_region_held3 (fun w' => w'.cell? ⟨A, 0, none⟩ = some (.int .i64 x) ∧ w'.cell? ⟨A, 1, none⟩ = some (.int .i64 y) ∧ Grown W3 w') (first | exact keep2_first k0 k1 | assumption | (refine keep2_step ?_ HA HA hgr; assumption)) (first | (go_at_call 12; refine (H3.out _).mono ?_; rintro e w' ⟨rfl, hgr⟩) | (go_at_call 13; refine (H4.out _).mono ?_; rintro e w' ⟨rfl, hgr⟩))
      all_goals go_wp2_with fail
      all_goals
        have gf : Grown W3 _ := And.right (And.right (by assumption))
        have HC5 := Lib.hid (Cs.go C4.out gf)
        have HG5 := Lib.hid (grown_trans G3.out gf)
        clear gf
        go_roundw
        case rel => exact ⟨k + 1, by omega, by go_num, HG5, HC5⟩
        case measure => simp [intOf]; omega
    · clear HE
      go_wp2_with fail
      obtain ⟨v, hv⟩ : ∃ v, ckV a b = v := ⟨_, rfl⟩
      have H3 := Lib.hid (fun w => check_v a b v w hv)
      have H4 := Lib.hid (fun w => rcheck_v a b v w hv)
      clear hv
      have k0 := hcb.out.1.2.1
      have k1 := hcb.out.1.2.2
      have HA := Lib.hid hcb.out.1.1
      have G0 := hgw
      clear hcb hgw
      generalize w.heap.size = A at *
      go_region_held3 (fun w' => w'.cell? ⟨A, 0, none⟩ = some (.int .i64 a) ∧ w'.cell? ⟨A, 1, none⟩ = some (.int .i64 b) ∧ Grown wr w') (first | exact keep2_first k0 k1 | assumption | (refine keep2_step ?_ HA HA hgr; assumption)) (first | (go_at_call 12; refine (H3.out _).mono ?_; rintro e w' ⟨rfl, hgr⟩) | (go_at_call 13; refine (H4.out _).mono ?_; rintro e w' ⟨rfl, hgr⟩) | (go_at_call 14; refine (works_any _).mono ?_; rintro e w' ⟨rfl, hgr⟩))
      all_goals go_wp2_with fail
      all_goals go_ret
      all_goals exact ⟨rfl, grown_trans G0.out (And.right (And.right (by assumption)))⟩

theorem own_ratMakes : ownKnob Try.prog.godebug = none := by kernel_rfl
set_option maxRecDepth 100000 in
theorem ratMakes_lifted (os : Os) (started : os.Started) (H : Type) (enc : TypeId × Value → H) :
    ReturnsInHanded {} Try.checked os 3 .any (Rows.ratMakesSpec.pre6 enc Try.prog Try.f3 Rows.ratMakesRow.domain false) (Rows.ratMakesSpec.post enc Try.prog Try.f3 false true false false) := by
  refine returnsInHanded_of_change (C := Try.checked) own_ratMakes started (by kernel_rfl) Try.func3
    (ChangeSpec.witness6 (enc := enc) (C := Try.checked) false ⟨#[], #[.int .i64 0, .int .i64 0, .agg #[.int .i64 0, .int .i64 0]], []⟩ 8 (by kernel_rfl) (by kernel_rfl) (by kernel_rfl) (by kernel_rfl)) ?_
  intro W base args ds gs before hval0 hW _ _
  have hval : ∀ (j : Nat) t v, Try.f3.params[j]? = some t → args[j]? = some v → Value.okWide Try.prog W .any base t v := hval0
  have hW' := hW
  obtain ⟨p, q, hA0, hV, rfl, hfz, hnd⟩ := hW
  have hA : DataW.TrodAll enc Try.prog W 0 (fun _ => true) true Try.f3.params.toList args.toList ds p := hA0
  rw [Try.params3] at hA hval
  obtain ⟨v0, v1, v2, d0, d1, d2, p0, p1, p2, rfl, rfl, rfl, h0, h1, h2⟩ := trodAll_three hA
  obtain ⟨rfl, rfl⟩ := trodVars_none hV
  obtain ⟨a0, rfl, rfl, rfl, w0⟩ := open_int Try.underlying3 (hval 0 3 v0 rfl rfl) h0
  obtain ⟨a1, rfl, rfl, rfl, w1⟩ := open_int Try.underlying3 (hval 1 3 v1 rfl rfl) h1
  obtain ⟨x, y, rfl, rfl, rfl, wx, wy⟩ := open_rat (hval 2 23 v2 rfl rfl) h2
  clear hA0 hval0
  simp only [List.append_nil] at hW'
  refine (ratMakes_any a0 a1 x y W).mono fun e W' ⟨he, hg⟩ => ?_
  subst he
  exact ⟨_, rfl, post_of_same (pa := []) (pv := []) hW' (fun _ _ _ => trodAll_mk1 (shut_bool Try.underlying4 _)) (fun sp _ => trodAll_mk3 (shut_int Try.underlying3 w0) (shut_int Try.underlying3 w1) (shut_rat wx wy)) (fun _ _ => rfl) rfl (hg.frame _) hg.2.1 (ok_one (by kernel_rfl) rfl (okWide_bool_mk Try.underlying4 _))⟩

/-- The given statement. -/
theorem ratMakes_holds : Rows.RatMakesSaid :=
  OpenClaim.holds_of_wide 3 Try.f3 rfl rfl rfl rfl rfl rfl rfl ⟨rfl, rfl, rfl, rfl, rfl⟩ rfl rfl rfl rfl rfl (by kernel_rfl) Try.func3 (by kernel_rfl)
    (of_decide_eq_true (by kernel_rfl)) (by unfold Func.isWrapper; first | (rw [if_pos (by decide +kernel)]; kernel_rfl) | (rw [if_neg (by decide +kernel)]; exact ⟨rfl, rfl⟩))
    (fun os started H enc _ => ratMakes_lifted os started H enc)
#print axioms ratMakes_holds

end Go.Proofs.Ytgbjooecomgfoaa
