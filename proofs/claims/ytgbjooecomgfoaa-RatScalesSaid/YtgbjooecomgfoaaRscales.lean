/-
  RatScales returns true for every input: a number has one fraction, whatever factor its parts share. No condition.
-/
import Derived.Test.YtgbjooecomgfoaaRr
import Derived.ProofKit
import Derived.OpenShut
import Derived.DataBytes
namespace Go.Proofs.Ytgbjooecomgfoaa
open Go.ChangeShapes Go.WideShapes Go.ChangeAt Go.WideMaps Go.WideElems Go.RowKit

/-- The numbers of RatScales. -/
theorem scales_facts (p q f : Int) (p1 : -1073741824 < p) (p2 : p < 1073741824) (q1 : 1 ≤ q) (q2 : q ≤ 1073741824) (f1 : 1 ≤ f) (f2 : f ≤ 4294967296) :
    ∃ N D : Int, Fr.mkV p q = (N, D, 0) ∧ Fr.mkV (p * f) (q * f) = (N, D, 0) ∧ Fr.mkV (-p * f) (-q * f) = (N, D, 0) ∧ Fr.mkV N D = (N, D, 0) ∧ ckV N D = 0 ∧ N * q = p * D ∧
      (-1073741824 ≤ N ∧ N ≤ 1073741824) ∧ (1 ≤ D ∧ D ≤ 1073741824) ∧ (-4611686018427387904 ≤ p * f ∧ p * f ≤ 4611686018427387904) ∧ (1 ≤ q * f ∧ q * f ≤ 4611686018427387904) := by
  have e : ((q.toNat : Nat) : Int) = q := by omega
  have hm := Fr.mk_small p q.toNat (by omega) (by omega) (by omega)
  have hl := Fr.lim_of p q.toNat (by omega) (by omega) (by omega)
  have hc := Fr.mkV_cross p q.toNat (by omega)
  rw [e] at hm hl hc
  have hpf : -4611686018427387904 ≤ p * f ∧ p * f ≤ 4611686018427387904 := by
    have h := Fr.natAbs_mul_le p f 1073741824 4294967296 (by omega) (by omega)
    omega
  have hqf : -4611686018427387904 ≤ q * f ∧ q * f ≤ 4611686018427387904 := by
    have h := Fr.natAbs_mul_le q f 1073741824 4294967296 (by omega) (by omega)
    omega
  have hq0 : 0 < q * f := Int.mul_pos (by omega) (by omega)
  have hs := Fr.mkV_scale p q f (by omega) (by omega) hpf.2 hpf.1 hqf.2 hqf.1 (by omega) (by omega) (by omega) (by omega)
  have hn : Fr.mkV (-p * f) (-q * f) = Fr.mkV (p * f) (q * f) := by rw [Int.neg_mul, Int.neg_mul, Fr.mkV_neg]
  have hr := Fr.right_of hl
  have hself := Fr.mkV_self _ hl
  obtain ⟨r1, r2, r3, r4, _⟩ := id hr
  exact ⟨_, _, hm, hs.trans hm, hn.trans (hs.trans hm), hself, ckV_yes hr, hc, ⟨r3, r4⟩, ⟨r1, r2⟩, hpf, by omega, hqf.2⟩

set_option maxRecDepth 100000 in
set_option maxHeartbeats 4000000 in
theorem ratScales_any (n d k : Int) (w : World) (_n1 : -9223372036854775808 ≤ n) (_n2 : n ≤ 9223372036854775807) (k1 : 0 ≤ k) (k2 : k < 4294967296) :
    Calls Try.prog 8 #[.int .i64 n, .int .i64 d, .int .u32 k] w fun e w' => e = .returned (.bool true) ∧ Grown w w' := by
  obtain ⟨U, hU⟩ : ∃ U, unat d = U := ⟨_, rfl⟩
  have hw : IntKind.u64.wrap d = (U : Int) := by rw [IntKind.wrap_u64, ← hU]; unfold unat; omega
  have bU : U < 18446744073709551616 := by rw [← hU]; unfold unat; omega
  clear hU
  have tp := tmod_bd n 1073741824 (by omega)
  obtain ⟨p, hp⟩ : ∃ p, n.tmod 1073741824 = p := ⟨_, rfl⟩
  rw [hp] at tp
  obtain ⟨q, hq⟩ : ∃ q, 1 + (U : Int) % 1073741824 = q := ⟨_, rfl⟩
  obtain ⟨f, hf⟩ : ∃ f, 1 + k = f := ⟨_, rfl⟩
  obtain ⟨N, D, va, vb, vc, vm, vk, hx, ⟨N1, N2⟩, ⟨D1, D2⟩, ⟨x1, x2⟩, y1, y2⟩ := scales_facts p q f tp.1 tp.2 (by omega) (by omega) (by omega) (by omega)
  have f1 : 1 ≤ f := by omega
  have f2 : f ≤ 4294967296 := by omega
  have q1 : 1 ≤ q := by omega
  have q2 : q ≤ 1073741824 := by omega
  obtain ⟨tp1, tp2⟩ := tp
  obtain ⟨s1, s2⟩ := prod_bd N q ⟨N1, N2⟩ ⟨by omega, q2⟩
  rw [Int.neg_mul, Int.neg_mul] at vc
  obtain ⟨x, ex⟩ : ∃ x, p * f = x := ⟨_, rfl⟩
  obtain ⟨y, ey⟩ : ∃ y, q * f = y := ⟨_, rfl⟩
  obtain ⟨s, es⟩ : ∃ s, N * q = s := ⟨_, rfl⟩
  rw [ex] at vb vc x1 x2
  rw [ey] at vb vc y1 y2
  rw [es] at hx s1 s2
  have ex' : -p * f = -x := by rw [Int.neg_mul, ex]
  have ey' : -q * f = -y := by rw [Int.neg_mul, ey]
  have es' := hx.symm; clear hx
  have HA := Lib.hid (fun w => make_v p q N D 0 w va); clear va
  have HB := Lib.hid (fun w => make_v x y N D 0 w vb); clear vb
  have HC := Lib.hid (fun w => make_v (-x) (-y) N D 0 w vc); clear vc
  have HM := Lib.hid (fun w => make_v N D N D 0 w vm); clear vm
  have HK := Lib.hid (fun w => check_v N D 0 w vk); clear vk
  go_enter Try.func8, Try.ntmps8
  go_wp2_with fail
  have C0 : Hid (Cs [] w) := trivial
  have G0 : Hid (Grown w w) := Grown.refl w
  refine (works_any _).mono ?_; rintro e w1 ⟨rfl, gr⟩
  have C1 := Lib.hid (Cs.go C0.out gr)
  have G1 := Lib.hid (grown_trans G0.out gr)
  clear gr C0 G0
  go_wp2_with fail
  refine (HA.out _).mono ?_; rintro e w2 ⟨rfl, gr⟩
  have C2 := Lib.hid (Cs.go C1.out gr)
  have G2 := Lib.hid (grown_trans G1.out gr)
  clear gr C1 G1
  go_wp2_with fail
  refine (HB.out _).mono ?_; rintro e w3 ⟨rfl, gr⟩
  have C3 := Lib.hid (Cs.new C2.out gr)
  have G3 := Lib.hid (grown_trans (G2.out.alloc _ _) gr)
  clear gr C2 G2
  go_wp2_with fail
  refine (HC.out _).mono ?_; rintro e w4 ⟨rfl, gr⟩
  have C4 := Lib.hid (Cs.new C3.out gr)
  have G4 := Lib.hid (grown_trans (G3.out.alloc _ _) gr)
  clear gr C3 G3
  have za := C4.out.2.1.1
  have xa := C4.out.2.1.2.1
  have ya := C4.out.2.1.2.2
  go_wp2_with fail
  refine (HM.out _).mono ?_; rintro e w5 ⟨rfl, gr⟩
  clear za xa ya
  have C5 := Lib.hid (Cs.new C4.out gr)
  have G5 := Lib.hid (grown_trans (G4.out.alloc _ _) gr)
  clear gr C4 G4
  have za := C5.out.2.2.1.1
  have xa := C5.out.2.2.1.2.1
  have ya := C5.out.2.2.1.2.2
  have zb := C5.out.2.1.1
  have xb := C5.out.2.1.2.1
  have yb := C5.out.2.1.2.2
  have zc := C5.out.1.1
  have xc := C5.out.1.2.1
  have yc := C5.out.1.2.2
  go_wp2_with fail
  refine (HK.out _).mono ?_; rintro e w6 ⟨rfl, gr⟩
  clear za xa ya zb xb yb zc xc yc
  have C6 := Lib.hid (Cs.new C5.out gr)
  have G6 := Lib.hid (grown_trans (G5.out.alloc _ _) gr)
  clear gr C5 G5
  have za := C6.out.2.2.2.1.1
  have xa := C6.out.2.2.2.1.2.1
  have ya := C6.out.2.2.2.1.2.2
  go_wp2_with fail
  go_ret
  exact ⟨rfl, G6.out⟩

theorem own_ratScales : ownKnob Try.prog.godebug = none := by kernel_rfl
set_option maxRecDepth 100000 in
theorem ratScales_lifted (os : Os) (started : os.Started) (H : Type) (enc : TypeId × Value → H) :
    ReturnsInHanded {} Try.checked os 8 .any (Rows.ratScalesSpec.pre6 enc Try.prog Try.f8 Rows.ratScalesRow.domain false) (Rows.ratScalesSpec.post enc Try.prog Try.f8 false true false false) := by
  refine returnsInHanded_of_change (C := Try.checked) own_ratScales started (by kernel_rfl) Try.func8
    (ChangeSpec.witness6 (enc := enc) (C := Try.checked) false ⟨#[], #[.int .i64 0, .int .i64 0, .int .u32 0], []⟩ 8 (by kernel_rfl) (by kernel_rfl) (by kernel_rfl) (by kernel_rfl)) ?_
  intro W base args ds gs before hval0 hW _ _
  have hval : ∀ (j : Nat) t v, Try.f8.params[j]? = some t → args[j]? = some v → Value.okWide Try.prog W .any base t v := hval0
  have hW' := hW
  obtain ⟨p, q, hA0, hV, rfl, hfz, hnd⟩ := hW
  have hA : DataW.TrodAll enc Try.prog W 0 (fun _ => true) true Try.f8.params.toList args.toList ds p := hA0
  rw [Try.params8] at hA hval
  obtain ⟨v0, v1, v2, d0, d1, d2, p0, p1, p2, rfl, rfl, rfl, h0, h1, h2⟩ := trodAll_three hA
  obtain ⟨rfl, rfl⟩ := trodVars_none hV
  obtain ⟨a0, rfl, rfl, rfl, w0⟩ := open_int Try.underlying3 (hval 0 3 v0 rfl rfl) h0
  obtain ⟨a1, rfl, rfl, rfl, w1⟩ := open_int Try.underlying3 (hval 1 3 v1 rfl rfl) h1
  obtain ⟨a2, rfl, rfl, rfl, w2⟩ := open_int Try.underlying46 (hval 2 46 v2 rfl rfl) h2
  clear hA0 hval0
  simp only [List.append_nil] at hW'
  refine (ratScales_any a0 a1 a2 W (bounds_i64 w0).1 (bounds_i64 w0).2 (bounds_u32 w2).1 (by have := (bounds_u32 w2).2; omega)).mono fun e W' ⟨he, hg⟩ => ?_
  subst he
  exact ⟨_, rfl, post_of_same (pa := []) (pv := []) hW' (fun _ _ _ => trodAll_mk1 (shut_bool Try.underlying4 _)) (fun sp _ => trodAll_mk3 (shut_int Try.underlying3 w0) (shut_int Try.underlying3 w1) (shut_int Try.underlying46 w2)) (fun _ _ => rfl) rfl (hg.frame _) hg.2.1 (ok_one (by kernel_rfl) rfl (okWide_bool_mk Try.underlying4 _))⟩

/-- The given statement. -/
theorem ratScales_holds : Rows.RatScalesSaid :=
  OpenClaim.holds_of_wide 8 Try.f8 rfl rfl rfl rfl rfl rfl rfl ⟨rfl, rfl, rfl, rfl, rfl⟩ rfl rfl rfl rfl rfl (by kernel_rfl) Try.func8 (by kernel_rfl)
    (of_decide_eq_true (by kernel_rfl)) (by unfold Func.isWrapper; first | (rw [if_pos (by decide +kernel)]; kernel_rfl) | (rw [if_neg (by decide +kernel)]; exact ⟨rfl, rfl⟩))
    (fun os started H enc _ => ratScales_lifted os started H enc)
#print axioms ratScales_holds

end Go.Proofs.Ytgbjooecomgfoaa
