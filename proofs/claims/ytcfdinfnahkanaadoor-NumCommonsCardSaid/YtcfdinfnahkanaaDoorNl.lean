/-
  What Lcm of the reference of layer 1 returns for every slice of integers: the same as the program's.
-/
import Derived.Test.YtcfdinfnahkanaaDoorNj
namespace Go.Proofs.YtcfdinfnahkanaaDoor
open Go.RowKit

theorem okE_take (zs : List Int) (k : Nat) (h : k < zs.length) (h1 : (zs.take k).all okE = true) (h2 : okE (zs.getD k 0) = true) : (zs.take (k + 1)).all okE = true := by
  rw [List.take_succ_eq_append_getElem h, List.all_append, h1]
  simp only [List.getD_eq_getElem?_getD, List.getElem?_eq_getElem h, Option.getD_some] at h2
  simp [h2]

set_option maxHeartbeats 2000000 in
theorem rlcm_any (zs : List Int) (a : Option Addr) (cap : Nat) (w : World) (h : Row w a zs) :
    Calls Tryd.prog 30 #[.slice a zs.length cap] w fun e w' => e = ores (lcmO zs) ∧ Grown w w' := by
  have hl := h.len
  have HR := Lib.hid h; clear h
  go_enter Tryd.func30, Tryd.ntmps30
  go_wp2_with fail
  go_loop [5] (fun i => ∃ k : Nat, k ≤ zs.length ∧ i = .int .i64 k ∧ Hid ((zs.take k).all okE = true)) (fun i => zs.length - (intOf i).toNat)
  case atStart => exact ⟨0, Nat.zero_le _, rfl, by unfold Hid; rfl⟩
  case round =>
    obtain ⟨k, hk, rfl, ho⟩ := hrel
    by_cases hlt : k < zs.length
    · obtain ⟨b, off, ea, hb, hz⟩ := HR.out.at_ k hlt
      have hbad := Lib.hid (okE_bad zs k hlt)
      have htk := Lib.hid (okE_take zs k hlt ho.out)
      clear hb
      generalize hzz : zs.getD k 0 = n at *
      clear hzz
      subst ea
      rcases bcase (inB n) with hin | hin
      · by_cases hn : n < 1
        · have HX : Hid (lcmO zs = none) := hbad.out (by unfold okE; rw [decide_eq_false (by omega)]; simp)
          clear hbad htk
          go_wp2_with (go_at_call 35; refine (rIn_any _ _).mono ?_; rintro e w' ⟨rfl, rfl⟩)
          go_ret2
          rw [HX.out]
          exact ⟨rfl, Grown.refl _⟩
        · have HX : Hid ((zs.take (k + 1)).all okE = true) := htk.out (by unfold okE; rw [hin, decide_eq_true (by omega)]; rfl)
          clear hbad htk
          go_wp2_with (go_at_call 35; refine (rIn_any _ _).mono ?_; rintro e w' ⟨rfl, rfl⟩)
          go_round
          case rel => exact ⟨k + 1, by omega, by go_num, HX⟩
          case measure => simp [intOf]; omega
      · have HX : Hid (lcmO zs = none) := hbad.out (by unfold okE; rw [hin]; rfl)
        clear hbad htk
        go_wp2_with (go_at_call 35; refine (rIn_any _ _).mono ?_; rintro e w' ⟨rfl, rfl⟩)
        go_ret2
        rw [HX.out]
        exact ⟨rfl, Grown.refl _⟩
    · have hall : Hid (zs.all okE = true) := by
        have := ho.out
        rw [List.take_of_length_le (by omega)] at this
        exact this
      clear ho
      go_wp2_with fail
      go_loopw [4, 6] (fun m i wr => ∃ (k : Nat) (acc : Int), k ≤ zs.length ∧ i = .int .i64 k ∧ m = .int .i64 acc ∧ 1 ≤ acc ∧ acc ≤ 1125899906842624 ∧ Hid (Grown w wr) ∧ Hid (Sofar zs acc k)) (fun _ i _ => zs.length - (intOf i).toNat)
      case atStart => exact ⟨0, 1, Nat.zero_le _, rfl, rfl, by omega, by omega, Grown.refl _, Sofar.start zs⟩
      case round =>
        obtain ⟨k, acc, hk, rfl, rfl, a1, a2, hgw, hso⟩ := hrel
        by_cases hlt : k < zs.length
        · obtain ⟨b, off, ea, hb, hz⟩ := (HR.out.grown hgw.out).at_ k hlt
          have hnext := fun h => hso.out.next hlt h
          have hoe : okE (zs.getD k 0) = true := List.all_eq_true.1 hall.out _ (by simp only [List.getD_eq_getElem?_getD, List.getElem?_eq_getElem hlt, Option.getD_some]; exact List.getElem_mem hlt)
          generalize hzz : zs.getD k 0 = n at *
          have hoe' := hoe
          unfold okE at hoe'
          rw [Bool.and_eq_true, inB_iff, decide_eq_true_iff] at hoe'
          obtain ⟨⟨hn1, hn2⟩, hn'⟩ := hoe'
          obtain ⟨g1, q1, q2, _, v1⟩ := gcdV_pos acc n a1 a2 hn' hn2
          obtain ⟨s1, s2⟩ := hnext hoe
          have hMul : ∀ w, Calls Tryd.prog 17 #[.int .i64 acc, .int .i64 (n / gcdV acc n)] w fun e w' => e = .returned (.tuple #[.int .i64 (okv (inB (lcmV acc n)) (lcmV acc n)), .bool (inB (lcmV acc n))]) ∧ Grown w w' := fun w => by
            have := rmul_any acc (n / gcdV acc n) w
            rw [inB_iff.2 ⟨show -1125899906842624 ≤ acc by omega, a2⟩, inB_iff.2 ⟨show -1125899906842624 ≤ n / gcdV acc n by omega, q2⟩] at this
            exact this
          have hGcd := fun w => rgcd_any acc n w
          obtain ⟨v, hv⟩ : ∃ v, lcmV acc n = v := ⟨_, rfl⟩
          rw [hv] at v1 s1 s2 hMul
          clear hv hnext hoe hzz
          obtain ⟨m, hm⟩ : ∃ m, gcdV acc n = m := ⟨_, rfl⟩
          rw [hm] at hMul hGcd g1 q1 q2
          clear hm
          obtain ⟨q, hq⟩ : ∃ q, n / m = q := ⟨_, rfl⟩
          rw [hq] at hMul q1 q2
          have hm0 : ¬ m = 0 := by omega
          have hq0 : n.tdiv m = q := by rw [← hq, Int.tdiv_eq_ediv_of_nonneg (by omega)]
          have hqw : IntKind.i64.wrap q = q := IntWalk.i64_in _ (by omega)
          clear hq
          have HM := Lib.hid hMul; clear hMul
          have HG := Lib.hid hGcd; clear hGcd
          have HB := Lib.hid hb; clear hb
          have HS1 := Lib.hid s1; clear s1
          have HS2 := Lib.hid s2; clear s2
          have k0 : (0 : Int) ≤ (k : Int) := by omega
          have k1 : (k : Int) < (zs.length : Int) := by omega
          subst ea
          go_upto_region 10 with fail
          go_region_held3 (fun w' => w'.cell? ⟨b, off + k, none⟩ = some (.int .i64 n) ∧ Grown wr w') (first | exact keep_first hz | assumption | (refine keep_step ?_ HB hgr; assumption)) (first | (go_at_call 28; refine (HG.out _).mono ?_; rintro e w' ⟨rfl, hgr⟩) | (go_at_call 17; refine (HM.out _).mono ?_; rintro e w' ⟨rfl, hgr⟩))
          have hk2 : Grown wr _ := And.right (by assumption)
          have HK := Lib.hid (grown_trans hgw.out hk2)
          clear hk2
          rcases bcase (inB v) with hc | hc
          · obtain ⟨_, v2⟩ := inB_iff.1 hc
            have SO := Lib.hid (HS1.out hc)
            have ev : okv (inB v) v = v := okv_t hc
            clear HS1 HS2
            go_wp2
            go_roundw
            case rel => exact ⟨k + 1, v, by omega, by go_num, by rw [ev], v1, v2, HK, SO⟩
            case measure => simp [intOf]; omega
          · have SO := Lib.hid (HS2.out hc)
            clear HS1 HS2
            go_wp2
            go_ret2
            rw [SO.out]
            exact ⟨rfl, HK.out⟩
        · go_wp2
          go_ret2
          rw [hso.out.done (by omega)]
          exact ⟨rfl, hgw.out⟩

end Go.Proofs.YtcfdinfnahkanaaDoor
