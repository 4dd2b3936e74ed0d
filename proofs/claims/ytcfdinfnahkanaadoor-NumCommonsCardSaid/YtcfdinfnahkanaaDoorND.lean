/-
  NumCommons of a slice without elements and without room returns true.
-/
import Derived.Test.YtcfdinfnahkanaaDoorNC
namespace Go.Proofs.YtcfdinfnahkanaaDoor
open Go.RowKit

set_option maxRecDepth 100000 in
set_option maxHeartbeats 4000000 in
theorem numCommons_nil (oa : Option Addr) (a b u v : Int) (w : World) (hT : Tab w) (ha : fits a) (hb : fits b) (u0 : 0 ≤ u) (u1 : u ≤ 255) (v0 : 0 ≤ v) (v1 : v ≤ 255) :
    Calls Tryd.prog 6 #[.agg #[.int .i64 a, .int .i64 b], .agg #[.int .u8 u, .int .u8 v], .slice oa 0 0] w fun e w' => e = .returned (.bool true) ∧ Gr w w' := by
  have HT := Lib.hid hT; clear hT
  have hmk : ∀ w : World, (Instr.makeSlice 36 (.int .i64 0) (.int .i64 0)).run Tryd.prog w = .ok (.slice (some ⟨w.heap.size, 0, none⟩) 0 0) (w.alloc (.cells (madeCells #[.int .i64 0] 0) 3)) := fun w =>
    run_make_row' (P := Tryd.prog) 36 3 (.int .i64 0) 8 Tryd.underlying36 infoInt rfl .i64 .i64 0 (by omega) (by omega) w
  go_enter Tryd.func6, Tryd.ntmps6
  go_wp2_with fail
  go_loopw [8] (fun i wr => i = .int .i64 0 ∧ Hid (Grown w wr) ∧ Hid (w.heap.size + 1 + 1 < wr.heap.size)
    ∧ Hid (wr.cell? ⟨w.heap.size, 0, none⟩ = some (.int .i64 a) ∧ wr.cell? ⟨w.heap.size, 1, none⟩ = some (.int .i64 b) ∧ wr.cell? ⟨w.heap.size + 1, 0, none⟩ = some (.int .u8 u) ∧ wr.cell? ⟨w.heap.size + 1, 1, none⟩ = some (.int .u8 v))) (fun _ _ => 0)
  case atStart => exact ⟨rfl, ((((Grown.refl w).alloc _ _).alloc _ _).alloc _ _), (by simp : w.heap.size + 1 + 1 < _), by simp [go_sem], by simp [go_sem], by simp [go_sem], by simp [go_sem]⟩
  case round =>
    obtain ⟨rfl, hgw, hsz, hab⟩ := hrel
    · have hrow2 : Hid (Row wr (some ⟨w.heap.size + 1 + 1, 0, none⟩) (smalls [] 0)) := ⟨by simp [smalls], fun j hj => by simp [smalls] at hj⟩
      have hrow1 : Hid (Row wr oa ([] : List Int)) := ⟨by simp, fun k hk => absurd hk (by simp)⟩
      obtain ⟨x1, x2, x3, x4⟩ := hab.out
      obtain ⟨N0, hN0⟩ : ∃ N, unat a = N := ⟨_, rfl⟩
      obtain ⟨N1, hN1⟩ : ∃ N, unat b = N := ⟨_, rfl⟩
      have hw0 : IntKind.u64.wrap a = (N0 : Int) := by rw [IntKind.wrap_u64, ← hN0]; unfold unat; omega
      have hw1 : IntKind.u64.wrap b = (N1 : Int) := by rw [IntKind.wrap_u64, ← hN1]; unfold unat; omega
      have hneg : IntKind.i64.wrap (-((N1 : Int) % 3000)) = -((N1 : Int) % 3000) := IntWalk.i64_in _ (by omega)
      clear hmk hN0 hN1 hab
      have HE := Lib.hid (numCommons_elem N0 N1 a b u v ha hb)
      go_wp2_with fail
      go_quiet ((go_at_call 11; exact Calls.quiet_of_same (near_any _ _ _ (by assumption) (by assumption) (by assumption))))
      go_wp2_with fail
      have x1 := Lib.hid x1
      have x2 := Lib.hid x2
      have x3 := Lib.hid x3
      have x4 := Lib.hid x4
      obtain ⟨wo, rfl⟩ : ∃ wo : World, wo = wr := ⟨_, rfl⟩
      go_loopw [67] (fun i wx => ∃ n : Nat, n ≤ 3 ∧ i = .int .i64 n ∧ Hid (Grown wo wx)) (fun i _ => 3 - (intOf i).toNat)
      case atStart => exact ⟨0, by omega, rfl, grown_drewN _ _⟩
      case round =>
        obtain ⟨n, hn, rfl, hgx⟩ := hrel
        by_cases hlt2 : n < 3
        · obtain ⟨x, y, fx, fy, hidx⟩ := HE.out n hlt2
          have GG := fun w hT => gcd_any x y w hT
          have GR := fun w => rgcd_any x y w
          obtain ⟨g, hg⟩ : ∃ g, gcdV x y = g := ⟨_, rfl⟩
          rw [hg] at GG GR
          have HG := Lib.hid GG
          have HH := Lib.hid GR
          clear GG GR hg fx fy HE
          have G2 := Lib.hid (grown_trans (grown_trans hgw.out hgx.out) ((Grown.refl wr).alloc #[.int .i64 x, .int .i64 y] 22))
          have GT := Lib.hid (HT.out.grown G2.out)
          have s0 : Hid (wr.heap.size < (wr.alloc (.cells #[.int .i64 x, .int .i64 y] 22)).heap.size) := by unfold Hid; simp
          have c0 : (wr.alloc (.cells #[.int .i64 x, .int .i64 y] 22)).cell? ⟨wr.heap.size, 0, none⟩ = some (.int .i64 x) := by simp [go_sem]
          have c1 : (wr.alloc (.cells #[.int .i64 x, .int .i64 y] 22)).cell? ⟨wr.heap.size, 1, none⟩ = some (.int .i64 y) := by simp [go_sem]
          go_upto_region 10 with fail
          go_region_held3 (fun w' => w'.cell? ⟨wr.heap.size, 0, none⟩ = some (.int .i64 x) ∧ w'.cell? ⟨wr.heap.size, 1, none⟩ = some (.int .i64 y) ∧ Grown (wr.alloc (.cells #[.int .i64 x, .int .i64 y] 22)) w') (first | exact keep2_first c0 c1 | assumption | (refine keep2_step ?_ s0 s0 gr; assumption)) (first | (go_at_call 27; have hk2 : Grown (wr.alloc (.cells #[.int .i64 x, .int .i64 y] 22)) _ := And.right (And.right (by assumption)); refine (HG.out _ (GT.out.grown hk2)).mono ?_; rintro e w' ⟨rfl, gr⟩) | (go_at_call 28; refine (HH.out _).mono ?_; rintro e w' ⟨rfl, gr⟩))
          have hk3 : Grown (wr.alloc (.cells #[.int .i64 x, .int .i64 y] 22)) _ := And.right (And.right (by assumption))
          have G4 := Lib.hid (grown_trans (grown_trans hgx.out ((Grown.refl wr).alloc #[.int .i64 x, .int .i64 y] 22)) hk3)
          clear hk3
          go_wp2
          go_roundw
          case rel => exact ⟨n + 1, by omega, by go_num, G4⟩
          case measure => simp [intOf]; omega
        · have r2 := Lib.hid (hrow2.out.grown hgx.out)
          have r1 := Lib.hid (hrow1.out.grown hgx.out)
          have GW := Lib.hid (grown_trans hgw.out hgx.out)
          have lt0 : w.heap.size < wo.heap.size := by have := hsz.out; omega
          have ya := (grown_cell hgx.out (p := ⟨w.heap.size, 0, none⟩) lt0).trans x1.out
          have hgx' : wo.heap.size ≤ wr.heap.size := hgx.out.2.2
          have hE2 := HE
          clear hrow1 hrow2 x1 x2 x3 x4 hgx HE
          have hB1 : w.heap.size + 1 + 1 < wr.heap.size := by
            have h1 := hsz.out
            have h2 := hgx'
            omega
          have HC : Hid (∀ j, j < (smalls [] 0).length → wr.cell? ⟨w.heap.size + 1 + 1, j, none⟩ = some (.int .i64 ((smalls [] 0).getD j 0))) := fun j hj => by simp [smalls] at hj
          have HA1 : Hid ((⟨w.heap.size, 0, none⟩ : Addr).block < wr.heap.size) := by show w.heap.size < wr.heap.size; omega
          have HB1 : Hid (w.heap.size + 1 + 1 < wr.heap.size) := hB1
          have hlen : (smalls [] 0).length = 0 := rfl
          clear hgx' hE2
          obtain ⟨i0, hi0, hz0, hz1, hz2⟩ := info_parts infoInt
          go_upto_region 13 with fail
          go_region_held3 (fun w' => w'.cell? ⟨w.heap.size, 0, none⟩ = some (.int .i64 a) ∧ St wr (w.heap.size + 1 + 1) (smalls [] 0) w')
            (first | exact st_first ya HC.out | assumption | (refine st_alloc ?_ HA1 HB1 _ _; assumption) | (refine st_grow ?_ HA1 HB1 hgr2 hrw2; assumption) | (refine st_grow ?_ HA1 HB1 hgr hrw; assumption))
            (first
              | (refine step_app ?_ (.tmp 84) (.tmp 85) 36 ?_ wr.heap.size 3 i0 (.int .i64 0) 8 Tryd.underlying36 hi0 hz0 hz1 hz2 rfl (.slice (some ⟨wr.heap.size, 0, none⟩) 0 0) 0 [] ?_ ?_ ⟨w.heap.size + 1 + 1, 0, none⟩ 0 0 ((smalls [] 0).map (Value.int .i64)) ?_ ?_ ?_ ?_ ?_ ?_ ?_ ?_;
                 (focus (rfl));
                 (focus (rfl));
                 (focus (rfl));
                 (focus ((first | exact own_empty wr _ _ (Nat.le_refl _) | exact (own_empty wr _ _ (Nat.le_refl _)).alloc _)));
                 (focus (rfl));
                 (focus ((simp [hlen])));
                 (focus ((have hh : _ ∧ St wr (w.heap.size + 1 + 1) (smalls [] 0) _ := (by assumption); exact st_news hh.2)));
                 (focus (exact ints_oneCell _ _));
                 (focus ((unfold maxLen; omega)));
                 (focus (omega));
                 (focus ((simp; try omega)));
                 intro sv1 w1 hown1 hgr hrw;
                 rw [List.nil_append] at hown1)
              | (refine step_app ?_ (.tmp 84) (.tmp 85) 36 ?_ wr.heap.size 3 i0 (.int .i64 0) 8 Tryd.underlying36 hi0 hz0 hz1 hz2 rfl (.slice (some ⟨wr.heap.size + 1, 0, none⟩) 0 0) 0 [] ?_ ?_ ⟨w.heap.size + 1 + 1, 0, none⟩ 0 0 ((smalls [] 0).map (Value.int .i64)) ?_ ?_ ?_ ?_ ?_ ?_ ?_ ?_;
                 (focus (rfl));
                 (focus (rfl));
                 (focus (rfl));
                 (focus (exact own_empty2 wr _ _));
                 (focus (rfl));
                 (focus ((simp [hlen])));
                 (focus ((have hh : _ ∧ St wr (w.heap.size + 1 + 1) (smalls [] 0) _ := (by assumption); exact st_news hh.2)));
                 (focus (exact ints_oneCell _ _));
                 (focus ((unfold maxLen; omega)));
                 (focus (omega));
                 (focus ((simp; try omega)));
                 intro sv1 w1 hown1 hgr hrw;
                 rw [List.nil_append] at hown1)
              | (refine step_app2 ?_ (.tmp 86) (.tmp 89) 36 ?_ wr.heap.size 3 i0 (.int .i64 0) 8 Tryd.underlying36 hi0 hz0 hz1 hz2 rfl sv1 0 ((smalls [] 0).map (Value.int .i64)) ?_ ?_ ⟨wr.heap.size, 0, none⟩ 1 1 [.int .i64 a] ?_ ?_ ?_ ?_ ?_ ?_ ?_ ?_ 1 rfl ?_;
                 (focus (rfl));
                 (focus (rfl));
                 (focus (rfl));
                 (focus ((first | exact hown1 | exact hown1.alloc _)));
                 (focus (rfl));
                 (focus (rfl));
                 (focus ((refine one_news ?_; refine (hgr.cell_far _ ?_ ?_).trans ?_; (focus (first | (simp; done) | (simp; omega))); (focus (simp [Value.ownBlock])); (simp [go_sem]))));
                 (focus ((simp [Value.oneCell'])));
                 (focus (omega));
                 (focus ((unfold maxLen; omega)));
                 (focus (omega));
                 (focus ((have := hgr.size; simp at this; first | omega | (simp; omega))));
                 intro g2 cap2 w2 hown2 hgr2 hrw2)
              | (refine step_app2 ?_ (.tmp 86) (.tmp 89) 36 ?_ wr.heap.size 3 i0 (.int .i64 0) 8 Tryd.underlying36 hi0 hz0 hz1 hz2 rfl sv1 0 ((smalls [] 0).map (Value.int .i64)) ?_ ?_ ⟨wr.heap.size + 1, 0, none⟩ 1 1 [.int .i64 a] ?_ ?_ ?_ ?_ ?_ ?_ ?_ ?_ 1 rfl ?_;
                 (focus (rfl));
                 (focus (rfl));
                 (focus (rfl));
                 (focus ((first | exact hown1 | exact hown1.alloc _)));
                 (focus (rfl));
                 (focus (rfl));
                 (focus ((refine one_news ?_; refine (hgr.cell_far _ ?_ ?_).trans ?_; (focus (first | (simp; done) | (simp; omega))); (focus (simp [Value.ownBlock])); (simp [go_sem]))));
                 (focus ((simp [Value.oneCell'])));
                 (focus (omega));
                 (focus ((unfold maxLen; omega)));
                 (focus (omega));
                 (focus ((have := hgr.size; simp at this; first | omega | (simp; omega))));
                 intro g2 cap2 w2 hown2 hgr2 hrw2)
              | (refine step_app2 ?_ (.tmp 86) (.tmp 89) 36 ?_ wr.heap.size 3 i0 (.int .i64 0) 8 Tryd.underlying36 hi0 hz0 hz1 hz2 rfl sv1 0 ((smalls [] 0).map (Value.int .i64)) ?_ ?_ ⟨w1.heap.size, 0, none⟩ 1 1 [.int .i64 a] ?_ ?_ ?_ ?_ ?_ ?_ ?_ ?_ 1 rfl ?_;
                 (focus (rfl));
                 (focus (rfl));
                 (focus (rfl));
                 (focus ((first | exact hown1 | exact hown1.alloc _)));
                 (focus (rfl));
                 (focus (rfl));
                 (focus ((refine one_news ?_; simp [go_sem])));
                 (focus ((simp [Value.oneCell'])));
                 (focus (omega));
                 (focus ((unfold maxLen; omega)));
                 (focus (omega));
                 (focus ((have := hgr.size; simp at this; first | omega | (simp; omega))));
                 intro g2 cap2 w2 hown2 hgr2 hrw2))
          all_goals
            have hk9 : _ ∧ St wr (w.heap.size + 1 + 1) (smalls [] 0) _ := (by assumption)
            have G3 := Lib.hid hk9.2.2
            have row3 := Lib.hid (row_push hown2 hlen (by omega))
            have row1 := Lib.hid (r1.out.gr hk9.2.2)
            have row2 := Lib.hid (r2.out.gr hk9.2.2)
            have hEl := Lib.hid (nc_elem w2 _ _ _ 0 0 1 0 0 cap2 _ _ _ rfl hlen (by rw [List.length_append, hlen]; simp) row1.out row2.out row3.out)
            have GA := Lib.hid (gr_trans (gr_of_grown GW.out) G3.out)
            clear hk9 hgr hrw hgr2 hrw2 hown1 hown2 row1 row2 row3 r1 r2 G3 GW HC HA1 HB1 hB1 ya hlen hw0 hw1 hneg
            obtain ⟨w3, rfl⟩ : ∃ w3 : World, w3 = w2 := ⟨_, rfl⟩
            go_wp2_with fail
            go_loopw [92] (fun i wx => ∃ j : Nat, j ≤ 3 ∧ i = .int .i64 j ∧ Hid (Gr w3 wx)) (fun i _ => 3 - (intOf i).toNat)
            case atStart => exact ⟨0, by omega, rfl, gr_refl _⟩
            case round =>
              obtain ⟨j, hj, rfl, hgj⟩ := hrel
              by_cases hlt3 : j < 3
              · obtain ⟨ad, cp, l, hrow, hidx⟩ := hEl.out j hlt3
                have GB := Lib.hid (gr_trans GA.out hgj.out)
                have hrl := Lib.hid (hrow.gr hgj.out)
                obtain ⟨vv, cc, hvc⟩ := ores_form (lcmO l)
                have L1 : Hid (∀ w : World, Tab w → Row w ad l → Calls Tryd.prog 29 #[.slice ad l.length cp] w fun e w' => e = .returned (.tuple #[.int .i64 vv, .bool cc]) ∧ Grown w w') := fun w hT hR => by
                  have := lcm_any l ad cp w hT hR
                  rw [hvc] at this; exact this
                have L2 : Hid (∀ w : World, Row w ad l → Calls Tryd.prog 30 #[.slice ad l.length cp] w fun e w' => e = .returned (.tuple #[.int .i64 vv, .bool cc]) ∧ Grown w w') := fun w hR => by
                  have := rlcm_any l ad cp w hR
                  rw [hvc] at this; exact this
                clear hvc hrow hEl
                go_wp2_with fail
                refine (L1.out _ (HT.out.gr GB.out) hrl.out).mono ?_
                rintro e w4 ⟨rfl, g⟩
                have hr4 := Lib.hid (hrl.out.gr (gr_of_grown g))
                have G4 := Lib.hid (gr_trans hgj.out (gr_of_grown g))
                clear g
                go_wp2_with fail
                refine (L2.out _ hr4.out).mono ?_
                rintro e w5 ⟨rfl, g⟩
                have G5 := Lib.hid (gr_trans G4.out (gr_of_grown g))
                clear g
                go_wp2
                go_roundw
                case rel => exact ⟨j + 1, by omega, by go_num, G5⟩
                case measure => simp [intOf]; omega
              · go_wp2_with fail
                refine (works_any _ (HT.out.gr (gr_trans GA.out hgj.out))).mono ?_
                rintro e w4 ⟨rfl, g⟩
                have G5 := Lib.hid (gr_trans (gr_trans GA.out hgj.out) (gr_of_grown g))
                clear g
                go_wp2
                go_ret
                exact ⟨rfl, G5.out⟩


end Go.Proofs.YtcfdinfnahkanaaDoor
