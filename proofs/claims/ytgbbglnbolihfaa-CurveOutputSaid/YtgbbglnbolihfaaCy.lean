/-
  What conforming of the law's package returns: the part of a draft's trace that conforms to two buckets.
-/
import Derived.Test.YtgbbglnbolihfaaBv
import Derived.Test.YtgbbglnbolihfaaBw
import Derived.Test.YtgbbglnbolihfaaBr
namespace Go.Proofs.Ytgbbglnbolihfaa
open Go.RowKit

theorem coV_pair {u R : Int} {xs : List (Int × Int)} (hb : bkB u R = true) (ht : rtB xs = true) : coV u R xs = (fitB xs u R, 0) := by
  have h := coB_ok hb ht
  unfold coB at h
  have e : (coV u R xs).2 = 0 := by unfold coV; rw [fiV_ok hb ht]
  rw [← h, ← e]
set_option maxRecDepth 100000 in
set_option maxHeartbeats 8000000 in
theorem lconforming_any (B R : Int) (gA : Option Addr) (gc : Nat) (sA : Option Addr) (sc : Nat) (gs ss : List Int) (vb S : Int) (w : World) (hB : 0 ≤ B ∧ B ≤ 4294967295) (hR : 0 ≤ R ∧ R ≤ 4294967295) (hg : Us w gA gs) (hs : Us w sA ss) (ug : U16 gs) (us : U16 ss) (sl : (ss.length : Int) ≤ 9223372036854775807) (hvS : bkB vb S = true) :
    Calls Try.prog 43 #[drV B R gA gs.length gc sA ss.length sc, .agg #[.int .i64 vb, .int .i64 S]] w (TrRes w (cnf vb S (cnf (dBu B) (dRa R) (dTr gs ss)))) := by
  have HCF := Lib.hid (fun (w' : World) (g : Bl w w') => dconf_any B R gA gc sA sc gs ss w' hB hR (hg.go g) (hs.go g) ug us sl)
  have hlen0 : (dTr gs ss).length ≤ 30 := by unfold dTr; rw [dT_len]; omega
  have hok0 : rtB (dTr gs ss) = true := dT_ok ug us (by omega)
  have hok := (cnfS_ok (u := dBu B) (R := dRa R) hok0 (dTr gs ss).length (Nat.le_refl _)).1
  have hlen : (cnf (dBu B) (dRa R) (dTr gs ss)).length ≤ 30 := Nat.le_trans (cnfS_len _ _ _ _) hlen0
  have HOK' := Lib.hid (show rtB (cnf (dBu B) (dRa R) (dTr gs ss)) = true from hok)
  have HBK := Lib.hid hvS
  clear hg hs ug us hB hR hok hok0 hlen0 hvS
  obtain ⟨xs, hxs⟩ : ∃ xs, cnf (dBu B) (dRa R) (dTr gs ss) = xs := ⟨_, rfl⟩
  rw [hxs] at hlen HOK' HCF ⊢
  clear hxs
  unfold drV at HCF ⊢
  go_enter Try.func43, Try.ntmps43
  go_wp2_with fail
  refine (HCF.out _ (((Bl.refl w).alloc _).alloc _)).mono ?_
  rintro e W ⟨A5, c5, rfl, hc5, hT5, gr, hf5⟩
  have SL0 := Lib.hid (show Sl (w.heap.size + 1) vb S W by have h := Sl.new (w.alloc (.cells #[.int .u32 B, .int .u32 R, .slice gA gs.length gc, .slice sA ss.length sc] 25)) vb S 30; rw [World.size_alloc] at h; exact h.go gr)
  have T50 := Lib.hid hT5
  have BW := Lib.hid (Bl.trans (((Bl.refl w).alloc _).alloc _) gr)
  clear hT5 gr hf5 hc5 HCF
  have HWS := Lib.hid BW.out.size
  generalize w.heap.size = a0 at *
  obtain ⟨i0, hi, hz0, hz1, hz2⟩ := info_parts info_arr
  have HI := Lib.hid hi
  have HZ0 := Lib.hid hz0
  have HZ1 := Lib.hid hz1
  have HZ2 := Lib.hid hz2
  clear hi hz0 hz1 hz2
  go_wp2_with fail
  go_loopw [5, 7] (fun v iv wr => ∃ k : Nat, k ≤ xs.length ∧ iv = .int .i64 k ∧ Hid (SlT W.heap.size v (cnfS vb S xs k) wr) ∧ Hid (Bl W wr)) (fun _ iv _ => xs.length - (intOf iv).toNat)
  case atStart => exact ⟨0, Nat.zero_le _, rfl, SlT.nil _ _, Bl.refl _⟩
  case round =>
    obtain ⟨k, hk, rfl, hv, hw⟩ := hrel
    by_cases hlt : k < xs.length
    · obtain ⟨A, c, rfl, hcc, hT, hfr⟩ := hv.out
      have HT := Lib.hid hT
      have HFR := Lib.hid hfr
      have HCC := Lib.hid hcc
      clear hv hT hfr hcc
      have hl := cnfS_len vb S xs k
      obtain ⟨b6, off6, ea, hb6, x0, x1⟩ := T50.out.go hw.out k hlt
      have nx := cnfS_nx (u := vb) (R := S) HOK'.out k hlt
      have stepT : fitB (cnfS vb S xs k ++ [(fs xs k, sn xs k)]) vb S = true → cnfS vb S xs (k + 1) = cnfS vb S xs k ++ [(fs xs k, sn xs k)] := fun h => if_pos h
      have stepF : fitB (cnfS vb S xs k ++ [(fs xs k, sn xs k)]) vb S = false → cnfS vb S xs (k + 1) = cnfS vb S xs k := fun h => if_neg (by simp [h])
      obtain ⟨x, hx⟩ : ∃ x, fs xs k = x := ⟨_, rfl⟩
      obtain ⟨y, hy⟩ : ∃ y, sn xs k = y := ⟨_, rfl⟩
      obtain ⟨os, hos⟩ : ∃ os, cnfS vb S xs k = os := ⟨_, rfl⟩
      rw [hx, hy, hos] at nx stepT stepF
      rw [hx] at x0
      rw [hy] at x1
      rw [hos] at HT HCC hl ⊢
      have STT := Lib.hid stepT
      have STF := Lib.hid stepF
      have NX := Lib.hid nx
      clear hx hy nx stepT stepF hos
      subst ea
      have j0 : (0 : Int) ≤ (k : Int) := by omega
      have j1 : (k : Int) < (xs.length : Int) := by omega
      obtain ⟨m, hm⟩ : ∃ m, os.length = m := ⟨_, rfl⟩
      rw [hm] at HCC hl ⊢
      have HM := Lib.hid hm.symm
      clear hm
      go_wp2_with fail
      go_upto_region 6 with fail
      go_cut [8] (fun s7 wx => Hid (SlT W.heap.size s7 (os ++ [(x, y)]) wx ∧ Bl wr wx))
      case first =>
        go_region_held3 (fun w' => w'.cell? ⟨b6, off6 + k * 2, none⟩ = some (.int .i64 x) ∧ w'.cell? ⟨b6, off6 + k * 2 + 1, none⟩ = some (.int .i64 y) ∧ Hid (Bl wr w')) (first | with_reducible exact keepD x0 x1 | with_reducible assumption | (rename _ ∧ _ ∧ Hid (Bl wr _) => hq; (first | exact keepAd _ hb6 hq | exact keepA _ hb6 hq | exact keepG hb6 hq hgrow hge.out))) (first | (have hge := Lib.hid (own_block_ge hown1); refine step_append_lies _ (by rfl) _ _ _ (by rfl) wr.heap.size 35 i0 _ 2 16 Try.underlying32 HI.out HZ0.out HZ1.out HZ2.out rfl (by omega) v1 (0 + m) ([] ++ flat os) (by rfl) (hown1.alloc _) ⟨w1.heap.size, 0, none⟩ 1 1 [.int .i64 x, .int .i64 y] (by rfl) (by rfl) (World.news_of_block (cs := #[.int .i64 x, .int .i64 y]) (t := 35) (fr := (0, 0)) (heap_alloc_new w1 _)) (by simp [Value.oneCell']) (by omega) (by unfold maxLen; omega) (by omega) (by simp <;> omega) (w1.heap.size + 1) (by simp) ?_; intro gg cap' w2 hown2 hgrow hat hlt2; clear hat hlt2) | (have hge := Lib.hid (own_block_ge hown1); refine step_append_lies _ (by rfl) _ _ _ (by rfl) wr.heap.size 35 i0 _ 2 16 Try.underlying32 HI.out HZ0.out HZ1.out HZ2.out rfl (by omega) v1 (0 + m) ([] ++ flat os) (by rfl) (hown1) ⟨wr.heap.size + 1, 0, none⟩ 1 1 [.int .i64 x, .int .i64 y] (by rfl) (by rfl) (World.news_of_block (cs := #[.int .i64 x, .int .i64 y]) (t := 35) (fr := (0, 0)) (hnb)) (by simp [Value.oneCell']) (by omega) (by unfold maxLen; omega) (by omega) hsz w1.heap.size (by rfl) ?_; intro gg cap' w2 hown2 hgrow hat hlt2; clear hat hlt2) | (have hge := Lib.hid (own_block_ge hown1); refine step_append_lies _ (by rfl) _ _ _ (by rfl) wr.heap.size 35 i0 _ 2 16 Try.underlying32 HI.out HZ0.out HZ1.out HZ2.out rfl (by omega) v1 (0 + m) ([] ++ flat os) (by rfl) (hown1) ⟨wr.heap.size, 0, none⟩ 1 1 [.int .i64 x, .int .i64 y] (by rfl) (by rfl) (World.news_of_block (cs := #[.int .i64 x, .int .i64 y]) (t := 35) (fr := (0, 0)) (hnb)) (by simp [Value.oneCell']) (by omega) (by unfold maxLen; omega) (by omega) hsz w1.heap.size (by rfl) ?_; intro gg cap' w2 hown2 hgrow hat hlt2; clear hat hlt2) | (refine step_app _ (by rfl) _ _ _ (by rfl) wr.heap.size 35 i0 _ 16 Try.underlying32 HI.out HZ0.out HZ1.out HZ2.out rfl _ 0 [] (by rfl) (lit1 wr _) A m c os (by rfl) HM.out (HT.out.go (((Bl.refl wr).alloc _).drew)) (by unfold maxLen; omega) (by omega) (by simp <;> omega) ?_; intro v1 w1 hown1 hgrow hat; clear hat; have hge := Lib.hid (own_block_ge (lit1 wr 35)); have hsz : wr.heap.size ≤ w1.heap.size := Nat.le_trans (by simp <;> omega) hgrow.size) | (refine step_app _ (by rfl) _ _ _ (by rfl) wr.heap.size 35 i0 _ 16 Try.underlying32 HI.out HZ0.out HZ1.out HZ2.out rfl _ 0 [] (by rfl) (lit2 wr _ (.cells #[.int .i64 x, .int .i64 y] 35)) A m c os (by rfl) HM.out (HT.out.go ((((Bl.refl wr).alloc _).alloc _).drew)) (by unfold maxLen; omega) (by omega) (by simp <;> omega) ?_; intro v1 w1 hown1 hgrow hat; clear hat; have hge := Lib.hid (own_block_ge (lit2 wr 35 (.cells #[.int .i64 x, .int .i64 y] 35))); have hsz : wr.heap.size ≤ w1.heap.size := Nat.le_trans (by simp <;> omega) hgrow.size; have hnb : w1.heap[wr.heap.size + 1]? = some (.cells #[.int .i64 x, .int .i64 y] 35 (0, 0)) := (hgrow.block (wr.heap.size + 1) (by simp) (by simp [Value.ownBlock])).trans (blk2 wr _ _ _)) | (refine step_app _ (by rfl) _ _ _ (by rfl) wr.heap.size 35 i0 _ 16 Try.underlying32 HI.out HZ0.out HZ1.out HZ2.out rfl _ 0 [] (by rfl) (lit3 wr _ (.cells #[.int .i64 x, .int .i64 y] 35)) A m c os (by rfl) HM.out (HT.out.go ((((Bl.refl wr).alloc _).alloc _).drew)) (by unfold maxLen; omega) (by omega) (by simp <;> omega) ?_; intro v1 w1 hown1 hgrow hat; clear hat; have hge := Lib.hid (own_block_ge (lit3 wr 35 (.cells #[.int .i64 x, .int .i64 y] 35))); have hsz : wr.heap.size ≤ w1.heap.size := Nat.le_trans (by simp <;> omega) hgrow.size; have hnb : w1.heap[wr.heap.size]? = some (.cells #[.int .i64 x, .int .i64 y] 35 (0, 0)) := (hgrow.block wr.heap.size (by simp <;> omega) (by simp [Value.ownBlock])).trans (blk1 wr _ _ _)) | fail)
        all_goals go_wp2_with fail
        all_goals go_meet
        all_goals exact ⟨SlT.app hown2 (hw.out.size), (And.right (And.right (by assumption : _ ∧ _ ∧ Hid (Bl wr w2)))).out⟩
      have hcc2 := hcut.out
      clear hcut
      obtain ⟨⟨A7, c7, rfl, h7, hT7, hf7⟩, hB7⟩ := hcc2
      have H7 := Lib.hid h7
      have T7 := Lib.hid hT7
      have F7 := Lib.hid hf7
      have B7 := Lib.hid hB7
      have SL7 := Lib.hid ((SL0.out.go hw.out).go hB7)
      clear h7 hT7 hf7 hB7
      obtain ⟨L, hL⟩ : ∃ L, (os ++ [(x, y)]).length = L := ⟨_, rfl⟩
      rw [hL] at H7 ⊢
      have k0 := SL7.out.c0
      have k1 := SL7.out.c1
      obtain ⟨cc2, hc2⟩ : ∃ c, fitB (os ++ [(x, y)]) vb S = c := ⟨_, rfl⟩
      have hco : coV vb S (os ++ [(x, y)]) = (cc2, 0) := by rw [coV_pair HBK.out NX.out, hc2]
      have hL9 : (L : Int) ≤ 9223372036854775807 := by rw [← hL]; have := (rtB_iff.1 NX.out).1; omega
      have KF := Lib.hid (fun w h => by have := conforms_v hco A7 c7 w (by rw [hL]; exact hL9) h; rw [hL] at this; exact this)
      clear hco hL9
      have HL := Lib.hid hL
      have HC2 := Lib.hid hc2
      clear hL hc2
      cases cc2 with
      | true =>
        go_wp2_with fail
        refine (KF.out _ T7.out).mono ?_; rintro e w9 ⟨rfl, gr⟩
        have G9 := Lib.hid gr; clear gr k0 k1
        go_wp2_with fail
        go_roundw
        case rel => exact ⟨k + 1, by omega, by go_num, by rw [STT.out HC2.out]; exact ⟨A7, c7, by rw [HL.out], by rw [HL.out]; exact H7.out, T7.out.go G9.out, F7.out⟩, (hw.out.trans B7.out).trans G9.out⟩
        case measure => simp [intOf]; omega
      | false =>
        go_wp2_with fail
        refine (KF.out _ T7.out).mono ?_; rintro e w9 ⟨rfl, gr⟩
        have G9 := Lib.hid gr; clear gr k0 k1
        go_wp2_with fail
        go_roundw
        case rel => exact ⟨k + 1, by omega, by go_num, by rw [STF.out HC2.out]; exact ⟨A, c, by rw [← HM.out], by rw [← HM.out]; exact HCC.out, (HT.out.go B7.out).go G9.out, HFR.out⟩, (hw.out.trans B7.out).trans G9.out⟩
        case measure => simp [intOf]; omega
    · obtain rfl : k = xs.length := by omega
      obtain ⟨A, c, rfl, hcc, hT, hfr⟩ := hv.out
      have HT := Lib.hid hT
      have HFR := Lib.hid hfr
      have HCC := Lib.hid hcc
      clear hv hT hfr hcc
      go_wp2_with fail
      go_ret
      exact ⟨A, c, rfl, HCC.out, HT.out, BW.out.trans hw.out, fun b off h => Nat.le_trans BW.out.size (HFR.out b off h)⟩

end Go.Proofs.Ytgbbglnbolihfaa
