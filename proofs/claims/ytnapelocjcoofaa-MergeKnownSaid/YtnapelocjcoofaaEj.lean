/-
  What the iterator of package merge yields.
-/
import Derived.Test.YtnapelocjcoofaaEi
import Derived.Stop.RegionWithIn
namespace Go.Proofs.Ytnapelocjcoofaa
open Go.RowKit Go.Shelf Go.Proofs.Ytnapelocjcoofaa.Cr

attribute [local go_sem] Oper.semAt_some

theorem below_bl {n₀ : Nat} {W A B : World} (h : Below n₀ W A) (hn : n₀ ≤ W.heap.size) (g : Bl A B) : Below n₀ W B := h.trans (g.mono (Nat.le_trans hn h.size))
theorem to_b {e : Ending} {A B : Prop} (h : (e = .returned (.bool true) ∧ A) ∨ (e = .returned (.bool false) ∧ B)) : ∃ b, e = .returned (.bool b) ∧ ((b = true ∧ A) ∨ (b = false ∧ B)) := by
  rcases h with ⟨h1, h2⟩ | ⟨h1, h2⟩
  · exact ⟨true, h1, .inl ⟨rfl, h2⟩⟩
  · exact ⟨false, h1, .inr ⟨rfl, h2⟩⟩
set_option maxRecDepth 100000 in
set_option maxHeartbeats 4000000 in
theorem pieces1_in (n : Nat) (hn : 1 ≤ n) (l Bc Bn Bs n₀ : Nat) (A : Option Addr) (cap : Nat) (cs : List Int) (num : Int) (s : ByteArray) (h64 : 64 ≤ s.size) (hm : s.size ≤ 1522) (hc : okC s.size cs = true) (J Jx : List Pc → World → Prop)
    (hY : ∀ pre x W, J pre W → pre.length < cs.length + 1 → YieldAt Fence.wide (n - 1) Try.prog l #[x.v] W fun e W' =>
      (e = .returned (.bool true) ∧ J (pre ++ [x]) W' ∧ Below n₀ W W') ∨ (e = .returned (.bool false) ∧ Jx (pre ++ [x]) W'))
    (W : World) (hJal : ∀ pre (W1 W2 : World), J pre W1 → Bl W1 W2 → J pre W2) (hn0 : n₀ ≤ W.heap.size)
    (hBc : W.cell? ⟨Bc, 0, none⟩ = some (.slice A cs.length cap)) (hBn : W.cell? ⟨Bn, 0, none⟩ = some (.int .i64 num)) (hBs : W.cell? ⟨Bs, 0, none⟩ = some (.string s)) (hb : Bc < n₀ ∧ Bn < n₀ ∧ Bs < n₀)
    (hI : ∀ k, k < cs.length → ∃ b off, A = some ⟨b, off, none⟩ ∧ b < n₀ ∧ W.cell? ⟨b, off + k, none⟩ = some (.int .i64 (cu cs k))) (h0 : J [] W) :
    CallsIn Fence.wide n Try.prog 62 #[.func (.yield l) #[] #[], .pointer (some ⟨Bc, 0, none⟩), .pointer (some ⟨Bn, 0, none⟩), .pointer (some ⟨Bs, 0, none⟩)] W fun e W' => (∃ v, e = .returned v) ∧
      ((∃ ys, ys = upto (pcI s num cs) (cs.length + 1) ∧ J ys W') ∨ (∃ pre : List Pc, True ∧ Jx pre W')) := by
  have HI := Lib.hid hI; clear hI
  have HJ := Lib.hid hJal; clear hJal
  have HY := Lib.hid hY; clear hY
  have hfew := few hc h64 hm
  have HW := Lib.hid (show ∀ wr, Below n₀ W wr → wr.cell? ⟨Bc, 0, none⟩ = some (.slice A cs.length cap) ∧ wr.cell? ⟨Bn, 0, none⟩ = some (.int .i64 num) ∧ wr.cell? ⟨Bs, 0, none⟩ = some (.string s) from fun wr g => ⟨(g.cell (p := ⟨Bc, 0, none⟩) hb.1).trans hBc, (g.cell (p := ⟨Bn, 0, none⟩) hb.2.1).trans hBn, (g.cell (p := ⟨Bs, 0, none⟩) hb.2.2).trans hBs⟩)
  refine callsIn_of_wp Try.func62 rfl trivial ?_ rfl
  simp only [Try.ntmps62, List.size_toArray, List.length_cons, List.length_nil, Nat.reduceAdd, Nat.reduceSub, Array.replicate_succ, Array.replicate_zero, List.push_toArray, List.append_toArray, List.nil_append, List.cons_append]
  gi_wp2
  gi_loopw [5, 10] (fun q i wr => ∃ k : Nat, k ≤ cs.length ∧ i = .int .i64 k ∧ q = .int .i64 (la cs k) ∧ Hid (J (upto (pcI s num cs) k) wr) ∧ Hid (Below n₀ W wr))
    (fun _ i _ => cs.length - (intOf i).toNat)
  case atStart => exact ⟨0, Nat.zero_le _, rfl, rfl, h0, Below.refl _ _⟩
  case round =>
    obtain ⟨k, hk, rfl, rfl, hJs, hKp⟩ := hrel
    have hp0 := la_nonneg hc hk
    have hp1 := la_le hc h64 hk
    obtain ⟨r1, r2, r3⟩ := HW.out wr hKp.out
    clear hBc hBn hBs
    by_cases hlt : k < cs.length
    · obtain ⟨b, off, ea, hbn, c1⟩ := HI.out k hlt
      have c1' := (hKp.out.cell (p := ⟨b, off + k, none⟩) hbn).trans c1
      clear c1
      subst ea
      have h2 := (okC_iff.1 hc) k hlt
      have hPD := Lib.hid (show pcD s cs k = (sealB (s.extract 0 (cu cs k).toNat) mkC).extract (la cs k).toNat ((cu cs k).toNat + 4) by unfold pcD; rw [if_pos hlt])
      have hz : (s.extract 0 (cu cs k).toNat).size = (cu cs k).toNat := by rw [ByteArray.size_extract]; omega
      have KM := Lib.hid (fun w => mark_any (s.extract 0 (cu cs k).toNat) (by omega) w)
      have hms : (sealB (s.extract 0 (cu cs k).toNat) mkC).size = (cu cs k).toNat + 4 := by rw [sealB_size, hz]
      obtain ⟨z, hzz⟩ : ∃ z, cu cs k = z := ⟨_, rfl⟩
      obtain ⟨p, hpp⟩ : ∃ p, la cs k = p := ⟨_, rfl⟩
      rw [hzz] at c1' h2 hz KM hms
      rw [hpp] at h2 hp0 hp1 ⊢
      obtain ⟨h21, h22, h23⟩ := h2
      have hpc : pcI s num cs k = ⟨decide (k = 0), num, cn k, pcD s cs k⟩ := rfl
      have KP := Lib.hid (fun w => piece_any k (by omega) num (pcD s cs k) w)
      rw [hPD.out, hpp, hzz] at KP
      have HX := Lib.hid (show pcI s num cs k = ⟨decide (k = 0), num, cn k, (sealB (s.extract 0 z.toNat) mkC).extract p.toNat (z.toNat + 4)⟩ by rw [hpc, hPD.out, hpp, hzz])
      rw [← hms] at KP HX
      rw [show (4294901760 : Nat) = mkC from rfl] at KM
      have hzs : z ≤ (s.size : Int) := by omega
      generalize (sealB (s.extract 0 z.toNat) mkC) = sm at *
      have hsl : p ≤ (sm.size : Int) := by omega
      clear hms hz
      gi_wp2_with fail
      gi_region_with (first | (refine ⟨trivial, ?_⟩; (with_reducible refine (callsIn_wide.2 (KM.out _)).mono ?_); rintro e w1 ⟨rfl, gr1⟩; have B1 := Bl.trans (Bl.refl wr).drew gr1; obtain ⟨r1, r2, r3⟩ := HW.out w1 (below_bl hKp.out hn0 B1); have G1 := Lib.hid B1; clear gr1 B1) | (refine ⟨trivial, ?_⟩; (with_reducible refine (callsIn_wide.2 (KP.out _)).mono ?_); rintro e w2 ⟨rfl, gr2⟩; have G2 := Lib.hid (Bl.trans G1.out gr2); clear gr2; obtain ⟨fn, tmps, assign, body, hy, hRd⟩ := HY.out _ (pcI s num cs k) w2 (HJ.out _ _ _ hJs.out G2.out) (by rw [upto_length]; omega); rw [HX.out] at hy) | ((with_reducible refine hRd.mono ?_); rintro e W3 hh; obtain ⟨rb, rfl, hW3⟩ := to_b hh; clear hh) | fail)
      all_goals
        rcases hW3 with ⟨rfl, hJ3, hk3⟩ | ⟨rfl, hJx3⟩
        · have HK := Lib.hid ((below_bl hKp.out hn0 G2.out).trans hk3)
          have HJ3 := Lib.hid hJ3
          clear hJ3 hk3 hy hRd
          gi_wp2_with fail
          go_roundw
          case rel => exact ⟨k + 1, by omega, by go_num, by rw [la_succ, hzz], by rw [upto_succ]; exact HJ3, HK⟩
          case measure => simp [intOf]; omega
        · gi_wp2_with fail
          refine bodyPost_ret (results_none rfl _ _ _) rfl ?_
          exact ⟨⟨_, rfl⟩, .inr ⟨_, trivial, hJx3⟩⟩
    · obtain rfl : k = cs.length := by omega
      have hPD := Lib.hid (show pcD s cs cs.length = s.extract (la cs cs.length).toNat s.size by unfold pcD; rw [if_neg (Nat.lt_irrefl _)])
      have HX := Lib.hid (show pcI s num cs cs.length = ⟨decide (cs.length = 0), num, cn cs.length, s.extract (la cs cs.length).toNat s.size⟩ by rw [← hPD.out]; rfl)
      have KP := Lib.hid (fun w => piece_any cs.length (by omega) num (s.extract (la cs cs.length).toNat s.size) w)
      have hps : la cs cs.length ≤ (s.size : Int) := by omega
      clear hPD
      generalize la cs cs.length = p at *
      generalize decide (cs.length = 0) = bb at *
      gi_wp2_with fail
      gi_region_with (first | (refine ⟨trivial, ?_⟩; (with_reducible refine (callsIn_wide.2 (KP.out _)).mono ?_); rintro e w2 ⟨rfl, gr2⟩; have G2 := Lib.hid (Bl.trans (Bl.refl wr).drew gr2); clear gr2; obtain ⟨fn, tmps, assign, body, hy, hRd⟩ := HY.out _ (pcI s num cs cs.length) w2 (HJ.out _ _ _ hJs.out G2.out) (by rw [upto_length]; omega); rw [HX.out] at hy) | ((with_reducible refine hRd.mono ?_); rintro e W3 hh; obtain ⟨rb, rfl, hW3⟩ := to_b hh; clear hh) | fail)
      all_goals
        rcases hW3 with ⟨rfl, hJ3, hk3⟩ | ⟨rfl, hJx3⟩
        · gi_wp2_with fail
          go_end0
          exact ⟨⟨_, rfl⟩, .inl ⟨_, rfl, by rw [upto_succ]; exact hJ3⟩⟩
        · gi_wp2_with fail
          go_end0
          exact ⟨⟨_, rfl⟩, .inr ⟨_, trivial, hJx3⟩⟩

end Go.Proofs.Ytnapelocjcoofaa
