/-
  NumCommons returns true for every input: Gcd, LCM and LCMs of the program answer as the reference does; the slice reads as it did. Condition: the table of TrailingZeros64 lies in its variable as the program's text lays it (the card ties it).
-/
import Derived.Test.YtcfdinfnahkanaaDoorND
import Derived.OpenShut
import Derived.Test.YtcfdinfnahkanaaDoorTie
import Derived.Test.YtcfdinfnahkanaaDoorCards
import Derived.SevenTiedAt
namespace Go.Proofs.YtcfdinfnahkanaaDoor
open Go.ChangeShapes Go.WideShapes Go.ChangeAt Go.WideMaps Go.WideElems Go.RowKit

theorem numCommons_any (a b u v : Int) (ad : Addr) (len cap : Nat) (zs : List Int) (w : World) (hT : Tab w) (ha : fits a) (hb : fits b) (u0 : 0 ≤ u) (u1 : u ≤ 255) (v0 : 0 ≤ v) (v1 : v ≤ 255)
    (hl : len ≤ cap) (hm : cap ≤ 9223372036854775807) (hz : zs.length = cap) (hcell : ∀ i, i < zs.length → w.cell? (ad.add i) = some (.int .i64 (zs.getD i 0))) :
    Calls Tryd.prog 6 #[.agg #[.int .i64 a, .int .i64 b], .agg #[.int .u8 u, .int .u8 v], .slice (some ad) len cap] w fun e w' => e = .returned (.bool true) ∧ Gr w w' := by
  by_cases h0 : cap = 0
  · subst h0
    obtain rfl : len = 0 := by omega
    exact numCommons_nil (some ad) a b u v w hT ha hb u0 u1 v0 v1
  · obtain ⟨p, off, rfl, hc⟩ := ints_at hcell (by omega)
    have hlen : (zs.take len).length = len := by rw [List.length_take]; omega
    have hR : Row w (some ⟨p, off, none⟩) (zs.take len) := ⟨by omega, fun k hk => by
      rw [hlen] at hk
      have e := hc k (by omega)
      refine ⟨p, off, rfl, World.block_lt_of_cell? w ⟨p, off + k, none⟩ e, e.trans ?_⟩
      congr 2
      simp [List.getD, hk]⟩
    have h := numCommons_some a b u v (zs.take len) p off cap w hT ha hb u0 u1 v0 v1 hR (by omega) hm _ rfl
    rw [hlen] at h
    exact h

theorem post_plain {H : Type} {enc : TypeId × Value → H} {P : Program} {f : Func} {s : ChangeSpec} {apart fresh handsOn : Bool} {W W' : World} {args : Array Value} {v : Value} {ds gs : List (DataW H)} {before pa pv : List MemPlace}
    (hW : DataW.Whole enc P f.params.toList s.vars apart W args.toList ds gs before)
    (hres : ∀ (b : Nat) (sp : Nat → Bool) (hd : Bool), DataW.TrodAll enc P W' b sp hd f.resultTypes.toList (v.resultList f.resultTypes.size) (s.fn H (ds ++ gs)).results [])
    (hargs : DataW.TrodAll enc P W' 0 (fun b => decide (b < W.heap.size)) true f.params.toList args.toList (s.fn H (ds ++ gs)).args pa)
    (hvars : DataW.TrodVars enc P W' (fun b => decide (b < W.heap.size)) s.vars (s.fn H (ds ++ gs)).vars pv)
    (hk : W.keptBut W' (fun _ => False)) : s.post enc P f apart fresh handsOn false W args v W' :=
  ⟨ds, gs, before, [], pa, pv, hW, hres _ _ _, hargs, hvars, World.keptBut_mono (fun _ h => h.elim) hk, fun h => by cases h⟩

set_option maxRecDepth 100000 in
theorem numCommons_lifted (os : Os) (started : os.Started) (H : Type) (enc : TypeId × Value → H) :
    ReturnsInHanded {} Tryd.checked os 6 .any (fun w args => (Rows.numCommonsSpec.pre enc Tryd.prog Tryd.f6 [] false w args ∧ laidMetH Tryd.prog laid1 w) ∧ sizedMet enc Tryd.prog Tryd.f6 (OpenSpec.ofChange Rows.numCommonsSpec) false w args)
      (Rows.numCommonsSpec.post enc Tryd.prog Tryd.f6 false true false false) := by
  refine returnsInHanded_of_change_and (C := Tryd.checked) (X := fun w _ => laidMetH Tryd.prog laid1 w) (fun _ _ _ hh h => h.of_heap hh) own started (by kernel_rfl) Tryd.func6
    (ChangeSpec.witness_shaped (enc := enc) (C := Tryd.checked) (os := os) (X := fun w _ => laidMetH Tryd.prog laid1 w) false (World.doorLaid Tryd.prog 400 os) #[.agg #[.int .i64 0, .int .i64 0], .agg #[.int .u8 0, .int .u8 0], .slice none 0 0] 8 rfl (World.shaped_of_RefB (by kernel_rfl) (by kernel_rfl)) (by kernel_rfl) (by kernel_rfl) (by kernel_rfl) (door_met os _)) ?_
  intro W base args ds gs before hval0 hW _ _ hL _
  have hval : ∀ (j : Nat) t v, Tryd.f6.params[j]? = some t → args[j]? = some v → Value.okWide Tryd.prog W .any base t v := hval0
  have hW' := hW
  obtain ⟨p, q, hA0, hV, rfl, hfz, hnd⟩ := hW
  have hA : DataW.TrodAll enc Tryd.prog W 0 (fun _ => true) true Tryd.f6.params.toList args.toList ds p := hA0
  rw [Tryd.params6] at hA hval
  obtain ⟨v0, v1, v2, d0, d1, d2, p0, p1, p2, rfl, rfl, rfl, h0, h1, h2⟩ := trodAll_three hA
  obtain ⟨rfl, rfl⟩ := trodVars_none hV
  obtain ⟨zs, hz, rfl, rfl, rfl, wz⟩ := open_arr Tryd.underlying22 Tryd.underlying3 (by kernel_rfl) (by kernel_rfl) (hval 0 22 v0 rfl rfl) h0
  obtain ⟨us, hu, rfl, rfl, rfl, wu⟩ := open_arr Tryd.underlying23 Tryd.underlying5 (by kernel_rfl) (by kernel_rfl) (hval 1 23 v1 rfl rfl) h1
  obtain ⟨a, b, rfl⟩ := list2 hz
  obtain ⟨u, v, rfl⟩ := list2 hu
  have hT := of_laid hL
  obtain ⟨a0, len, cap, rfl⟩ := okWide_slice Tryd.underlying36 (hval 2 36 _ rfl rfl)
  obtain ⟨fuel, hf⟩ := h2
  have hc1 : Tryd.prog.cellsOf 3 = 1 := by kernel_rfl
  rcases open_ints Tryd.underlying36 Tryd.underlying3 hc1 hf with ⟨hcs, hx⟩ | ⟨ad, len', cap', ws, hcs, _, hle, hmax, hall, hx, hcell, wws⟩
  · simp [Value.cells] at hcs
    obtain ⟨rfl, rfl, rfl⟩ := hcs
    simp only [Prod.mk.injEq] at hx
    obtain ⟨rfl, rfl⟩ := hx
    clear hA0 hval0
    simp only [List.append_nil] at hW'
    refine (numCommons_nil none a b u v W hT (fits_of (wz a (by simp))) (fits_of (wz b (by simp))) (bounds_u8 (wu u (by simp))).1 (bounds_u8 (wu u (by simp))).2 (bounds_u8 (wu v (by simp))).1 (bounds_u8 (wu v (by simp))).2).mono fun e W' ⟨he, hg⟩ => ?_
    subst he
    exact ⟨_, rfl, post_plain hW' (fun _ _ _ => trodAll_mk1 (shut_bool Tryd.underlying4 _))
      (trodAll_mk3 (shut_arr Tryd.underlying22 Tryd.underlying3 (by kernel_rfl) (by kernel_rfl) hz wz) (shut_arr Tryd.underlying23 Tryd.underlying5 (by kernel_rfl) (by kernel_rfl) hu wu) (shut_slice_nil Tryd.underlying36)) (pv := []) rfl hg.1⟩
  · simp [Value.cells] at hcs
    obtain ⟨rfl, rfl, rfl⟩ := hcs
    simp only [Prod.mk.injEq] at hx
    obtain ⟨rfl, rfl⟩ := hx
    simp only [if_true] at hall
    clear hA0 hval0
    simp only [List.append_nil] at hW'
    refine (numCommons_any a b u v ad _ _ ws W hT (fits_of (wz a (by simp))) (fits_of (wz b (by simp))) (bounds_u8 (wu u (by simp))).1 (bounds_u8 (wu u (by simp))).2 (bounds_u8 (wu v (by simp))).1 (bounds_u8 (wu v (by simp))).2 hle (by unfold maxLen at hmax; omega) hall hcell).mono fun e W' ⟨he, hg⟩ => ?_
    subst he
    have hcell' : ∀ i, i < ws.length → W'.cell? (ad.add i) = some (.int .i64 (ws.getD i 0)) := fun i hi =>
      (gr_cell hg (World.block_lt_of_cell? W (ad.add i) (hcell i hi))).trans (hcell i hi)
    obtain ⟨zs', hzs', hcs', hws', htk, hdr⟩ : ∃ zs' : List Int, zs'.length = (if (fun b => decide (b < W.heap.size)) ad.block then cap else len) ∧ (∀ i, i < zs'.length → W'.cell? (ad.add i) = some (.int .i64 (zs'.getD i 0))) ∧ (∀ n ∈ zs', (Lit.int .i64 n).wf = true) ∧ zs'.take len = ws.take len ∧ zs'.drop len = ws.drop len := by
      by_cases hb : ad.block < W.heap.size
      · exact ⟨ws, by simp [hb, hall], hcell', wws, rfl, rfl⟩
      · have hn : ws.length = 0 := by
          rcases Nat.eq_zero_or_pos ws.length with h | h
          · exact h
          · exact absurd (by simpa [ChangeShapes.block_add] using World.block_lt_of_cell? W (ad.add 0) (hcell 0 h)) hb
        exact ⟨ws, by simp [hb]; omega, hcell', wws, rfl, rfl⟩
    have hsh := shut_ints (H := H) (enc := enc) (w := W') (base := 0) (spare := fun b => decide (b < W.heap.size)) (held := true) 8 Tryd.underlying36 Tryd.underlying3 hc1 (Nat.zero_le ad.block) hle hmax hzs' hcs' hws'
    rw [htk, hdr] at hsh
    exact ⟨_, rfl, post_plain hW' (fun _ _ _ => trodAll_mk1 (shut_bool Tryd.underlying4 _))
      (trodAll_mk3 (shut_arr Tryd.underlying22 Tryd.underlying3 (by kernel_rfl) (by kernel_rfl) hz wz) (shut_arr Tryd.underlying23 Tryd.underlying5 (by kernel_rfl) (by kernel_rfl) hu wu) ⟨_, hsh⟩) (pv := []) rfl hg.1⟩

theorem numCommons_row : Rows.NumCommonsSaid :=
  OpenClaim.holds_of_wide 6 Tryd.f6 rfl rfl rfl rfl rfl rfl rfl ⟨rfl, rfl, rfl, rfl, rfl⟩ rfl rfl rfl rfl rfl (by kernel_rfl) Tryd.func6 (by kernel_rfl)
    (of_decide_eq_true (by kernel_rfl)) (by unfold Func.isWrapper; first | (rw [if_pos (by decide +kernel)]; kernel_rfl) | (rw [if_neg (by decide +kernel)]; exact ⟨rfl, rfl⟩))
    (fun os started H enc _ => numCommons_lifted os started H enc)

/-- The given statement. -/
theorem numCommons_holds : Rows.NumCommonsCardSaid :=
  Claim7.holds_tied_plain_at .later [] [.data] true (true, "bf85c4916e9a7308bbe47f137d5538c5dc2f9a21ef3ee3eb2e642297461c402c") false
    numCommons_row (fun _ h => by cases h) (by kernel_rfl) (fun _ h => by cases h) numCommons_row_tie rfl ⟨rfl, rfl⟩ (by kernel_rfl) rfl
    (fun f fn hf hfn => by
      obtain rfl : f = 6 := Option.some.inj ((show Tryd.prog.funcNamed "isochron/isochronlaw01.NumCommons" = some 6 by kernel_rfl).symm.trans hf) |>.symm
      obtain rfl : fn = Tryd.f6 := (Option.some.inj (Tryd.func6.symm.trans hfn)).symm
      exact ⟨by kernel_rfl, fun j t ht => by
        rw [Tryd.params6] at ht
        have hm : t ∈ [22, 23, 36] := by simpa using Array.mem_of_getElem? ht
        have hall : ([22, 23, 36].all fun u => !Tryd.prog.wantsStandIn u) = true := by kernel_rfl
        exact (show Tryd.prog.wantsStandIn t = false by simpa using List.all_eq_true.1 hall t hm)⟩)
    (by kernel_rfl)
#print axioms numCommons_holds

end Go.Proofs.YtcfdinfnahkanaaDoor
