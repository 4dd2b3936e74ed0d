/-
  The given statement BucketMerges: for every input the law returns true, and the arguments read as before. No condition.
-/
import Derived.Test.YtajlcagbfebbjaaBmerges
import Derived.Test.YtajlcagbfebbjaaBy
import Derived.Deep.Grids
namespace Go.Proofs.Ytajlcagbfebbjaa
open Go.ChangeShapes Go.WideShapes Go.ChangeAt Go.WideMaps Go.WideElems Go.RowKit

section
variable {H : Type} {enc : TypeId × Value → H} {w : World} {held : Bool}
theorem draft_of {fuel : Nat} {c0 c1 c2 c3 : Value} {x : DataW H × List MemPlace} (h : DataW.trod enc Try.prog w 0 (fun _ => true) held fuel 25 [c0, c1, c2, c3] = some x) :
    ∃ B R gA gc gs sA sc ss, c0 = .int .u32 B ∧ c1 = .int .u32 R ∧ c2 = .slice gA (List.length gs) gc ∧ c3 = .slice sA (List.length ss) sc ∧ (0 ≤ B ∧ B ≤ 4294967295) ∧ (0 ≤ R ∧ R ≤ 4294967295) ∧ Us w gA gs ∧ Us w sA ss ∧ U16 gs ∧ U16 ss ∧ ((ss.length : Nat) : Int) ≤ 9223372036854775807 := by
  obtain ⟨y0, y1, y2, y3, n, _, _, t0, t1, t2, t3⟩ := Go.Joins.trod_struct4 Try.underlying25 h
  replace t0 : DataW.trod enc Try.prog w 0 (fun _ => true) held n 22 [c0] = some y0 := t0
  replace t1 : DataW.trod enc Try.prog w 0 (fun _ => true) held n 22 [c1] = some y1 := t1
  replace t2 : DataW.trod enc Try.prog w 0 (fun _ => true) held n 23 [c2] = some y2 := t2
  replace t3 : DataW.trod enc Try.prog w 0 (fun _ => true) held n 23 [c3] = some y3 := t3
  obtain ⟨B, e1, e2, e3⟩ := DataW.trod_int Try.underlying22 t0
  obtain ⟨R, f1, f2, f3⟩ := DataW.trod_int Try.underlying22 t1
  obtain rfl : c0 = .int .u32 B := by simpa using e1
  obtain rfl : c1 = .int .u32 R := by simpa using f1
  obtain ⟨gA, gc, gs, rfl, g1, g2, _⟩ := open_us t2
  obtain ⟨sA, sc, ss, rfl, s1, s2, s3⟩ := open_us t3
  exact ⟨B, R, gA, gc, gs, sA, sc, ss, rfl, rfl, rfl, rfl, bounds_u32 e3, bounds_u32 f3, g1, s1, g2, s2, s3⟩
theorem eight_of {cs : Array Value} (h : cs.size = 8) : ∃ a b c d e f g h, cs = #[a, b, c, d, e, f, g, h] := by
  obtain ⟨l⟩ := cs
  match l, h with
  | [a, b, c, d, e, f, g, h], _ => exact ⟨a, b, c, d, e, f, g, h, rfl⟩
theorem open_drafts {r : Reach} {b0 : Nat} {v : Value} {d : DataW H} {p : List MemPlace} (hv : Value.okWide Try.prog w r b0 26 v) (h : DataW.Trod enc Try.prog w 0 (fun _ => true) held 26 v d p) :
    ∃ B R gA gc gs sA sc ss B' R' gA' gc' gs' sA' sc' ss', v = .agg #[.int .u32 B, .int .u32 R, .slice gA (List.length gs) gc, .slice sA (List.length ss) sc, .int .u32 B', .int .u32 R', .slice gA' (List.length gs') gc', .slice sA' (List.length ss') sc'] ∧
      ((0 ≤ B ∧ B ≤ 4294967295) ∧ (0 ≤ R ∧ R ≤ 4294967295) ∧ Us w gA gs ∧ Us w sA ss ∧ U16 gs ∧ U16 ss ∧ ((ss.length : Nat) : Int) ≤ 9223372036854775807) ∧
      ((0 ≤ B' ∧ B' ≤ 4294967295) ∧ (0 ≤ R' ∧ R' ≤ 4294967295) ∧ Us w gA' gs' ∧ Us w sA' ss' ∧ U16 gs' ∧ U16 ss' ∧ ((ss'.length : Nat) : Int) ≤ 9223372036854775807) := by
  unfold Value.okWide at hv
  rw [Try.underlying26] at hv
  obtain ⟨cs, rfl, hsz, _⟩ := hv
  rw [show Try.prog.cellsOf 26 = 8 by kernel_rfl] at hsz
  obtain ⟨c0, c1, c2, c3, c4, c5, c6, c7, rfl⟩ := eight_of hsz
  obtain ⟨fuel, hf⟩ := h
  obtain ⟨xs, m, _, _, _, hn, hel⟩ := DataW.trod_array Try.underlying26 hf
  have k4 : Try.prog.cellsOf 25 = 4 := by kernel_rfl
  have e0 := hel 0 (by decide)
  have e1 := hel 1 (by decide)
  rw [k4, List.getElem?_eq_getElem (by omega)] at e0 e1
  replace e0 : DataW.trod enc Try.prog w 0 (fun _ => true) held m 25 [c0, c1, c2, c3] = some xs[0] := e0
  replace e1 : DataW.trod enc Try.prog w 0 (fun _ => true) held m 25 [c4, c5, c6, c7] = some xs[1] := e1
  obtain ⟨B, R, gA, gc, gs, sA, sc, ss, rfl, rfl, rfl, rfl, r0⟩ := draft_of e0
  obtain ⟨B', R', gA', gc', gs', sA', sc', ss', rfl, rfl, rfl, rfl, r1⟩ := draft_of e1
  exact ⟨B, R, gA, gc, gs, sA, sc, ss, B', R', gA', gc', gs', sA', sc', ss', rfl, r0, r1⟩
theorem open_keep {r : Reach} {b0 : Nat} {v : Value} {d : DataW H} {p : List MemPlace} (hv : Value.okWide Try.prog w r b0 27 v) (h : DataW.Trod enc Try.prog w 0 (fun _ => true) held 27 v d p) :
    ∃ A c bs, v = .slice A (List.length bs) c ∧ Ub w A bs ∧ ((bs.length : Nat) : Int) ≤ 9223372036854775807 := by
  obtain ⟨a0, len, cap, rfl⟩ := okWide_slice Try.underlying27 hv
  obtain ⟨fuel, hf⟩ := h
  rcases Go.Deep.open_bools Try.underlying27 Try.underlying4 (by kernel_rfl) hf with ⟨e, _⟩ | ⟨a, len', cap', B, e, _, hle, hm, _, hc⟩
  · simp [Value.cells] at e
    obtain ⟨rfl, rfl, rfl⟩ := e
    exact ⟨none, 0, [], rfl, fun k hk => absurd hk (by simp), by simp⟩
  · simp [Value.cells] at e
    obtain ⟨rfl, rfl, rfl⟩ := e
    refine ⟨some a, cap, (List.range len).map B, by simp, fun k hk => ?_, by unfold maxLen at hm; simp; omega⟩
    have hk' : k < len := by simpa using hk
    have h0 := hc 0 (by omega)
    rw [add_zero' a] at h0
    have ha := cell_spot h0
    have h1 := hc k (by omega)
    obtain ⟨b, o, sp⟩ := a
    injection ha with _ _ ha
    subst ha
    rw [addN] at h1
    exact ⟨b, o, rfl, World.block_lt_of_cell? w _ h0, by rw [h1]; simp [List.getD_eq_getElem?_getD, List.getElem?_range hk']⟩
end

theorem own_bucketMerges : ownKnob Try.prog.godebug = none := by kernel_rfl
set_option maxRecDepth 100000 in
theorem bucketMerges_lifted (os : Os) (started : os.Started) (H : Type) (enc : TypeId × Value → H) :
    ReturnsInHanded {} Try.checked os 3 .any (Rows.bucketMergesSpec.pre6 enc Try.prog Try.f3 Rows.bucketMergesRow.domain false) (Rows.bucketMergesSpec.post enc Try.prog Try.f3 false true false false) := by
  refine returnsInHanded_of_change (C := Try.checked) own_bucketMerges started (by kernel_rfl) Try.func3
    (ChangeSpec.witness6 (enc := enc) (C := Try.checked) false ⟨#[], #[.agg #[.int .u32 0, .int .u32 0, .slice none 0 0, .slice none 0 0, .int .u32 0, .int .u32 0, .slice none 0 0, .slice none 0 0], .slice none 0 0], []⟩ 8 (by kernel_rfl) (by kernel_rfl) (by kernel_rfl) (by kernel_rfl)) ?_
  intro W base args ds gs before hval0 hW _ _
  have hval : ∀ (j : Nat) t v, Try.f3.params[j]? = some t → args[j]? = some v → Value.okWide Try.prog W .any base t v := hval0
  have hW' := hW
  obtain ⟨p, q, hA0, hV, rfl, hfz, hnd⟩ := hW
  have hA : DataW.TrodAll enc Try.prog W 0 (fun _ => true) true Try.f3.params.toList args.toList ds p := hA0
  rw [Try.params3] at hA hval
  obtain ⟨v0, v1, d0, d1, p0, p1, rfl, rfl, rfl, h0, h1⟩ := trodAll_two hA
  obtain ⟨rfl, rfl⟩ := trodVars_none hV
  obtain ⟨B0, R0, gA0, gc0, gs0, sA0, sc0, ss0, B1, R1, gA1, gc1, gs1, sA1, sc1, ss1, rfl, ⟨hB0, hR0, hg0, hs0, ug0, us0, sl0⟩, hB1, hR1, hg1, hs1, ug1, us1, sl1⟩ := open_drafts (hval 0 26 v0 rfl rfl) h0
  obtain ⟨kA, kc, bs, rfl, hkp, hkl⟩ := open_keep (hval 1 27 v1 rfl rfl) h1
  clear hA0 hval0
  refine (merges_law B0 R0 gA0 gc0 sA0 sc0 gs0 ss0 B1 R1 gA1 gc1 sA1 sc1 gs1 ss1 kA kc bs W hB0 hR0 hB1 hR1 hg0 hs0 ug0 us0 sl0 hg1 hs1 ug1 us1 sl1 hkp hkl).mono fun e W' ⟨he, hg⟩ => ?_
  subst he
  exact ⟨_, rfl, law_post lawTys_good (List.all_eq_true.1 (by kernel_rfl : (Try.f3.params.toList.all fun t => lawTys.contains t) = true) |> fun h t ht => List.contains_iff_mem.1 (h t ht)) hW' rfl hg (fun _ _ _ => trodAll_mk1 (shut_bool Try.underlying4 _)) rfl rfl⟩

/-- The given statement. -/
theorem bucketMerges_holds : Rows.BucketMergesSaid :=
  OpenClaim.holds_of_wide 3 Try.f3 rfl rfl rfl rfl rfl rfl rfl ⟨rfl, rfl, rfl, rfl, rfl⟩ rfl rfl rfl rfl rfl (by kernel_rfl) Try.func3 (by kernel_rfl)
    (of_decide_eq_true (by kernel_rfl)) (by unfold Func.isWrapper; first | (rw [if_pos (by decide +kernel)]; kernel_rfl) | (rw [if_neg (by decide +kernel)]; exact ⟨rfl, rfl⟩))
    (fun os started H enc _ => bucketMerges_lifted os started H enc)
#print axioms bucketMerges_holds

end Go.Proofs.Ytajlcagbfebbjaa
