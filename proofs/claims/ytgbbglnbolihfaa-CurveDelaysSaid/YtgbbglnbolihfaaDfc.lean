/-
  The given statement CurveDelays: for every input the law returns true, and the arguments read as before. No condition.
-/
import Derived.Test.YtgbbglnbolihfaaDf
import Derived.Deep.SlicePairs
import Derived.Test.YtgbbglnbolihfaaCt
import Derived.Test.YtgbbglnbolihfaaRt2
namespace Go.Proofs.Ytgbbglnbolihfaa
open Go.ChangeShapes Go.WideShapes Go.ChangeAt Go.WideMaps Go.WideElems Go.RowKit
section
variable {H : Type} {enc : TypeId × Value → H} {w : World}
set_option maxRecDepth 100000 in
theorem open_fours {t e s2 s3 : TypeId} {f0 f1 f2 f3 : Field} {r : Reach} {b0 : Nat} {v : Value} {d : DataW H} {p : List MemPlace} (ht : Try.prog.underlying t = some (.slice e)) (he : Try.prog.underlying e = some (.struct #[f0, f1, f2, f3]))
    (ce : Try.prog.cellsOf e = 4) (o0 : f0.offset = 0) (o1 : f1.offset = 1) (o2 : f2.offset = 2) (o3 : f3.offset = 3) (c0 : Try.prog.cellsOf f0.type = 1) (c1 : Try.prog.cellsOf f1.type = 1) (c2 : Try.prog.cellsOf f2.type = 1) (c3 : Try.prog.cellsOf f3.type = 1)
    (i0 : Try.prog.underlying f0.type = some (.int .u32)) (i1 : Try.prog.underlying f1.type = some (.int .u32)) (i2 : Try.prog.underlying f2.type = some (.slice s2)) (i3 : Try.prog.underlying f3.type = some (.slice s3))
    (hv : Value.okWide Try.prog w r b0 t v) (h : DataW.Trod enc Try.prog w 0 (fun _ => true) true t v d p) :
    ∃ A n c, v = .slice A n c ∧ Ds w A n ∧ ((n : Nat) : Int) ≤ 9223372036854775807 := by
  obtain ⟨a0, len, cap, rfl⟩ := okWide_slice ht hv
  obtain ⟨fuel, hf⟩ := h
  rcases Go.Deep.open_slice ht hf with ⟨e, _⟩ | ⟨a, len', cap', m, n, D, Pl, e, _, hle, hm, hl, _, hx⟩
  · simp [Value.cells] at e
    obtain ⟨rfl, rfl, rfl⟩ := e
    exact ⟨none, 0, 0, rfl, fun k hk => absurd hk (by omega), by simp⟩
  · simp [Value.cells] at e
    obtain ⟨rfl, rfl, rfl⟩ := e
    simp only [if_true] at hl
    refine ⟨some a, len, cap, rfl, fun k hk => ?_, by unfold maxLen at hm; omega⟩
    obtain ⟨cs0, hc0, _⟩ := hx 0 (by omega)
    rw [ce] at hc0
    obtain ⟨_, hlen0, hcell0⟩ := World.cells?_some hc0
    have q0 := hcell0 0 (by omega)
    rw [Nat.zero_mul, add_zero' a, add_zero' a, List.getElem?_eq_getElem (by omega)] at q0
    have ha := cell_spot q0
    obtain ⟨cs, hc, ht'⟩ := hx k (by omega)
    rw [ce] at hc
    obtain ⟨_, hlen, hcell⟩ := World.cells?_some hc
    obtain ⟨ys, n', hk', _, _, hxl, hfl⟩ := DataW.trod_struct he ht'
    match ys, hxl, cs, hlen with
    | [y0, y1, y2, y3], _, [v0, v1, v2, v3], _ =>
      have g0 := hfl 0 f0 rfl
      have g1 := hfl 1 f1 rfl
      have g2 := hfl 2 f2 rfl
      have g3 := hfl 3 f3 rfl
      simp [o0, o1, o2, o3, c0, c1, c2, c3] at g0 g1 g2 g3
      have e0 := hcell 0 (by omega)
      have e1 := hcell 1 (by omega)
      have e2 := hcell 2 (by omega)
      have e3 := hcell 3 (by omega)
      obtain ⟨b, o, s⟩ := a
      injection ha with _ _ ha
      subst ha
      simp only [addN] at e0 e1 e2 e3
      obtain ⟨B, x1, _, x3⟩ := DataW.trod_int i0 g0
      obtain ⟨R, z1, _, z3⟩ := DataW.trod_int i1 g1
      obtain rfl : v0 = .int .u32 B := by simpa using x1
      obtain rfl : v1 = .int .u32 R := by simpa using z1
      obtain ⟨gA, gn, gc, rfl⟩ : ∃ gA gn gc, v2 = .slice gA gn gc := by
        rcases Go.Deep.open_slice i2 g2 with ⟨q, _⟩ | ⟨a', l', c', _, _, _, _, q, _⟩
        · exact ⟨none, 0, 0, by simpa using q⟩
        · exact ⟨some a', l', c', by simpa using q⟩
      obtain ⟨sA, sn, sc, rfl⟩ : ∃ gA gn gc, v3 = .slice gA gn gc := by
        rcases Go.Deep.open_slice i3 g3 with ⟨q, _⟩ | ⟨a', l', c', _, _, _, _, q, _⟩
        · exact ⟨none, 0, 0, by simpa using q⟩
        · exact ⟨some a', l', c', by simpa using q⟩
      exact ⟨b, o, B, R, gA, gn, gc, sA, sn, sc, rfl, World.block_lt_of_cell? w _ q0, e0, e1, e2, e3, bounds_u32 x3, bounds_u32 z3⟩
end

theorem own_curveDelays : ownKnob Try.prog.godebug = none := by kernel_rfl
set_option maxRecDepth 100000 in
theorem curveDelays_lifted (os : Os) (started : os.Started) (H : Type) (enc : TypeId × Value → H) :
    ReturnsInHanded {} Try.checked os 6 .any (Rows.curveDelaysSpec.pre6 enc Try.prog Try.f6 Rows.curveDelaysRow.domain false) (Rows.curveDelaysSpec.post enc Try.prog Try.f6 false true false false) := by
  refine returnsInHanded_of_change (C := Try.checked) own_curveDelays started (by kernel_rfl) Try.func6
    (ChangeSpec.witness6 (enc := enc) (C := Try.checked) false ⟨#[], #[.slice none 0 0, .slice none 0 0, .agg #[.int .i64 0, .int .i64 0], .agg #[.int .u32 0, .int .u32 0], .agg #[.int .i64 0, .int .i64 0]], []⟩ 8 (by kernel_rfl) (by kernel_rfl) (by kernel_rfl) (by kernel_rfl)) ?_
  intro W base args ds gs before hval0 hW _ _
  have hval : ∀ (j : Nat) t v, Try.f6.params[j]? = some t → args[j]? = some v → Value.okWide Try.prog W .any base t v := hval0
  have hW' := hW
  obtain ⟨p, q, hA0, hV, rfl, hfz, hnd⟩ := hW
  have hA : DataW.TrodAll enc Try.prog W 0 (fun _ => true) true Try.f6.params.toList args.toList ds p := hA0
  rw [Try.params6] at hA hval
  obtain ⟨v0, v1, v2, v3, v4, d0, d1, d2, d3, d4, p0, p1, p2, p3, p4, rfl, rfl, rfl, h0, h1, h2, h3, h4⟩ := trodAll_five hA
  obtain ⟨rfl, rfl⟩ := trodVars_none hV
  obtain ⟨A, cap, xs, rfl, hl, hcap, hT⟩ := open_pairs Try.underlying39 Try.underlying30 (by kernel_rfl) rfl rfl (by kernel_rfl) (by kernel_rfl) Try.underlying3 Try.underlying3 (hval 0 39 v0 rfl rfl) h0
  obtain ⟨dA, dn, dc, rfl, hD, hdn⟩ := open_fours Try.underlying63 Try.underlying25 (by kernel_rfl) rfl rfl rfl rfl (by kernel_rfl) (by kernel_rfl) (by kernel_rfl) (by kernel_rfl) Try.underlying22 Try.underlying22 Try.underlying23 Try.underlying23 (hval 1 63 v1 rfl rfl) h1
  obtain ⟨sr, sl', rfl, _, _⟩ := open_two Try.underlying54 (by kernel_rfl) (by kernel_rfl) Try.underlying3 Try.underlying3 (hval 2 54 v2 rfl rfl) h2
  obtain ⟨zs, hz, rfl, _, _, wz⟩ := open_arr Try.underlying64 Try.underlying22 (by kernel_rfl) (by kernel_rfl) (hval 3 64 v3 rfl rfl) h3
  obtain ⟨n0, n1, rfl⟩ := list2 hz
  obtain ⟨bu, bR, rfl, _, _⟩ := open_two Try.underlying30 (by kernel_rfl) (by kernel_rfl) Try.underlying3 Try.underlying3 (hval 4 30 v4 rfl rfl) h4
  clear hA0 hval0
  refine (delays_law xs A cap (min xs.length 13) dA dn dc sr sl' n0 n1 bu bR W hl hcap hT rfl hD hdn (bounds_u32 (wz _ (by simp))) (bounds_u32 (wz _ (by simp)))).mono fun e W' ⟨he, hg⟩ => ?_
  subst he
  exact ⟨_, rfl, law_post lawTys4_good (List.all_eq_true.1 (by kernel_rfl : (Try.f6.params.toList.all fun t => lawTys4.contains t) = true) |> fun h t ht => List.contains_iff_mem.1 (h t ht)) hW' rfl hg (fun _ _ _ => trodAll_mk1 (shut_bool Try.underlying4 _)) rfl rfl⟩

/-- The given statement. -/
theorem curveDelays_holds : Rows.CurveDelaysSaid :=
  OpenClaim.holds_of_wide 6 Try.f6 rfl rfl rfl rfl rfl rfl rfl ⟨rfl, rfl, rfl, rfl, rfl⟩ rfl rfl rfl rfl rfl (by kernel_rfl) Try.func6 (by kernel_rfl)
    (of_decide_eq_true (by kernel_rfl)) (by unfold Func.isWrapper; first | (rw [if_pos (by decide +kernel)]; kernel_rfl) | (rw [if_neg (by decide +kernel)]; exact ⟨rfl, rfl⟩))
    (fun os started H enc _ => curveDelays_lifted os started H enc)
#print axioms curveDelays_holds

end Go.Proofs.Ytgbbglnbolihfaa
