/-
  The given statement CurveOutput: for every input the law returns true, and the arguments read as before. No condition.
-/
import Derived.Test.YtgbbglnbolihfaaDe
import Derived.Test.YtgbbglnbolihfaaCt
import Derived.Test.YtgbbglnbolihfaaRt2
namespace Go.Proofs.Ytgbbglnbolihfaa
open Go.ChangeShapes Go.WideShapes Go.ChangeAt Go.WideMaps Go.WideElems Go.RowKit
section
variable {H : Type} {enc : TypeId × Value → H} {w : World}
set_option maxRecDepth 100000 in
theorem open_us32 {r : Reach} {b0 : Nat} {v : Value} {d : DataW H} {p : List MemPlace} (hv : Value.okWide Try.prog w r b0 83 v) (h : DataW.Trod enc Try.prog w 0 (fun _ => true) true 83 v d p) :
    ∃ A c zs, v = .slice A (List.length zs) c ∧ Us32 w A zs ∧ ((zs.length : Nat) : Int) ≤ 9223372036854775807 := by
  obtain ⟨a0, len, cap, rfl⟩ := okWide_slice Try.underlying83 hv
  obtain ⟨fuel, hf⟩ := h
  rcases open_ints Try.underlying83 Try.underlying22 (by kernel_rfl) hf with ⟨e, _⟩ | ⟨a, len', cap', zs, e, _, hle, hm, hl, _, hc, hw⟩
  · simp [Value.cells] at e
    obtain ⟨rfl, rfl, rfl⟩ := e
    exact ⟨none, 0, [], rfl, fun k hk => absurd hk (by simp), by simp⟩
  · simp [Value.cells] at e
    obtain ⟨rfl, rfl, rfl⟩ := e
    simp only [if_true] at hl
    have hlt : (zs.take len).length = len := by rw [List.length_take]; omega
    have hg : ∀ k, k < len → (zs.take len).getD k 0 = zs.getD k 0 := fun k hk => by simp [List.getD_eq_getElem?_getD, List.getElem?_take_of_lt hk]
    refine ⟨some a, cap, zs.take len, by rw [hlt], fun k hk => ?_, by rw [hlt]; unfold maxLen at hm; omega⟩
    rw [hlt] at hk
    have h0 := hc 0 (by omega)
    rw [add_zero' a] at h0
    have ha := cell_spot h0
    have h1 := hc k (by omega)
    obtain ⟨b, o, sp⟩ := a
    injection ha with _ _ ha
    subst ha
    rw [addN] at h1
    rw [hg k hk]
    have hmem : zs.getD k 0 ∈ zs := by
      rw [List.getD_eq_getElem?_getD, List.getElem?_eq_getElem (by omega)]
      exact List.getElem_mem _
    exact ⟨⟨b, o, rfl, h1⟩, bounds_u32 (hw _ hmem)⟩
end

theorem own_curveOutput : ownKnob Try.prog.godebug = none := by kernel_rfl
set_option maxRecDepth 100000 in
theorem curveOutput_lifted (os : Os) (started : os.Started) (H : Type) (enc : TypeId × Value → H) :
    ReturnsInHanded {} Try.checked os 11 .any (Rows.curveOutputSpec.pre6 enc Try.prog Try.f11 Rows.curveOutputRow.domain false) (Rows.curveOutputSpec.post enc Try.prog Try.f11 false true false false) := by
  refine returnsInHanded_of_change (C := Try.checked) own_curveOutput started (by kernel_rfl) Try.func11
    (ChangeSpec.witness6 (enc := enc) (C := Try.checked) false ⟨#[], #[.agg #[.int .u32 0, .int .u32 0, .slice none 0 0, .slice none 0 0], .int .u32 0, .int .u16 0, .slice none 0 0], []⟩ 8 (by kernel_rfl) (by kernel_rfl) (by kernel_rfl) (by kernel_rfl)) ?_
  intro W base args ds gs before hval0 hW _ _
  have hval : ∀ (j : Nat) t v, Try.f11.params[j]? = some t → args[j]? = some v → Value.okWide Try.prog W .any base t v := hval0
  have hW' := hW
  obtain ⟨p, q, hA0, hV, rfl, hfz, hnd⟩ := hW
  have hA : DataW.TrodAll enc Try.prog W 0 (fun _ => true) true Try.f11.params.toList args.toList ds p := hA0
  rw [Try.params11] at hA hval
  obtain ⟨v0, v1, v2, v3, d0, d1, d2, d3, p0, p1, p2, p3, rfl, rfl, rfl, h0, h1, h2, h3⟩ := trodAll_four hA
  obtain ⟨rfl, rfl⟩ := trodVars_none hV
  obtain ⟨B, R, gA, gc, gs', sA, sc, ss, rfl, hB, hR, hg1, hs1, ug, us, sl⟩ := open_draft (hval 0 25 v0 rfl rfl) h0
  obtain ⟨n1, rfl, _, _, b1⟩ := open_int Try.underlying22 (hval 1 22 v1 rfl rfl) h1
  obtain ⟨n2, rfl, _, _, b2⟩ := open_int Try.underlying79 (hval 2 79 v2 rfl rfl) h2
  obtain ⟨wA, wc, wz, rfl, hw, wl⟩ := open_us32 (hval 3 83 v3 rfl rfl) h3
  clear hA0 hval0
  refine (output_law B R gA gc sA sc gs' ss n1 n2 wA wc wz W hB hR hg1 hs1 ug us sl (bounds_u32 b1) (bounds_u16 b2) hw wl).mono fun e W' ⟨he, hg⟩ => ?_
  subst he
  exact ⟨_, rfl, law_post lawTys4_good (List.all_eq_true.1 (by kernel_rfl : (Try.f11.params.toList.all fun t => lawTys4.contains t) = true) |> fun h t ht => List.contains_iff_mem.1 (h t ht)) hW' rfl hg (fun _ _ _ => trodAll_mk1 (shut_bool Try.underlying4 _)) rfl rfl⟩

/-- The given statement. -/
theorem curveOutput_holds : Rows.CurveOutputSaid :=
  OpenClaim.holds_of_wide 11 Try.f11 rfl rfl rfl rfl rfl rfl rfl ⟨rfl, rfl, rfl, rfl, rfl⟩ rfl rfl rfl rfl rfl (by kernel_rfl) Try.func11 (by kernel_rfl)
    (of_decide_eq_true (by kernel_rfl)) (by unfold Func.isWrapper; first | (rw [if_pos (by decide +kernel)]; kernel_rfl) | (rw [if_neg (by decide +kernel)]; exact ⟨rfl, rfl⟩))
    (fun os started H enc _ => curveOutput_lifted os started H enc)
#print axioms curveOutput_holds

end Go.Proofs.Ytgbbglnbolihfaa
