/-
  The given statement CurveDrains: for every input the law returns true, and the arguments read as before. No condition.
-/
import Derived.Test.YtgbbglnbolihfaaDc
import Derived.Test.YtgbbglnbolihfaaCt
import Derived.Test.YtgbbglnbolihfaaRt2
namespace Go.Proofs.Ytgbbglnbolihfaa
open Go.ChangeShapes Go.WideShapes Go.ChangeAt Go.WideMaps Go.WideElems Go.RowKit

theorem own_curveDrains : ownKnob Try.prog.godebug = none := by kernel_rfl
set_option maxRecDepth 100000 in
theorem curveDrains_lifted (os : Os) (started : os.Started) (H : Type) (enc : TypeId × Value → H) :
    ReturnsInHanded {} Try.checked os 8 .any (Rows.curveDrainsSpec.pre6 enc Try.prog Try.f8 Rows.curveDrainsRow.domain false) (Rows.curveDrainsSpec.post enc Try.prog Try.f8 false true false false) := by
  refine returnsInHanded_of_change (C := Try.checked) own_curveDrains started (by kernel_rfl) Try.func8
    (ChangeSpec.witness6 (enc := enc) (C := Try.checked) false ⟨#[], #[.slice none 0 0, .agg #[.int .u32 0, .int .u32 0, .slice none 0 0, .slice none 0 0], .agg #[.int .i64 0, .int .i64 0], .agg #[.int .u32 0, .int .u32 0]], []⟩ 8 (by kernel_rfl) (by kernel_rfl) (by kernel_rfl) (by kernel_rfl)) ?_
  intro W base args ds gs before hval0 hW _ _
  have hval : ∀ (j : Nat) t v, Try.f8.params[j]? = some t → args[j]? = some v → Value.okWide Try.prog W .any base t v := hval0
  have hW' := hW
  obtain ⟨p, q, hA0, hV, rfl, hfz, hnd⟩ := hW
  have hA : DataW.TrodAll enc Try.prog W 0 (fun _ => true) true Try.f8.params.toList args.toList ds p := hA0
  rw [Try.params8] at hA hval
  obtain ⟨v0, v1, v2, v3, d0, d1, d2, d3, p0, p1, p2, p3, rfl, rfl, rfl, h0, h1, h2, h3⟩ := trodAll_four hA
  obtain ⟨rfl, rfl⟩ := trodVars_none hV
  obtain ⟨A, cap, xs, rfl, hl, hcap, hT⟩ := open_pairs Try.underlying32 Try.underlying35 (by kernel_rfl) rfl rfl (by kernel_rfl) (by kernel_rfl) Try.underlying3 Try.underlying3 (hval 0 32 v0 rfl rfl) h0
  obtain ⟨B, R, gA, gc, gs', sA, sc, ss, rfl, hB, hR, hg1, hs1, ug, us, sl⟩ := open_draft (hval 1 25 v1 rfl rfl) h1
  obtain ⟨sr, sl', rfl, _, _⟩ := open_two Try.underlying54 (by kernel_rfl) (by kernel_rfl) Try.underlying3 Try.underlying3 (hval 2 54 v2 rfl rfl) h2
  obtain ⟨zs, hz, rfl, _, _, wz⟩ := open_arr Try.underlying64 Try.underlying22 (by kernel_rfl) (by kernel_rfl) (hval 3 64 v3 rfl rfl) h3
  obtain ⟨n0, n1, rfl⟩ := list2 hz
  clear hA0 hval0
  refine (drains_law xs A cap (min xs.length 40) B R gA gc sA sc gs' ss sr sl' n0 n1 W hl hcap hT rfl hg1 hs1 ug us sl (bounds_u32 (wz _ (by simp))) (bounds_u32 (wz _ (by simp)))).mono fun e W' ⟨he, hg⟩ => ?_
  subst he
  exact ⟨_, rfl, law_post lawTys4_good (List.all_eq_true.1 (by kernel_rfl : (Try.f8.params.toList.all fun t => lawTys4.contains t) = true) |> fun h t ht => List.contains_iff_mem.1 (h t ht)) hW' rfl hg (fun _ _ _ => trodAll_mk1 (shut_bool Try.underlying4 _)) rfl rfl⟩

/-- The given statement. -/
theorem curveDrains_holds : Rows.CurveDrainsSaid :=
  OpenClaim.holds_of_wide 8 Try.f8 rfl rfl rfl rfl rfl rfl rfl ⟨rfl, rfl, rfl, rfl, rfl⟩ rfl rfl rfl rfl rfl (by kernel_rfl) Try.func8 (by kernel_rfl)
    (of_decide_eq_true (by kernel_rfl)) (by unfold Func.isWrapper; first | (rw [if_pos (by decide +kernel)]; kernel_rfl) | (rw [if_neg (by decide +kernel)]; exact ⟨rfl, rfl⟩))
    (fun os started H enc _ => curveDrains_lifted os started H enc)
#print axioms curveDrains_holds

end Go.Proofs.Ytgbbglnbolihfaa
