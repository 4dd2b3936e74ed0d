/-
  The given statement CurveJoins: for every input the law returns true, and the arguments read as before. No condition.
-/
import Derived.Test.YtgbbglnbolihfaaCm
import Derived.Test.YtgbbglnbolihfaaCt
import Derived.Test.YtgbbglnbolihfaaRt2
namespace Go.Proofs.Ytgbbglnbolihfaa
open Go.ChangeShapes Go.WideShapes Go.ChangeAt Go.WideMaps Go.WideElems Go.RowKit

theorem own_curveJoins : ownKnob Try.prog.godebug = none := by kernel_rfl
set_option maxRecDepth 100000 in
theorem curveJoins_lifted (os : Os) (started : os.Started) (H : Type) (enc : TypeId × Value → H) :
    ReturnsInHanded {} Try.checked os 13 .any (Rows.curveJoinsSpec.pre6 enc Try.prog Try.f13 Rows.curveJoinsRow.domain false) (Rows.curveJoinsSpec.post enc Try.prog Try.f13 false true false false) := by
  refine returnsInHanded_of_change (C := Try.checked) own_curveJoins started (by kernel_rfl) Try.func13
    (ChangeSpec.witness6 (enc := enc) (C := Try.checked) false ⟨#[], #[.agg #[.int .u32 0, .int .u32 0, .slice none 0 0, .slice none 0 0], .agg #[.int .u32 0, .int .u32 0], .agg #[.int .u16 0, .int .u16 0]], []⟩ 8 (by kernel_rfl) (by kernel_rfl) (by kernel_rfl) (by kernel_rfl)) ?_
  intro W base args ds gs before hval0 hW _ _
  have hval : ∀ (j : Nat) t v, Try.f13.params[j]? = some t → args[j]? = some v → Value.okWide Try.prog W .any base t v := hval0
  have hW' := hW
  obtain ⟨p, q, hA0, hV, rfl, hfz, hnd⟩ := hW
  have hA : DataW.TrodAll enc Try.prog W 0 (fun _ => true) true Try.f13.params.toList args.toList ds p := hA0
  rw [Try.params13] at hA hval
  obtain ⟨v0, v1, v2, d0, d1, d2, p0, p1, p2, rfl, rfl, rfl, h0, h1, h2⟩ := trodAll_three hA
  obtain ⟨rfl, rfl⟩ := trodVars_none hV
  obtain ⟨B, R, gA, gc, gs, sA, sc, ss, rfl, hB, hR, hg1, hs1, ug, us, sl⟩ := open_draft (hval 0 25 v0 rfl rfl) h0
  obtain ⟨zs, hz, rfl, _, _, wz⟩ := open_arr Try.underlying64 Try.underlying22 (by kernel_rfl) (by kernel_rfl) (hval 1 64 v1 rfl rfl) h1
  obtain ⟨ys, hy, rfl, _, _, wy⟩ := open_arr Try.underlying85 Try.underlying79 (by kernel_rfl) (by kernel_rfl) (hval 2 85 v2 rfl rfl) h2
  obtain ⟨m, m', rfl⟩ := list2 hz
  obtain ⟨l, l', rfl⟩ := list2 hy
  clear hA0 hval0
  refine (joins_law B R gA gc sA sc gs ss m m' l l' W hB hR (bounds_u32 (wz _ (by simp))) (bounds_u32 (wz _ (by simp))) (bounds_u16 (wy _ (by simp))) (bounds_u16 (wy _ (by simp)))).mono fun e W' ⟨he, hg⟩ => ?_
  subst he
  exact ⟨_, rfl, law_post lawTys4_good (List.all_eq_true.1 (by kernel_rfl : (Try.f13.params.toList.all fun t => lawTys4.contains t) = true) |> fun h t ht => List.contains_iff_mem.1 (h t ht)) hW' rfl hg (fun _ _ _ => trodAll_mk1 (shut_bool Try.underlying4 _)) rfl rfl⟩

/-- The given statement. -/
theorem curveJoins_holds : Rows.CurveJoinsSaid :=
  OpenClaim.holds_of_wide 13 Try.f13 rfl rfl rfl rfl rfl rfl rfl ⟨rfl, rfl, rfl, rfl, rfl⟩ rfl rfl rfl rfl rfl (by kernel_rfl) Try.func13 (by kernel_rfl)
    (of_decide_eq_true (by kernel_rfl)) (by unfold Func.isWrapper; first | (rw [if_pos (by decide +kernel)]; kernel_rfl) | (rw [if_neg (by decide +kernel)]; exact ⟨rfl, rfl⟩))
    (fun os started H enc _ => curveJoins_lifted os started H enc)
#print axioms curveJoins_holds

end Go.Proofs.Ytgbbglnbolihfaa
