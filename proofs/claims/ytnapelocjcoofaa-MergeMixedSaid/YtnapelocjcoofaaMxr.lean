/-
  The given statement MergeMixed: for every input the law returns true, and the arguments read as before. No condition.
-/
import Derived.Test.YtnapelocjcoofaaMx
import Derived.Test.YtnapelocjcoofaaMt
namespace Go.Proofs.Ytnapelocjcoofaa
open Go.ChangeShapes Go.WideShapes Go.ChangeAt Go.WideMaps Go.WideElems Go.RowKit Go.ChangeMaps

theorem own_mergeMixed : ownKnob Try.prog.godebug = none := by kernel_rfl
set_option maxHeartbeats 4000000 in
set_option maxRecDepth 100000 in
theorem mergeMixed_lifted (os : Os) (started : os.Started) (H : Type) (enc : TypeId × Value → H) :
    ReturnsInHanded {} Try.checked os 6 .any (Rows.mergeMixedSpec.pre6 enc Try.prog Try.f6 Rows.mergeMixedRow.domain false) (Rows.mergeMixedSpec.post enc Try.prog Try.f6 false true false false) := by
  refine returnsInHanded_of_change (C := Try.checked) own_mergeMixed started (by kernel_rfl) Try.func6
    (ChangeSpec.witness6 (enc := enc) (C := Try.checked) false ⟨#[], #[.agg #[.string ⟨#[]⟩, .int .u16 0, .int .u8 0, .slice none 0 0, .string ⟨#[]⟩, .int .u16 0, .int .u8 0, .slice none 0 0, .string ⟨#[]⟩, .int .u16 0, .int .u8 0, .slice none 0 0, .string ⟨#[]⟩, .int .u16 0, .int .u8 0, .slice none 0 0], .slice none 0 0], []⟩ 8 (by kernel_rfl) (by kernel_rfl) (by kernel_rfl) (by kernel_rfl)) ?_
  intro W base args ds gs before hval0 hW _ _
  have hval : ∀ (j : Nat) t v, Try.f6.params[j]? = some t → args[j]? = some v → Value.okWide Try.prog W .any base t v := hval0
  have hW' := hW
  obtain ⟨p, q, hA0, hV, rfl, hfz, hnd⟩ := hW
  have hA : DataW.TrodAll enc Try.prog W 0 (fun _ => true) true Try.f6.params.toList args.toList ds p := hA0
  rw [Try.params6] at hA hval
  obtain ⟨v0, v1, d0, d1, p0, p1, rfl, rfl, rfl, h0, h1⟩ := trodAll_two hA
  obtain ⟨rfl, rfl⟩ := trodVars_none hV
  obtain ⟨d, L, N, A, c, us, rfl, HD⟩ := open_four (hval 0 59 v0 rfl rfl) h0
  obtain ⟨f1, hf1⟩ := h1
  obtain ⟨a1, n1, m1, rfl⟩ := okWide_slice Try.underlying23 (hval 1 23 v1 rfl rfl)
  obtain ⟨B, e, os, e1, bO, bo⟩ := open_u8s hf1
  simp only [Value.slice.injEq] at e1
  obtain ⟨rfl, rfl, rfl⟩ := e1
  clear hA0 hval0
  refine (mixed_law d L N A c us (fun i hi => ⟨(HD i hi).1, (HD i hi).2.1, (HD i hi).2.2.1, (HD i hi).2.2.2.2⟩) a1 os m1 bo W (fun i hi => (HD i hi).2.2.2.1) bO).mono fun e W' ⟨he, hg⟩ => ?_
  subst he
  exact ⟨_, rfl, law_post lawTys8_good (List.all_eq_true.1 (by kernel_rfl : (Try.f6.params.toList.all fun t => lawTys8.contains t) = true) |> fun h t ht => List.contains_iff_mem.1 (h t ht)) hW' rfl hg (fun _ _ _ => trodAll_mk1 (shut_bool Try.underlying4 _)) rfl rfl⟩

/-- The given statement. -/
theorem mergeMixed_holds : Rows.MergeMixedSaid :=
  OpenClaim.holds_of_wide 6 Try.f6 rfl rfl rfl rfl rfl rfl rfl ⟨rfl, rfl, rfl, rfl, rfl⟩ rfl rfl rfl rfl rfl (by kernel_rfl) Try.func6 (by kernel_rfl)
    (of_decide_eq_true (by kernel_rfl)) (by unfold Func.isWrapper; first | (rw [if_pos (by decide +kernel)]; kernel_rfl) | (rw [if_neg (by decide +kernel)]; exact ⟨rfl, rfl⟩))
    (fun os started H enc _ => mergeMixed_lifted os started H enc)
#print axioms mergeMixed_holds

end Go.Proofs.Ytnapelocjcoofaa
