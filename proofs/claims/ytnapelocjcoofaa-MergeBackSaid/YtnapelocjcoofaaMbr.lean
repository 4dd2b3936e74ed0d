/-
  The given statement MergeBack: for every input the law returns true, and the arguments read as before. No condition.
-/
import Derived.Test.YtnapelocjcoofaaMb
import Derived.Test.YtnapelocjcoofaaMt
namespace Go.Proofs.Ytnapelocjcoofaa
open Go.ChangeShapes Go.WideShapes Go.ChangeAt Go.WideMaps Go.WideElems Go.RowKit Go.ChangeMaps

theorem own_mergeBack : ownKnob Try.prog.godebug = none := by kernel_rfl
set_option maxRecDepth 100000 in
theorem mergeBack_lifted (os : Os) (started : os.Started) (H : Type) (enc : TypeId × Value → H) :
    ReturnsInHanded {} Try.checked os 5 .any (Rows.mergeBackSpec.pre6 enc Try.prog Try.f5 Rows.mergeBackRow.domain false) (Rows.mergeBackSpec.post enc Try.prog Try.f5 false true false false) := by
  refine returnsInHanded_of_change (C := Try.checked) own_mergeBack started (by kernel_rfl) Try.func5
    (ChangeSpec.witness6 (enc := enc) (C := Try.checked) false ⟨#[], #[.agg #[.string ⟨#[]⟩, .int .u16 0, .int .u8 0, .slice none 0 0, .string ⟨#[]⟩, .int .u16 0, .int .u8 0, .slice none 0 0], .int .u8 0], []⟩ 8 (by kernel_rfl) (by kernel_rfl) (by kernel_rfl) (by kernel_rfl)) ?_
  intro W base args ds gs before hval0 hW _ _
  have hval : ∀ (j : Nat) t v, Try.f5.params[j]? = some t → args[j]? = some v → Value.okWide Try.prog W .any base t v := hval0
  have hW' := hW
  obtain ⟨p, q, hA0, hV, rfl, hfz, hnd⟩ := hW
  have hA : DataW.TrodAll enc Try.prog W 0 (fun _ => true) true Try.f5.params.toList args.toList ds p := hA0
  rw [Try.params5] at hA hval
  obtain ⟨v0, v1, d0, d1, p0, p1, rfl, rfl, rfl, h0, h1⟩ := trodAll_two hA
  obtain ⟨rfl, rfl⟩ := trodVars_none hV
  obtain ⟨d, L, N, A, c, us, d', L', N', A', c', us', rfl, ⟨bL, bN, bd, bU, bl⟩, ⟨bL', bN', bd', bU', bl'⟩⟩ := open_two (hval 0 46 v0 rfl rfl) h0
  obtain ⟨zB, rfl, _, _, wB⟩ := open_int Try.underlying5 (hval 1 5 v1 rfl rfl) h1
  obtain ⟨B, rfl, bB⟩ := nat_u8 wB
  clear hA0 hval0
  refine (back_law d L N bL bN A us c bd bl d' L' N' bL' bN' A' us' c' bd' bl' B bB W bU bU').mono fun e W' ⟨he, hg⟩ => ?_
  subst he
  exact ⟨_, rfl, law_post lawTys8_good (List.all_eq_true.1 (by kernel_rfl : (Try.f5.params.toList.all fun t => lawTys8.contains t) = true) |> fun h t ht => List.contains_iff_mem.1 (h t ht)) hW' rfl hg (fun _ _ _ => trodAll_mk1 (shut_bool Try.underlying4 _)) rfl rfl⟩

/-- The given statement. -/
theorem mergeBack_holds : Rows.MergeBackSaid :=
  OpenClaim.holds_of_wide 5 Try.f5 rfl rfl rfl rfl rfl rfl rfl ⟨rfl, rfl, rfl, rfl, rfl⟩ rfl rfl rfl rfl rfl (by kernel_rfl) Try.func5 (by kernel_rfl)
    (of_decide_eq_true (by kernel_rfl)) (by unfold Func.isWrapper; first | (rw [if_pos (by decide +kernel)]; kernel_rfl) | (rw [if_neg (by decide +kernel)]; exact ⟨rfl, rfl⟩))
    (fun os started H enc _ => mergeBack_lifted os started H enc)
#print axioms mergeBack_holds

end Go.Proofs.Ytnapelocjcoofaa
