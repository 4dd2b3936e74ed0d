/-
  The given statement ClockKnown: for every input the law returns true, and the arguments read as before. No condition.
-/
import Derived.Test.YtaekofoonekkkaaTm
import Derived.Test.YtaekofoonekkkaaTt
namespace Go.Proofs.Ytaekofoonekkkaa
open Go.ChangeShapes Go.WideShapes Go.ChangeAt Go.WideMaps Go.WideElems Go.RowKit Go.ChangeMaps

theorem own_clockKnown : ownKnob Try.prog.godebug = none := by kernel_rfl
set_option maxRecDepth 100000 in
theorem clockKnown_lifted (os : Os) (started : os.Started) (H : Type) (enc : TypeId × Value → H) :
    ReturnsInHanded {} Try.checked os 9 .any (Rows.clockKnownSpec.pre6 enc Try.prog Try.f9 Rows.clockKnownRow.domain false) (Rows.clockKnownSpec.post enc Try.prog Try.f9 false true false false) := by
  refine returnsInHanded_of_change (C := Try.checked) own_clockKnown started (by kernel_rfl) Try.func9
    (ChangeSpec.witness6 (enc := enc) (C := Try.checked) false ⟨#[], #[], []⟩ 8 (by kernel_rfl) (by kernel_rfl) (by kernel_rfl) (by kernel_rfl)) ?_
  intro W base args ds gs before _ hW _ _
  have hW' := hW
  obtain ⟨p, q, hA0, hV, rfl, hfz, hnd⟩ := hW
  have hA : DataW.TrodAll enc Try.prog W 0 (fun _ => true) true Try.f9.params.toList args.toList ds p := hA0
  rw [Try.params9] at hA
  obtain ⟨rfl, rfl, rfl⟩ := trodAll_none hA
  obtain ⟨rfl, rfl⟩ := trodVars_none hV
  clear hA0
  refine (known_law W).mono fun e W' ⟨he, hg⟩ => ?_
  subst he
  exact ⟨_, rfl, law_post lawTys9_good (List.all_eq_true.1 (by kernel_rfl : (Try.f9.params.toList.all fun t => lawTys9.contains t) = true) |> fun h t ht => List.contains_iff_mem.1 (h t ht)) hW' rfl hg (fun _ _ _ => trodAll_mk1 (shut_bool Try.underlying4 _)) rfl rfl⟩

/-- The given statement. -/
theorem clockKnown_holds : Rows.ClockKnownSaid :=
  OpenClaim.holds_of_wide 9 Try.f9 rfl rfl rfl rfl rfl rfl rfl ⟨rfl, rfl, rfl, rfl, rfl⟩ rfl rfl rfl rfl rfl (by kernel_rfl) Try.func9 (by kernel_rfl)
    (of_decide_eq_true (by kernel_rfl)) (by unfold Func.isWrapper; first | (rw [if_pos (by decide +kernel)]; kernel_rfl) | (rw [if_neg (by decide +kernel)]; exact ⟨rfl, rfl⟩))
    (fun os started H enc _ => clockKnown_lifted os started H enc)
#print axioms clockKnown_holds

end Go.Proofs.Ytaekofoonekkkaa
