/-
  No cell of these rows narrows 'for every input' (looked for: loops, veiled, ifaces, maps, wideKeys, modest, calm, conditions, laid).
  DERIVED. THE GIVEN ROWS OF THIS SEAT. 7 by the template 'for every input the law returns true; each argument reads behind the call as it read before'; 0 by the template 'total and deterministic' (their statements: YtnapelocjcoofaaTotals.lean).
  GIVEN WITH THE SEED: the statements are not yours to turn. If you find one false, say at which input.
  Laid BY PROGRAM, IN A SANDBOX (cutbox-rows.mjs): the forced cells as the released guide's own fill.sh prints them over the translation 179d5551feede334… (all of the seat's roots in one cut). By AI agents, Wed Nov 11 2026. No macro, syntax, notation, axiom, sorry.
-/
import Derived.Test.YtnapelocjcoofaaChecked
import GoSem.Claim
import GoSem.ClaimJoined
import GoSem.ClaimMapViews
import Derived.JoinedTies
import Derived.KernelRfl
namespace Go.Proofs.Ytnapelocjcoofaa
/- THE CELL 'sum', in the pinned program and in every row, IS THE sha256 OF THE DUMP (.gsa) THAT YtnapelocjcoofaaProg.lean LOADS. Nothing in Lean hashes anything: it is a label: what it is worth is what the hold of that sum in a sandbox is worth. -/
noncomputable def Try.pinned : Pinned := { name := "ytnapelocjcoofaa", sum := "179d5551feede3345d66a14eac0b9aa5f1997461afb4e383e7d12a5f53559a17", checked := Try.checked }
namespace Rows
def none {H : Type} : Left H := { results := [], args := [] }

/-- 'isochronlaw08.MergeCuts': WHATEVER THE INPUT: true; the input reads as it did. -/
def mergeCutsSpec : ChangeSpec := { name := "mergeCuts", fn := fun _ => fun
  | [d1, d2, d3, d4, d5] => { results := [.lit (.bool true)], args := [d1, d2, d3, d4, d5] }
  | _ => none }
def mergeCutsRow : OpenClaim := { program := "ytnapelocjcoofaa", sum := "179d5551feede3345d66a14eac0b9aa5f1997461afb4e383e7d12a5f53559a17", func := "isochron/isochronlaw08.MergeCuts", spec := "mergeCuts", inPlace := ["internal/abi.NoEscape", "internal/bytealg.MakeNoZero"], unfollowed := true, recurses := true, apart := false }
def MergeCutsSaid : Prop := mergeCutsRow.holds Try.pinned (OpenSpec.ofChange mergeCutsSpec)

/-- ITS FALSE NEIGHBOUR: 'it returns false'. Refute it at one input. -/
def mergeCutsWrong : ChangeSpec := { name := "mergeCuts", fn := fun _ => fun
  | [d1, d2, d3, d4, d5] => { results := [.lit (.bool false)], args := [d1, d2, d3, d4, d5] }
  | _ => none }
def MergeCutsWrongFalsely : Prop := mergeCutsRow.holds Try.pinned (OpenSpec.ofChange mergeCutsWrong)

/-- 'isochronlaw08.MergeJoins': WHATEVER THE INPUT: true; the input reads as it did. -/
def mergeJoinsSpec : ChangeSpec := { name := "mergeJoins", fn := fun _ => fun
  | [d1, d2, d3, d4, d5] => { results := [.lit (.bool true)], args := [d1, d2, d3, d4, d5] }
  | _ => none }
def mergeJoinsRow : OpenClaim := { program := "ytnapelocjcoofaa", sum := "179d5551feede3345d66a14eac0b9aa5f1997461afb4e383e7d12a5f53559a17", func := "isochron/isochronlaw08.MergeJoins", spec := "mergeJoins", inPlace := ["internal/abi.NoEscape", "internal/bytealg.MakeNoZero"], unfollowed := true, recurses := true, apart := false }
def MergeJoinsSaid : Prop := mergeJoinsRow.holds Try.pinned (OpenSpec.ofChange mergeJoinsSpec)

/-- ITS FALSE NEIGHBOUR: 'it returns false'. Refute it at one input. -/
def mergeJoinsWrong : ChangeSpec := { name := "mergeJoins", fn := fun _ => fun
  | [d1, d2, d3, d4, d5] => { results := [.lit (.bool false)], args := [d1, d2, d3, d4, d5] }
  | _ => none }
def MergeJoinsWrongFalsely : Prop := mergeJoinsRow.holds Try.pinned (OpenSpec.ofChange mergeJoinsWrong)

/-- 'isochronlaw08.MergeBack': WHATEVER THE INPUT: true; the input reads as it did. -/
def mergeBackSpec : ChangeSpec := { name := "mergeBack", fn := fun _ => fun
  | [d1, d2] => { results := [.lit (.bool true)], args := [d1, d2] }
  | _ => none }
def mergeBackRow : OpenClaim := { program := "ytnapelocjcoofaa", sum := "179d5551feede3345d66a14eac0b9aa5f1997461afb4e383e7d12a5f53559a17", func := "isochron/isochronlaw08.MergeBack", spec := "mergeBack", inPlace := ["internal/abi.NoEscape", "internal/bytealg.MakeNoZero"], unfollowed := true, recurses := true, apart := false }
def MergeBackSaid : Prop := mergeBackRow.holds Try.pinned (OpenSpec.ofChange mergeBackSpec)

/-- ITS FALSE NEIGHBOUR: 'it returns false'. Refute it at one input. -/
def mergeBackWrong : ChangeSpec := { name := "mergeBack", fn := fun _ => fun
  | [d1, d2] => { results := [.lit (.bool false)], args := [d1, d2] }
  | _ => none }
def MergeBackWrongFalsely : Prop := mergeBackRow.holds Try.pinned (OpenSpec.ofChange mergeBackWrong)

/-- 'isochronlaw08.MergeMixed': WHATEVER THE INPUT: true; the input reads as it did. -/
def mergeMixedSpec : ChangeSpec := { name := "mergeMixed", fn := fun _ => fun
  | [d1, d2] => { results := [.lit (.bool true)], args := [d1, d2] }
  | _ => none }
def mergeMixedRow : OpenClaim := { program := "ytnapelocjcoofaa", sum := "179d5551feede3345d66a14eac0b9aa5f1997461afb4e383e7d12a5f53559a17", func := "isochron/isochronlaw08.MergeMixed", spec := "mergeMixed", inPlace := ["internal/abi.NoEscape", "internal/bytealg.MakeNoZero"], unfollowed := true, recurses := true, apart := false }
def MergeMixedSaid : Prop := mergeMixedRow.holds Try.pinned (OpenSpec.ofChange mergeMixedSpec)

/-- ITS FALSE NEIGHBOUR: 'it returns false'. Refute it at one input. -/
def mergeMixedWrong : ChangeSpec := { name := "mergeMixed", fn := fun _ => fun
  | [d1, d2] => { results := [.lit (.bool false)], args := [d1, d2] }
  | _ => none }
def MergeMixedWrongFalsely : Prop := mergeMixedRow.holds Try.pinned (OpenSpec.ofChange mergeMixedWrong)

/-- 'isochronlaw08.MergeSound': WHATEVER THE INPUT: true; the input reads as it did. -/
def mergeSoundSpec : ChangeSpec := { name := "mergeSound", fn := fun _ => fun
  | [d1, d2, d3] => { results := [.lit (.bool true)], args := [d1, d2, d3] }
  | _ => none }
def mergeSoundRow : OpenClaim := { program := "ytnapelocjcoofaa", sum := "179d5551feede3345d66a14eac0b9aa5f1997461afb4e383e7d12a5f53559a17", func := "isochron/isochronlaw08.MergeSound", spec := "mergeSound", inPlace := ["internal/abi.NoEscape", "internal/bytealg.MakeNoZero"], unfollowed := true, recurses := true, apart := false }
def MergeSoundSaid : Prop := mergeSoundRow.holds Try.pinned (OpenSpec.ofChange mergeSoundSpec)

/-- ITS FALSE NEIGHBOUR: 'it returns false'. Refute it at one input. -/
def mergeSoundWrong : ChangeSpec := { name := "mergeSound", fn := fun _ => fun
  | [d1, d2, d3] => { results := [.lit (.bool false)], args := [d1, d2, d3] }
  | _ => none }
def MergeSoundWrongFalsely : Prop := mergeSoundRow.holds Try.pinned (OpenSpec.ofChange mergeSoundWrong)

/-- 'isochronlaw08.MergeDamage': WHATEVER THE INPUT: true; the input reads as it did. -/
def mergeDamageSpec : ChangeSpec := { name := "mergeDamage", fn := fun _ => fun
  | [d1, d2, d3] => { results := [.lit (.bool true)], args := [d1, d2, d3] }
  | _ => none }
def mergeDamageRow : OpenClaim := { program := "ytnapelocjcoofaa", sum := "179d5551feede3345d66a14eac0b9aa5f1997461afb4e383e7d12a5f53559a17", func := "isochron/isochronlaw08.MergeDamage", spec := "mergeDamage", inPlace := ["internal/abi.NoEscape", "internal/bytealg.MakeNoZero"], unfollowed := true, recurses := true, apart := false }
def MergeDamageSaid : Prop := mergeDamageRow.holds Try.pinned (OpenSpec.ofChange mergeDamageSpec)

/-- ITS FALSE NEIGHBOUR: 'it returns false'. Refute it at one input. -/
def mergeDamageWrong : ChangeSpec := { name := "mergeDamage", fn := fun _ => fun
  | [d1, d2, d3] => { results := [.lit (.bool false)], args := [d1, d2, d3] }
  | _ => none }
def MergeDamageWrongFalsely : Prop := mergeDamageRow.holds Try.pinned (OpenSpec.ofChange mergeDamageWrong)

/-- 'isochronlaw08.MergeKnown': WHATEVER THE INPUT: true; the input reads as it did. -/
def mergeKnownSpec : ChangeSpec := { name := "mergeKnown", fn := fun _ => fun
  | [] => { results := [.lit (.bool true)], args := [] }
  | _ => none }
def mergeKnownRow : OpenClaim := { program := "ytnapelocjcoofaa", sum := "179d5551feede3345d66a14eac0b9aa5f1997461afb4e383e7d12a5f53559a17", func := "isochron/isochronlaw08.MergeKnown", spec := "mergeKnown", inPlace := ["internal/abi.NoEscape", "internal/bytealg.MakeNoZero"], unfollowed := true, recurses := true, apart := false }
def MergeKnownSaid : Prop := mergeKnownRow.holds Try.pinned (OpenSpec.ofChange mergeKnownSpec)

/-- ITS FALSE NEIGHBOUR: 'it returns false'. Refute it at one input. -/
def mergeKnownWrong : ChangeSpec := { name := "mergeKnown", fn := fun _ => fun
  | [] => { results := [.lit (.bool false)], args := [] }
  | _ => none }
def MergeKnownWrongFalsely : Prop := mergeKnownRow.holds Try.pinned (OpenSpec.ofChange mergeKnownWrong)

/- THE SECOND FORM. 'bulk': how many values and letters a reading holds, each counted each time it is reached (what is shared counts as often as it is met; a slice's spare places count too). A statement '..UptoSaid' is the law's where the arguments, and the package variables that the reading takes, are together of bulk at most 1048576: NARROWER than '..Said'. Prove '..Said' where nothing that the law and all that it calls make is longer than what came in: it says more and counts as full. Else prove '..UptoSaid'. A law counts once. -/
mutual
def uptoBulk {H : Type} : DataW H → Nat
  | .lit (.string bytes) => bytes.length + 1
  | .lit _ => 1
  | .nil => 1
  | .ptr d => uptoBulk d + 1
  | .slice elems spare => uptoBulkAll elems + uptoBulkAll spare + 1
  | .agg parts => uptoBulkAll parts + 1
  | .iface _ d => uptoBulk d + 1
  | .map entries => uptoBulkEntries entries + 1
  | .held _ => 1
def uptoBulkAll {H : Type} : List (DataW H) → Nat
  | [] => 0
  | d :: r => uptoBulk d + uptoBulkAll r
def uptoBulkEntries {H : Type} : List (Lit × DataW H) → Nat
  | [] => 0
  | x :: r => uptoBulkEntry x + uptoBulkEntries r
def uptoBulkEntry {H : Type} : Lit × DataW H → Nat
  | (.string bytes, d) => bytes.length + uptoBulk d + 1
  | (_, d) => uptoBulk d + 1
 end
def uptoSmall : (H : Type) → List (DataW H) → Bool := fun _ ds => decide (uptoBulkAll ds ≤ 1048576)
def OpenSpec.upto (s : _root_.Go.ChangeSpec) : _root_.Go.OpenSpec := { _root_.Go.OpenSpec.ofChange s with cond := some uptoSmall }

/-- 'isochronlaw08.MergeCuts', WHERE WHAT IT READS IS OF BULK AT MOST 1048576: true; the input reads as it did. -/
def mergeCutsUptoRow : OpenClaim := { program := "ytnapelocjcoofaa", sum := "179d5551feede3345d66a14eac0b9aa5f1997461afb4e383e7d12a5f53559a17", func := "isochron/isochronlaw08.MergeCuts", spec := "mergeCuts", inPlace := ["internal/abi.NoEscape", "internal/bytealg.MakeNoZero"], unfollowed := true, recurses := true, apart := false, narrowed := true }
def MergeCutsUptoSaid : Prop := mergeCutsUptoRow.holds Try.pinned (OpenSpec.upto mergeCutsSpec)

/-- 'isochronlaw08.MergeJoins', WHERE WHAT IT READS IS OF BULK AT MOST 1048576: true; the input reads as it did. -/
def mergeJoinsUptoRow : OpenClaim := { program := "ytnapelocjcoofaa", sum := "179d5551feede3345d66a14eac0b9aa5f1997461afb4e383e7d12a5f53559a17", func := "isochron/isochronlaw08.MergeJoins", spec := "mergeJoins", inPlace := ["internal/abi.NoEscape", "internal/bytealg.MakeNoZero"], unfollowed := true, recurses := true, apart := false, narrowed := true }
def MergeJoinsUptoSaid : Prop := mergeJoinsUptoRow.holds Try.pinned (OpenSpec.upto mergeJoinsSpec)

/-- 'isochronlaw08.MergeBack', WHERE WHAT IT READS IS OF BULK AT MOST 1048576: true; the input reads as it did. -/
def mergeBackUptoRow : OpenClaim := { program := "ytnapelocjcoofaa", sum := "179d5551feede3345d66a14eac0b9aa5f1997461afb4e383e7d12a5f53559a17", func := "isochron/isochronlaw08.MergeBack", spec := "mergeBack", inPlace := ["internal/abi.NoEscape", "internal/bytealg.MakeNoZero"], unfollowed := true, recurses := true, apart := false, narrowed := true }
def MergeBackUptoSaid : Prop := mergeBackUptoRow.holds Try.pinned (OpenSpec.upto mergeBackSpec)

/-- 'isochronlaw08.MergeMixed', WHERE WHAT IT READS IS OF BULK AT MOST 1048576: true; the input reads as it did. -/
def mergeMixedUptoRow : OpenClaim := { program := "ytnapelocjcoofaa", sum := "179d5551feede3345d66a14eac0b9aa5f1997461afb4e383e7d12a5f53559a17", func := "isochron/isochronlaw08.MergeMixed", spec := "mergeMixed", inPlace := ["internal/abi.NoEscape", "internal/bytealg.MakeNoZero"], unfollowed := true, recurses := true, apart := false, narrowed := true }
def MergeMixedUptoSaid : Prop := mergeMixedUptoRow.holds Try.pinned (OpenSpec.upto mergeMixedSpec)

/-- 'isochronlaw08.MergeSound', WHERE WHAT IT READS IS OF BULK AT MOST 1048576: true; the input reads as it did. -/
def mergeSoundUptoRow : OpenClaim := { program := "ytnapelocjcoofaa", sum := "179d5551feede3345d66a14eac0b9aa5f1997461afb4e383e7d12a5f53559a17", func := "isochron/isochronlaw08.MergeSound", spec := "mergeSound", inPlace := ["internal/abi.NoEscape", "internal/bytealg.MakeNoZero"], unfollowed := true, recurses := true, apart := false, narrowed := true }
def MergeSoundUptoSaid : Prop := mergeSoundUptoRow.holds Try.pinned (OpenSpec.upto mergeSoundSpec)

/-- 'isochronlaw08.MergeDamage', WHERE WHAT IT READS IS OF BULK AT MOST 1048576: true; the input reads as it did. -/
def mergeDamageUptoRow : OpenClaim := { program := "ytnapelocjcoofaa", sum := "179d5551feede3345d66a14eac0b9aa5f1997461afb4e383e7d12a5f53559a17", func := "isochron/isochronlaw08.MergeDamage", spec := "mergeDamage", inPlace := ["internal/abi.NoEscape", "internal/bytealg.MakeNoZero"], unfollowed := true, recurses := true, apart := false, narrowed := true }
def MergeDamageUptoSaid : Prop := mergeDamageUptoRow.holds Try.pinned (OpenSpec.upto mergeDamageSpec)

/-- 'isochronlaw08.MergeKnown', WHERE WHAT IT READS IS OF BULK AT MOST 1048576: true; the input reads as it did. -/
def mergeKnownUptoRow : OpenClaim := { program := "ytnapelocjcoofaa", sum := "179d5551feede3345d66a14eac0b9aa5f1997461afb4e383e7d12a5f53559a17", func := "isochron/isochronlaw08.MergeKnown", spec := "mergeKnown", inPlace := ["internal/abi.NoEscape", "internal/bytealg.MakeNoZero"], unfollowed := true, recurses := true, apart := false, narrowed := true }
def MergeKnownUptoSaid : Prop := mergeKnownUptoRow.holds Try.pinned (OpenSpec.upto mergeKnownSpec)

end Rows
end Go.Proofs.Ytnapelocjcoofaa
