/-
  What the slots of a drawn region hold, for the pool law: a value that is told, or a slice of octets in a block of its own.
-/
import Derived.Test.YtmhdgpmlconngaaPl
import Derived.Test.YtmhdgpmlconngaaKj
namespace Go.Proofs.Ytmhdgpmlconngaa
open Go.RowKit Go.Proofs.Ytmhdgpmlconngaa.Cr

/-- The slot of operation i. -/
def slo (b i : Nat) : Nat := b + i
/-- What slot i of a pool holds: a slice of octets l if 'sp i = some l', else 'val i'. -/
def poolR (sp : Nat → Option (List UInt8)) (val : Nat → Value) (i : Nat) (v : Value) (w : World) : Prop := match sp i with
  | some l => ∃ b, v = .slice (some ⟨b, 0, none⟩) l.length l.length ∧ Bs w b l
  | none => v = val i
theorem Bs.keep {w w' : World} {b : Nat} {l : List UInt8} (h : Bs w b l) (g : Bl w w') : Bs w' b l :=
  ⟨Nat.lt_of_lt_of_le h.1 g.size, fun i hi => ⟨(g.cell (p := ⟨b, i, none⟩) h.1).trans (h.2 i hi).1, (g.frozen (p := ⟨b, i, none⟩) h.1).trans (h.2 i hi).2⟩⟩
theorem poolR.go {sp : Nat → Option (List UInt8)} {val : Nat → Value} (i : Nat) (v : Value) (w w' : World) (h : poolR sp val i v w) (g : Bl w w') : poolR sp val i v w' := by
  unfold poolR at *
  split at h
  · obtain ⟨b, h1, h2⟩ := h
    exact ⟨b, h1, h2.keep g⟩
  · exact h
theorem one_in (w : World) (c : Nat) (hc : c < 256) (t : TypeId) : Bs (w.alloc (.cells #[.int .u8 (c : Int)] t)) w.heap.size [UInt8.ofNat c] := by
  refine ⟨by rw [World.size_alloc]; omega, fun i hi => ?_⟩
  obtain rfl : i = 0 := by simpa using hi
  have e : ((UInt8.ofNat c).toNat : Int) = (c : Int) := by rw [UInt8.toNat_ofNat', Nat.mod_eq_of_lt hc]
  constructor
  · show _ = some (Value.int .u8 ((UInt8.ofNat c).toNat : Int))
    rw [e]
    simp [go_sem]
  · simp [go_sem]

end Go.Proofs.Ytmhdgpmlconngaa
