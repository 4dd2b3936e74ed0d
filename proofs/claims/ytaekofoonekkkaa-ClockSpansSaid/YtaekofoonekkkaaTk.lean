/-
  Of no program: values in a block of one's own (over Bb's Bl).
-/
import Derived.Test.YtaekofoonekkkaaBb
import Derived.Laws.OwnMore
import Derived.Deep.RegionHeld3
namespace Go.Proofs.Ytaekofoonekkkaa
open Go.RowKit

theorem cell_lt {w : World} {b i : Nat} {v : Value} (h : w.cell? ⟨b, i, none⟩ = some v) : b < w.heap.size := by
  rcases Nat.lt_or_ge b w.heap.size with hlt | hge
  · exact hlt
  · exfalso
    have e : w.heap[b]? = none := Array.getElem?_eq_none hge
    unfold World.cell? at h
    simp [e] at h

/-- In block c lie the cells vs. -/
def Bk (w : World) (c : Nat) (vs : List Value) : Prop := c < w.heap.size ∧ ∀ i, i < vs.length → w.cell? ⟨c, i, none⟩ = some (vs.getD i undef) ∧ w.frozen? ⟨c, i, none⟩ = false
theorem Bk.new (w : World) (vs : List Value) (t : TypeId) : Bk (w.alloc (.cells vs.toArray t)) w.heap.size vs := by
  refine ⟨by rw [World.size_alloc]; omega, fun i hi => ?_⟩
  have hg := heap_alloc_new w (.cells vs.toArray t)
  refine ⟨?_, frozen_of_row _ _ _ _ _ hg⟩
  rw [cell_of_row _ _ _ _ _ _ hg]
  simp [hi]
theorem Bk.set {w : World} {c : Nat} {vs us : List Value} (h : Bk w c vs) {i : Nat} (hi : i < vs.length) (x : Value) (e : vs.set i x = us) : Bk (w.setCell ⟨c, i, none⟩ x) c us := by
  subst e
  refine ⟨by rw [World.size_setCell]; exact h.1, fun j hj => ⟨?_, by rw [World.frozen?_setCell]; exact (h.2 j (by simpa using hj)).2⟩⟩
  have hj' : j < vs.length := by simpa using hj
  by_cases e : j = i
  · subst e
    rw [World.cell?_setCell_same _ _ _ (h.2 j hi).1]
    simp [hi]
  · rw [World.cell?_setCell_other _ _ _ _ (by intro h'; injection h' with _ h'; omega)]
    rw [(h.2 j hj').1]
    simp [List.getD_eq_getElem?_getD, List.getElem?_set_ne (Ne.symm e)]
theorem Bk.far {w : World} {c : Nat} {vs : List Value} (h : Bk w c vs) {p : Addr} (hp : p.block ≠ c) (x : Value) : Bk (w.setCell p x) c vs :=
  ⟨by rw [World.size_setCell]; exact h.1, fun j hj => ⟨by rw [World.cell?_setCell_other _ _ _ _ (by intro h'; exact hp (by rw [h']))]; exact (h.2 j hj).1, by rw [World.frozen?_setCell]; exact (h.2 j hj).2⟩⟩
theorem Bk.bl {w w' : World} {c : Nat} {vs : List Value} (h : Bk w c vs) (g : Bl w w') : Bk w' c vs :=
  ⟨Nat.lt_of_lt_of_le h.1 g.size, fun i hi => ⟨(g.cell (p := ⟨c, i, none⟩) h.1).trans (h.2 i hi).1, (g.frozen (p := ⟨c, i, none⟩) h.1).trans (h.2 i hi).2⟩⟩
theorem Bk.alloc {w : World} {c : Nat} {vs : List Value} (h : Bk w c vs) (o : Obj) : Bk (w.alloc o) c vs := h.bl ((Bl.refl w).alloc o)
theorem Bk.drew {w : World} {c : Nat} {vs : List Value} (h : Bk w c vs) : Bk w.drew c vs := h
theorem Bk.at {w : World} {c : Nat} {vs : List Value} (h : Bk w c vs) (i : Nat) (hi : i < vs.length) {v : Value} (e : vs.getD i undef = v) : w.cell? ⟨c, i, none⟩ = some v := by rw [(h.2 i hi).1, e]
theorem Bk.fr {w : World} {c : Nat} {vs : List Value} (h : Bk w c vs) (i : Nat) (hi : i < vs.length) : w.frozen? ⟨c, i, none⟩ = false := (h.2 i hi).2

end Go.Proofs.Ytaekofoonekkkaa
