/-
  What bent of the law's package returns: the trace with one arrival replaced.
-/
import Derived.Test.YtgbbglnbolihfaaBv
import Derived.BigRegion
namespace Go.Proofs.Ytgbbglnbolihfaa
open Go.RowKit

def bentL (xs : List (Int × Int)) (x y t : Int) : List (Int × Int) := xs.set (t.toNat % xs.length) (x, y)
theorem bentL_len (xs : List (Int × Int)) (x y t : Int) : (bentL xs x y t).length = xs.length := by simp [bentL]
theorem bent_at (xs : List (Int × Int)) (x y t : Int) (j : Nat) (h : j < xs.length) : (j = t.toNat % xs.length ∧ fs (bentL xs x y t) j = x ∧ sn (bentL xs x y t) j = y) ∨ (j ≠ t.toNat % xs.length ∧ fs (bentL xs x y t) j = fs xs j ∧ sn (bentL xs x y t) j = sn xs j) := by
  unfold fs sn bentL
  by_cases e : j = t.toNat % xs.length
  · refine .inl ⟨e, ?_⟩
    rw [← e]
    simp [List.getD_eq_getElem?_getD, h]
  · refine .inr ⟨e, ?_⟩
    simp [List.getD_eq_getElem?_getD, List.getElem?_set_ne (Ne.symm e)]

theorem Tr.set {w : World} {g k : Nat} {xs : List (Int × Int)} {x y t : Int} (h : Tr w (some ⟨g, 0, none⟩) xs) (hk : k < xs.length) (e : k = t.toNat % xs.length) :
    Tr ((w.setCell ⟨g, k * 2, none⟩ (.int .i64 x)).setCell ⟨g, k * 2 + 1, none⟩ (.int .i64 y)).drew (some ⟨g, 0, none⟩) (bentL xs x y t) := fun j hj => by
  rw [bentL_len] at hj
  obtain ⟨b, off, e1, hb, h0, h1⟩ := h j hj
  injection e1 with e1
  injection e1 with e1 e2
  subst e1 e2
  rw [Nat.zero_add] at h0 h1
  obtain ⟨_, _, _, _, q0, q1⟩ := h k hk
  rename_i b' o' e3 _
  injection e3 with e3
  injection e3 with e3 e4
  subst e3 e4
  rw [Nat.zero_add] at q0 q1
  refine ⟨g, 0, rfl, by simpa [World.setCell] using hb, ?_, ?_⟩
  · show ((w.setCell ⟨g, k * 2, none⟩ (.int .i64 x)).setCell ⟨g, k * 2 + 1, none⟩ (.int .i64 y)).cell? _ = _
    rw [Nat.zero_add]
    rcases bent_at xs x y t j hj with ⟨ej, f1, _⟩ | ⟨ej, f1, _⟩
    · rw [← e] at ej
      subst ej
      rw [f1, World.cell?_setCell_other _ _ _ _ (by simp)]
      exact World.cell?_setCell_same _ _ _ q0
    · rw [← e] at ej
      rw [f1, World.cell?_setCell_other _ _ _ _ (by simp <;> omega), World.cell?_setCell_other _ _ _ _ (by simp <;> omega)]
      exact h0
  · show ((w.setCell ⟨g, k * 2, none⟩ (.int .i64 x)).setCell ⟨g, k * 2 + 1, none⟩ (.int .i64 y)).cell? _ = _
    rw [Nat.zero_add]
    rcases bent_at xs x y t j hj with ⟨ej, _, f2⟩ | ⟨ej, _, f2⟩
    · rw [← e] at ej
      subst ej
      rw [f2]
      exact World.cell?_setCell_same _ _ _ ((World.cell?_setCell_other _ _ _ _ (by simp)).trans q1)
    · rw [← e] at ej
      rw [f2, World.cell?_setCell_other _ _ _ _ (by simp <;> omega), World.cell?_setCell_other _ _ _ _ (by simp <;> omega)]
      exact h1
theorem keepX {w1 : World} {a g i j : Nat} {x y u v : Value} (h0 : w1.cell? ⟨a, 0, none⟩ = some x) (h1 : w1.cell? ⟨a, 1, none⟩ = some y) (hne : a < g) :
    ((w1.setCell ⟨g, i, none⟩ u).setCell ⟨g, j, none⟩ v).drew.cell? ⟨a, 0, none⟩ = some x ∧ ((w1.setCell ⟨g, i, none⟩ u).setCell ⟨g, j, none⟩ v).drew.cell? ⟨a, 1, none⟩ = some y := by
  have n : g ≠ a := by omega
  constructor
  · show ((w1.setCell ⟨g, i, none⟩ u).setCell ⟨g, j, none⟩ v).cell? _ = _
    rw [World.cell?_setCell_far _ _ _ _ n, World.cell?_setCell_far _ _ _ _ n]; exact h0
  · show ((w1.setCell ⟨g, i, none⟩ u).setCell ⟨g, j, none⟩ v).cell? _ = _
    rw [World.cell?_setCell_far _ _ _ _ n, World.cell?_setCell_far _ _ _ _ n]; exact h1
theorem lit4 (w : World) (e : TypeId) (o : Obj) : ((w.alloc o).alloc (.cells #[] e)).ownsRow w.heap.size e 2 (.slice (some ⟨w.heap.size + 1, 0, none⟩) 0 0) 0 [] := lit3 w e o

end Go.Proofs.Ytgbbglnbolihfaa
