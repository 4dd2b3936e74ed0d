/-
  The first statement of Conforming: a bucket and a trace of a draft.
-/
import Derived.Test.YtajlcagbfebbjaaBs
import Derived.Deep.RegionHeld3
import Derived.Deep.DeepCutAuto
import Derived.Deep.CutBlock
namespace Go.Proofs.Ytajlcagbfebbjaa
open Go.RowKit

theorem Sl.newD {w w' : World} {x y : Int} {t : TypeId} (g : Bl (w.alloc (.cells #[.int .i64 x, .int .i64 y] t)).drew w') : Sl w.heap.size x y w' := (Sl.new w x y t).drew.go g
theorem Sl.newP {w w' : World} {x y : Int} {t : TypeId} (g : Bl (w.alloc (.cells #[.int .i64 x, .int .i64 y] t)) w') : Sl w.heap.size x y w' := (Sl.new w x y t).go g
theorem Tr.setCell {w : World} {A : Option Addr} {xs : List (Int × Int)} (h : Tr w A xs) {a : Nat} (i : Nat) (v : Value) (hne : ∀ b off, A = some ⟨b, off, none⟩ → b ≠ a) : Tr (w.setCell ⟨a, i, none⟩ v) A xs := fun k hk => by
  obtain ⟨b, off, h1, h2, h3, h4⟩ := h k hk
  have n := hne b off h1
  exact ⟨b, off, h1, by simpa [World.setCell] using h2, (World.cell?_setCell_far _ _ _ _ (by simp; omega)).trans h3, (World.cell?_setCell_far _ _ _ _ (by simp; omega)).trans h4⟩

/-- The cells of a draft, and what was there. -/
def D4 (a0 : Nat) (B R : Int) (g s : Value) (W w' : World) : Prop :=
  w'.cell? ⟨a0, 0, none⟩ = some (.int .u32 B) ∧ w'.cell? ⟨a0, 1, none⟩ = some (.int .u32 R) ∧ w'.cell? ⟨a0, 2, none⟩ = some g ∧ w'.cell? ⟨a0, 3, none⟩ = some s ∧ Hid (Bl W w')
section
variable {a0 : Nat} {B R : Int} {g s : Value} {W w1 w2 : World}
theorem D4.step (ha : Hid (a0 < W.heap.size)) (h : w1.cell? ⟨a0, 0, none⟩ = some (.int .u32 B) ∧ w1.cell? ⟨a0, 1, none⟩ = some (.int .u32 R) ∧ w1.cell? ⟨a0, 2, none⟩ = some g ∧ w1.cell? ⟨a0, 3, none⟩ = some s ∧ Hid (Bl W w1)) (k : Bl w1 w2) :
    w2.cell? ⟨a0, 0, none⟩ = some (.int .u32 B) ∧ w2.cell? ⟨a0, 1, none⟩ = some (.int .u32 R) ∧ w2.cell? ⟨a0, 2, none⟩ = some g ∧ w2.cell? ⟨a0, 3, none⟩ = some s ∧ Hid (Bl W w2) := by
  obtain ⟨h0, h1, h2, h3, h4⟩ := h
  have hl : a0 < w1.heap.size := Nat.lt_of_lt_of_le ha.out h4.out.size
  exact ⟨(k.cell (p := ⟨a0, 0, none⟩) hl).trans h0, (k.cell (p := ⟨a0, 1, none⟩) hl).trans h1, (k.cell (p := ⟨a0, 2, none⟩) hl).trans h2, (k.cell (p := ⟨a0, 3, none⟩) hl).trans h3, h4.out.trans k⟩
theorem D4.alloc (ha : Hid (a0 < W.heap.size)) (o : Obj) (h : w1.cell? ⟨a0, 0, none⟩ = some (.int .u32 B) ∧ w1.cell? ⟨a0, 1, none⟩ = some (.int .u32 R) ∧ w1.cell? ⟨a0, 2, none⟩ = some g ∧ w1.cell? ⟨a0, 3, none⟩ = some s ∧ Hid (Bl W w1)) :
    (w1.alloc o).cell? ⟨a0, 0, none⟩ = some (.int .u32 B) ∧ (w1.alloc o).cell? ⟨a0, 1, none⟩ = some (.int .u32 R) ∧ (w1.alloc o).cell? ⟨a0, 2, none⟩ = some g ∧ (w1.alloc o).cell? ⟨a0, 3, none⟩ = some s ∧ Hid (Bl W (w1.alloc o)) := D4.step ha h ((Bl.refl _).alloc o)
theorem D4.dalloc (ha : Hid (a0 < W.heap.size)) (o : Obj) (h : w1.drew.cell? ⟨a0, 0, none⟩ = some (.int .u32 B) ∧ w1.drew.cell? ⟨a0, 1, none⟩ = some (.int .u32 R) ∧ w1.drew.cell? ⟨a0, 2, none⟩ = some g ∧ w1.drew.cell? ⟨a0, 3, none⟩ = some s ∧ Hid (Bl W w1.drew)) :
    (w1.alloc o).drew.cell? ⟨a0, 0, none⟩ = some (.int .u32 B) ∧ (w1.alloc o).drew.cell? ⟨a0, 1, none⟩ = some (.int .u32 R) ∧ (w1.alloc o).drew.cell? ⟨a0, 2, none⟩ = some g ∧ (w1.alloc o).drew.cell? ⟨a0, 3, none⟩ = some s ∧ Hid (Bl W (w1.alloc o).drew) := D4.step (w2 := (w1.alloc o).drew) ha h ((Bl.refl _).alloc o)
theorem D4.drew (h : D4 a0 B R g s W w1) : w1.drew.cell? ⟨a0, 0, none⟩ = some (.int .u32 B) ∧ w1.drew.cell? ⟨a0, 1, none⟩ = some (.int .u32 R) ∧ w1.drew.cell? ⟨a0, 2, none⟩ = some g ∧ w1.drew.cell? ⟨a0, 3, none⟩ = some s ∧ Hid (Bl W w1.drew) :=
  ⟨h.1, h.2.1, h.2.2.1, h.2.2.2.1, Bl.drew h.2.2.2.2.out⟩
theorem D4.set (ha : Hid (a0 < W.heap.size)) {b : Nat} (hb : W.heap.size ≤ b) (u v : Value) (h : w1.cell? ⟨a0, 0, none⟩ = some (.int .u32 B) ∧ w1.cell? ⟨a0, 1, none⟩ = some (.int .u32 R) ∧ w1.cell? ⟨a0, 2, none⟩ = some g ∧ w1.cell? ⟨a0, 3, none⟩ = some s ∧ Hid (Bl W w1)) :
    ((w1.setCell ⟨b, 0, none⟩ u).setCell ⟨b, 1, none⟩ v).cell? ⟨a0, 0, none⟩ = some (.int .u32 B) ∧ ((w1.setCell ⟨b, 0, none⟩ u).setCell ⟨b, 1, none⟩ v).cell? ⟨a0, 1, none⟩ = some (.int .u32 R) ∧ ((w1.setCell ⟨b, 0, none⟩ u).setCell ⟨b, 1, none⟩ v).cell? ⟨a0, 2, none⟩ = some g ∧ ((w1.setCell ⟨b, 0, none⟩ u).setCell ⟨b, 1, none⟩ v).cell? ⟨a0, 3, none⟩ = some s ∧ Hid (Bl W ((w1.setCell ⟨b, 0, none⟩ u).setCell ⟨b, 1, none⟩ v)) := by
  obtain ⟨h0, h1, h2, h3, h4⟩ := h
  have ne : b ≠ a0 := by have := ha.out; omega
  refine ⟨?_, ?_, ?_, ?_, (h4.out.setCell hb u).setCell hb v⟩
  · rw [World.cell?_setCell_far _ _ _ _ ne, World.cell?_setCell_far _ _ _ _ ne]; exact h0
  · rw [World.cell?_setCell_far _ _ _ _ ne, World.cell?_setCell_far _ _ _ _ ne]; exact h1
  · rw [World.cell?_setCell_far _ _ _ _ ne, World.cell?_setCell_far _ _ _ _ ne]; exact h2
  · rw [World.cell?_setCell_far _ _ _ _ ne, World.cell?_setCell_far _ _ _ _ ne]; exact h3
end

/-- What 'b, l := d.Bucket(), d.Trace()' leaves. -/
def MadeBT (W : World) (u R : Int) (ps : List (Int × Int)) (s4 s5 : Value) (wx : World) : Prop :=
  ∃ b A c, s4 = .pointer (some ⟨b, 0, none⟩) ∧ s5 = .slice A ps.length c ∧ ps.length ≤ c ∧ Sl b u R wx ∧ Tr wx A ps ∧ Bl W wx

end Go.Proofs.Ytajlcagbfebbjaa
