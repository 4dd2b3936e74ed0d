/-
  Of no program: a block of two integers of one's own; what 'a, b := f(..), g(..)' of two structs of two integers leaves, in whatever order Go carries it out (over Bb's Bl).
-/
import Derived.Test.YtaekofoonekkkaaTk
namespace Go.Proofs.Ytaekofoonekkkaa
open Go.RowKit

/-- A block of two integers of the call's own. -/
structure Sl (a : Nat) (x y : Int) (w : World) : Prop where
  c0 : w.cell? ⟨a, 0, none⟩ = some (.int .i64 x)
  c1 : w.cell? ⟨a, 1, none⟩ = some (.int .i64 y)
  f0 : w.frozen? ⟨a, 0, none⟩ = false
  f1 : w.frozen? ⟨a, 1, none⟩ = false
  lt : a < w.heap.size
theorem Sl.new (w : World) (x y : Int) (t : TypeId) : Sl w.heap.size x y (w.alloc (.cells #[.int .i64 x, .int .i64 y] t)) :=
  ⟨by simp [go_sem], by simp [go_sem], by simp [go_sem], by simp [go_sem], by simp⟩
theorem Sl.go {a : Nat} {x y : Int} {w w' : World} (h : Sl a x y w) (g : Bl w w') : Sl a x y w' :=
  ⟨(g.cell (p := ⟨a, 0, none⟩) h.lt).trans h.c0, (g.cell (p := ⟨a, 1, none⟩) h.lt).trans h.c1, (g.frozen (p := ⟨a, 0, none⟩) h.lt).trans h.f0, (g.frozen (p := ⟨a, 1, none⟩) h.lt).trans h.f1, Nat.lt_of_lt_of_le h.lt g.size⟩
theorem Sl.far {a b : Nat} {x y : Int} {w : World} (h : Sl a x y w) (hne : a ≠ b) (i : Nat) (v : Value) : Sl a x y (w.setCell ⟨b, i, none⟩ v) :=
  ⟨(World.cell?_setCell_other w ⟨b, i, none⟩ ⟨a, 0, none⟩ v (by simp <;> omega)).trans h.c0, (World.cell?_setCell_other w ⟨b, i, none⟩ ⟨a, 1, none⟩ v (by simp <;> omega)).trans h.c1, by rw [World.frozen?_setCell]; exact h.f0, by rw [World.frozen?_setCell]; exact h.f1, by simpa [World.setCell] using h.lt⟩
theorem Sl.set0 {a : Nat} {x y : Int} {w : World} (h : Sl a x y w) (z : Int) : Sl a z y (w.setCell ⟨a, 0, none⟩ (.int .i64 z)) :=
  ⟨World.cell?_setCell_same' _ _ _ (by rw [h.c0]; rfl), (World.cell?_setCell_other w ⟨a, 0, none⟩ ⟨a, 1, none⟩ _ (by simp)).trans h.c1, by rw [World.frozen?_setCell]; exact h.f0, by rw [World.frozen?_setCell]; exact h.f1, by simpa [World.setCell] using h.lt⟩
theorem Sl.set1 {a : Nat} {x y : Int} {w : World} (h : Sl a x y w) (z : Int) : Sl a x z (w.setCell ⟨a, 1, none⟩ (.int .i64 z)) :=
  ⟨(World.cell?_setCell_other w ⟨a, 1, none⟩ ⟨a, 0, none⟩ _ (by simp)).trans h.c0, World.cell?_setCell_same' _ _ _ (by rw [h.c1]; rfl), by rw [World.frozen?_setCell]; exact h.f0, by rw [World.frozen?_setCell]; exact h.f1, by simpa [World.setCell] using h.lt⟩
theorem Sl.drew {a : Nat} {x y : Int} {w : World} (h : Sl a x y w) : Sl a x y w.drew := ⟨h.c0, h.c1, h.f0, h.f1, h.lt⟩
theorem Sl.newD {w w' : World} {x y : Int} {t : TypeId} (g : Bl (w.alloc (.cells #[.int .i64 x, .int .i64 y] t)).drew w') : Sl w.heap.size x y w' := (Sl.new w x y t).drew.go g
theorem Sl.newP {w w' : World} {x y : Int} {t : TypeId} (g : Bl (w.alloc (.cells #[.int .i64 x, .int .i64 y] t)) w') : Sl w.heap.size x y w' := (Sl.new w x y t).go g
theorem Sl.newP2 {w w' : World} {x y x' y' : Int} {t t' : TypeId} (g : Bl ((w.alloc (.cells #[.int .i64 x, .int .i64 y] t)).alloc (.cells #[.int .i64 x', .int .i64 y'] t')) w') : Sl w.heap.size x y w' ∧ Sl (w.heap.size + 1) x' y' w' := by
  have h := Sl.new (w.alloc (.cells #[.int .i64 x, .int .i64 y] t)) x' y' t'
  rw [World.size_alloc] at h
  exact ⟨((Sl.new w x y t).go ((Bl.refl _).alloc _)).go g, h.go g⟩
theorem Sl.newD2 {w w' : World} {x y x' y' : Int} {t t' : TypeId} (g : Bl ((w.alloc (.cells #[.int .i64 x, .int .i64 y] t)).alloc (.cells #[.int .i64 x', .int .i64 y'] t')).drew w') : Sl w.heap.size x y w' ∧ Sl (w.heap.size + 1) x' y' w' := Sl.newP2 (t := t) (t' := t') (Bl.trans (Bl.drew (Bl.refl _)) g)
/-- What 'a, b := d[0].Bucket(), d[1].Bucket()' leaves. -/
def MadeAB (W : World) (u R v Q : Int) (s5 s6 : Value) (wx : World) : Prop :=
  ∃ b c, s5 = .pointer (some ⟨b, 0, none⟩) ∧ s6 = .pointer (some ⟨c, 0, none⟩) ∧ b ≠ c ∧ Sl b u R wx ∧ Sl c v Q wx ∧ W.heap.size ≤ b ∧ W.heap.size ≤ c ∧ Bl W wx
theorem made_aft {W wb : World} {u R v Q : Int} {t t' : TypeId} (g : Hid (Bl W wb)) : Hid (MadeAB W u R v Q (.pointer (some ⟨wb.heap.size, 0, none⟩)) (.pointer (some ⟨wb.heap.size + 1, 0, none⟩)) ((wb.alloc (.cells #[.int .i64 u, .int .i64 R] t)).alloc (.cells #[.int .i64 v, .int .i64 Q] t'))) := by
  have h := Sl.newP2 (Bl.refl ((wb.alloc (.cells #[.int .i64 u, .int .i64 R] t)).alloc (.cells #[.int .i64 v, .int .i64 Q] t')))
  have hs := g.out.size
  exact ⟨_, _, rfl, rfl, by omega, h.1, h.2, hs, by omega, (g.out.alloc _).alloc _⟩
theorem made_aft' {W wb : World} {u R v Q : Int} {t t' : TypeId} (g : Hid (Bl W wb)) : Hid (MadeAB W u R v Q (.pointer (some ⟨wb.heap.size + 1, 0, none⟩)) (.pointer (some ⟨wb.heap.size, 0, none⟩)) ((wb.alloc (.cells #[.int .i64 v, .int .i64 Q] t)).alloc (.cells #[.int .i64 u, .int .i64 R] t'))) := by
  have h := Sl.newP2 (Bl.refl ((wb.alloc (.cells #[.int .i64 v, .int .i64 Q] t)).alloc (.cells #[.int .i64 u, .int .i64 R] t')))
  have hs := g.out.size
  exact ⟨_, _, rfl, rfl, by omega, h.2, h.1, by omega, hs, (g.out.alloc _).alloc _⟩
theorem made_mix {W wb : World} {b : Nat} {x y u R v Q : Int} {t : TypeId} (g : Hid (Bl W wb)) (h : Sl b x y wb) (hb : W.heap.size ≤ b) : Hid (MadeAB W u R v Q (.pointer (some ⟨b, 0, none⟩)) (.pointer (some ⟨wb.heap.size, 0, none⟩)) (((wb.setCell ⟨b, 0, none⟩ (.int .i64 u)).setCell ⟨b, 1, none⟩ (.int .i64 R)).alloc (.cells #[.int .i64 v, .int .i64 Q] t))) := by
  have h2 := (h.set0 u).set1 R
  have hn := Sl.new ((wb.setCell ⟨b, 0, none⟩ (.int .i64 u)).setCell ⟨b, 1, none⟩ (.int .i64 R)) v Q t
  have e : ((wb.setCell ⟨b, 0, none⟩ (.int .i64 u)).setCell ⟨b, 1, none⟩ (.int .i64 R)).heap.size = wb.heap.size := by simp [World.setCell]
  rw [e] at hn
  exact ⟨_, _, rfl, rfl, Nat.ne_of_lt h.lt, h2.go ((Bl.refl _).alloc _), hn, hb, g.out.size, ((g.out.setCell hb _).setCell hb _).alloc _⟩
theorem made_mix' {W wb : World} {b : Nat} {x y u R v Q : Int} {t : TypeId} (g : Hid (Bl W wb)) (h : Sl b x y wb) (hb : W.heap.size ≤ b) : Hid (MadeAB W u R v Q (.pointer (some ⟨wb.heap.size, 0, none⟩)) (.pointer (some ⟨b, 0, none⟩)) (((wb.setCell ⟨b, 0, none⟩ (.int .i64 v)).setCell ⟨b, 1, none⟩ (.int .i64 Q)).alloc (.cells #[.int .i64 u, .int .i64 R] t))) := by
  obtain ⟨b1, c1, e1, e2, h1, h2, h3, h4, h5, h6⟩ := (made_mix (u := v) (R := Q) (v := u) (Q := R) (t := t) g h hb).out
  exact ⟨c1, b1, e2, e1, Ne.symm h1, h3, h2, h5, h4, h6⟩
theorem made_bef {W wb : World} {b c : Nat} {x y x' y' u R v Q : Int} (g : Hid (Bl W wb)) (h : Sl b x y wb) (k : Sl c x' y' wb) (hbc : b ≠ c) (hb : W.heap.size ≤ b) (hc : W.heap.size ≤ c) : Hid (MadeAB W u R v Q (.pointer (some ⟨b, 0, none⟩)) (.pointer (some ⟨c, 0, none⟩)) ((((wb.setCell ⟨b, 0, none⟩ (.int .i64 u)).setCell ⟨b, 1, none⟩ (.int .i64 R)).setCell ⟨c, 0, none⟩ (.int .i64 v)).setCell ⟨c, 1, none⟩ (.int .i64 Q))) :=
  ⟨_, _, rfl, rfl, hbc, ((((h.set0 u).set1 R).far hbc 0 _).far hbc 1 _), ((((k.far (Ne.symm hbc) 0 _).far (Ne.symm hbc) 1 _).set0 v).set1 Q), hb, hc, (((g.out.setCell hb _).setCell hb _).setCell hc _).setCell hc _⟩

end Go.Proofs.Ytaekofoonekkkaa
