/-
  What between, Check of package bucket and Right, Check of its reference return; words for slices of pairs of integers.
-/
import Derived.Test.YtaekofoonekkkaaRows
import Derived.Test.YtaekofoonekkkaaBa
import Derived.WalkKit
import Derived.WalkSpells
import Derived.WalkLawsBesides
import Derived.Lib.Hide
import Derived.Deep.QuietTactic
import Derived.BigQuiet
import Derived.IntWalk
import Derived.Below
namespace Go.Proofs.Ytaekofoonekkkaa
open Go.RowKit

theorem ret_int {k : IntKind} {a b : Int} (h : a = b) : Ending.returned (.int k a) = .returned (.int k b) := by rw [h]
theorem ret_bool {a b : Bool} (h : a = b) : Ending.returned (.bool a) = .returned (.bool b) := by rw [h]
theorem bcase (b : Bool) : b = true ∨ b = false := by cases b <;> simp

/-- What was there has not turned. -/
def Bl (w w' : World) : Prop := Below w.heap.size w w'
theorem Bl.refl (w : World) : Bl w w := Below.refl _ _
theorem Bl.trans {a b c : World} (h : Bl a b) (k : Bl b c) : Bl a c := Below.trans h (Below.mono k h.size)
theorem Bl.drew {a b : World} (h : Bl a b) : Bl a b.drew := ⟨h.os, h.tape, h.output, h.size, h.block⟩
theorem Bl.drewN {a b : World} (h : Bl a b) (n : Nat) : Bl a (b.drewN n) := ⟨h.os, h.tape, h.output, h.size, h.block⟩
theorem Bl.alloc {a b : World} (h : Bl a b) (o : Obj) : Bl a (b.alloc o) := Below.alloc h h.size o
theorem Bl.setCell {a b : World} (h : Bl a b) {p : Addr} (hp : a.heap.size ≤ p.block) (v : Value) : Bl a (b.setCell p v) := Below.setCell h hp v
theorem Bl.cell {a b : World} (h : Bl a b) {p : Addr} (hp : p.block < a.heap.size) : b.cell? p = a.cell? p := Below.cell h hp
theorem Bl.frozen {a b : World} (h : Bl a b) {p : Addr} (hp : p.block < a.heap.size) : b.frozen? p = a.frozen? p := Below.frozen h hp
theorem Bl.size {a b : World} (h : Bl a b) : a.heap.size ≤ b.heap.size := Below.size h
theorem Bl.of_grown {a b : World} (h : Grown a b) (ho : b.os = a.os) (ht : b.tape = a.tape) (hp : b.output = a.output) : Bl a b :=
  ⟨ho, ht, hp, h.2.2, fun _ hi => h.1.block hi (fun _ f => f.elim)⟩

/-- The parts of element k. -/
def fs (xs : List (Int × Int)) (k : Nat) : Int := (xs.getD k (0, 0)).1
def sn (xs : List (Int × Int)) (k : Nat) : Int := (xs.getD k (0, 0)).2

/-- A slice of pairs of integers as it lies in memory: no address is needed where it is empty. -/
def Tr (w : World) (A : Option Addr) (xs : List (Int × Int)) : Prop :=
  ∀ k, k < xs.length → ∃ b off, A = some ⟨b, off, none⟩ ∧ b < w.heap.size ∧ w.cell? ⟨b, off + k * 2, none⟩ = some (.int .i64 (fs xs k)) ∧ w.cell? ⟨b, off + k * 2 + 1, none⟩ = some (.int .i64 (sn xs k))
theorem Tr.go {w w' : World} {A : Option Addr} {xs : List (Int × Int)} (h : Tr w A xs) (g : Bl w w') : Tr w' A xs := fun k hk => by
  obtain ⟨b, off, h1, h2, h3, h4⟩ := h k hk
  exact ⟨b, off, h1, Nat.lt_of_lt_of_le h2 g.size, (g.cell (p := ⟨b, _, none⟩) h2).trans h3, (g.cell (p := ⟨b, _, none⟩) h2).trans h4⟩
theorem Tr.nil {w : World} {A : Option Addr} : Tr w A [] := fun k hk => absurd hk (by simp)
theorem Tr.drewN {w : World} {A : Option Addr} {xs : List (Int × Int)} (h : Tr w A xs) (n : Nat) : Tr (w.drewN n) A xs := h

/-- From a to b. -/
def btB (a x b : Int) : Bool := decide (a ≤ x ∧ x ≤ b)
theorem btB_t {a x b : Int} (h : a ≤ x ∧ x ≤ b) : btB a x b = true := by unfold btB; exact decide_eq_true h
theorem btB_f {a x b : Int} (h : ¬ (a ≤ x ∧ x ≤ b)) : btB a x b = false := by unfold btB; exact decide_eq_false h
theorem btB_iff {a x b : Int} : btB a x b = true ↔ a ≤ x ∧ x ≤ b := by unfold btB; exact decide_eq_true_iff
theorem btB_not {a x b : Int} : btB a x b = false ↔ ¬ (a ≤ x ∧ x ≤ b) := by unfold btB; exact decide_eq_false_iff_not

/-- A valid bucket. -/
def bkB (u r : Int) : Bool := btB 1 u 1048576 && btB 1 r 2097152
theorem bkB_iff {u r : Int} : bkB u r = true ↔ (1 ≤ u ∧ u ≤ 1048576) ∧ (1 ≤ r ∧ r ≤ 2097152) := by
  unfold bkB; rw [Bool.and_eq_true, btB_iff, btB_iff]
theorem bkB_not {u r : Int} : bkB u r = false ↔ ¬ ((1 ≤ u ∧ u ≤ 1048576) ∧ (1 ≤ r ∧ r ≤ 2097152)) := by
  rw [← bkB_iff]; cases bkB u r <;> simp
/-- What Check gives. -/
def bkE (u r : Int) : Int := if bkB u r then 0 else 130
theorem bkE_t {u r : Int} (h : bkB u r = true) : bkE u r = 0 := by unfold bkE; rw [if_pos h]
theorem bkE_f {u r : Int} (h : bkB u r = false) : bkE u r = 130 := by unfold bkE; rw [if_neg (by simp [h])]

end Go.Proofs.Ytaekofoonekkkaa
