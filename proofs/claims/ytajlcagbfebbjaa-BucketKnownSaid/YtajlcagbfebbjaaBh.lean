/-
  What both, Conforms and First of the reference of package bucket return.
-/
import Derived.Test.YtajlcagbfebbjaaBg
import Derived.Deep.RegionHeld3
namespace Go.Proofs.Ytajlcagbfebbjaa
open Go.RowKit

theorem sumF_congr {f g : Nat → Int} (i m : Nat) (h : ∀ j, j ≤ i + m → f j = g j) : Bk.sumF f i m = Bk.sumF g i m := by
  induction m with
  | zero => exact h i (by omega)
  | succ m ih =>
    show Bk.sumF f i m + f (i + m + 1) = Bk.sumF g i m + g (i + m + 1)
    rw [ih (fun j hj => h j (by omega)), h (i + m + 1) (by omega)]
theorem fs_take {xs : List (Int × Int)} {k j : Nat} (h : j < k) : fs (xs.take k) j = fs xs j := by
  unfold fs; simp [List.getD_eq_getElem?_getD, List.getElem?_take_of_lt h]
theorem sn_take {xs : List (Int × Int)} {k j : Nat} (h : j < k) : sn (xs.take k) j = sn xs j := by
  unfold sn; simp [List.getD_eq_getElem?_getD, List.getElem?_take_of_lt h]
theorem inI_take {xs : List (Int × Int)} {u R : Int} {k i m : Nat} (h : i + m < k) : inI (xs.take k) u R i m ↔ inI xs u R i m := by
  unfold inI Bk.exc
  rw [sumF_congr (g := sn xs) i m (fun j hj => sn_take (by omega)), fs_take h, fs_take (by omega)]
theorem Tr.take {w : World} {A : Option Addr} {xs : List (Int × Int)} (h : Tr w A xs) (k : Nat) : Tr w A (xs.take k) := fun j hj => by
  have hj1 : j < k := by rw [List.length_take] at hj; omega
  have hj2 : j < xs.length := by rw [List.length_take] at hj; omega
  obtain ⟨b, off, h1, h2, h3, h4⟩ := h j hj2
  exact ⟨b, off, h1, h2, by rw [fs_take hj1]; exact h3, by rw [sn_take hj1]; exact h4⟩
theorem prev_take {xs : List (Int × Int)} {k j : Nat} (h : j ≤ k) : prev (xs.take k) j = prev xs j := by
  cases j with
  | zero => rfl
  | succ j => exact fs_take (by omega)
theorem okAt_take {xs : List (Int × Int)} {k j : Nat} (h : j < k) : okAt (xs.take k) j ↔ okAt xs j := by
  unfold okAt; rw [fs_take h, sn_take h, prev_take (by omega)]
theorem rtB_take {xs : List (Int × Int)} (h : rtB xs = true) (k : Nat) : rtB (xs.take k) = true := by
  obtain ⟨h1, h2⟩ := rtB_iff.1 h
  refine rtB_iff.2 ⟨by rw [List.length_take]; omega, fun j hj => ?_⟩
  rw [List.length_take] at hj
  exact (okAt_take (by omega)).2 (h2 j (by omega))
theorem fit_take {xs : List (Int × Int)} {u R : Int} {k : Nat} (hk : k ≤ xs.length) : fitB (xs.take k) u R = true ↔ ∀ j, j < k → 0 ≤ lv xs R (u * 1048576) j := by
  rw [fitB_iff]
  have h : (∀ i m, i + m < (xs.take k).length → inI (xs.take k) u R i m) ↔ Bk.confTo (fs xs) (sn xs) R 1048576 (u * 1048576) k := by
    constructor
    · intro h i m him
      exact (inI_take him).1 (h i m (by rw [List.length_take]; omega))
    · intro h i m him
      rw [List.length_take] at him
      exact (inI_take (by omega)).2 (h i m (by omega))
  rw [h]
  exact Bk.confTo_lev (fs xs) (sn xs) R 1048576 (u * 1048576) k
/-- The first part that does not conform. -/
theorem fi_prefix {xs : List (Int × Int)} {u R : Int} {k : Nat} (hk : k < xs.length) (h : ∀ j, j < k → fitB (xs.take (j + 1)) u R = true) (hn : fitB (xs.take (k + 1)) u R = false) : fi xs u R = k := by
  have hall : ∀ j, j < k → 0 ≤ lv xs R (u * 1048576) j := fun j hj => (fit_take (k := j + 1) (by omega)).1 (h j hj) j (by omega)
  refine fneg_yes hk ?_ hall
  by_cases h0 : lv xs R (u * 1048576) k < 0
  · exact h0
  · have : fitB (xs.take (k + 1)) u R = true := (fit_take (k := k + 1) (by omega)).2 (fun j hj => by
      rcases Nat.lt_or_ge j k with hj' | hj'
      · exact hall j hj'
      · obtain rfl : j = k := by omega
        omega)
    rw [this] at hn; cases hn
theorem fi_all {xs : List (Int × Int)} {u R : Int} (h : ∀ j, j < xs.length → fitB (xs.take (j + 1)) u R = true) : fi xs u R = -1 :=
  fneg_no (fun j hj => (fit_take (k := j + 1) (by omega)).1 (h j hj) j (by omega))

theorem rfits_v {ys : List (Int × Int)} {u R : Int} {c : Bool} {len : Nat} (hlen : ys.length = len) (hc : fitB ys u R = c) (A : Option Addr) (cap : Nat) (w : World) (hb : bkB u R = true) (ht : rtB ys = true) (hT : Tr w A ys) :
    Calls Try.prog 19 #[.agg #[.int .i64 u, .int .i64 R], .slice A len cap] w fun e w' => e = .returned (.bool c) ∧ Bl w w' := by
  subst hlen
  have := rfits_any u R ys A cap w hb ht hT; rw [hc] at this; exact this

/-- What both gives. -/
def boV (u R : Int) (xs : List (Int × Int)) : Int := if bkB u R then rtE xs else 130
theorem fiV_cases (u R : Int) (xs : List (Int × Int)) : (boV u R xs = 0 ∧ bkB u R = true ∧ rtB xs = true ∧ fiV u R xs = (fi xs u R, 0)) ∨ (∃ E, E ≠ 0 ∧ boV u R xs = E ∧ fiV u R xs = (0, E)) := by
  rcases bcase (bkB u R) with hb | hb
  · rcases bcase (rtB xs) with ht | ht
    · exact .inl ⟨by unfold boV; rw [if_pos hb, rtE_t ht], hb, ht, fiV_ok hb ht⟩
    · exact .inr ⟨131, by decide, by unfold boV; rw [if_pos hb, rtE_f ht], fiV_tr hb ht⟩
  · exact .inr ⟨130, by decide, by unfold boV; rw [if_neg (by simp [hb])], fiV_bk hb⟩

/-- The two parts of a block, kept. -/
def Two (a : Nat) (u R : Int) (w0 w' : World) : Prop := w'.cell? ⟨a, 0, none⟩ = some (.int .i64 u) ∧ w'.cell? ⟨a, 1, none⟩ = some (.int .i64 R) ∧ a < w'.heap.size ∧ Bl w0 w'
theorem Two.go {a : Nat} {u R : Int} {w0 w1 w2 : World} (h : Two a u R w0 w1) (g : Bl w1 w2) : Two a u R w0 w2 :=
  ⟨(g.cell (p := ⟨a, 0, none⟩) h.2.2.1).trans h.1, (g.cell (p := ⟨a, 1, none⟩) h.2.2.1).trans h.2.1, Nat.lt_of_lt_of_le h.2.2.1 g.size, h.2.2.2.trans g⟩
theorem Two.new (w0 w : World) (u R : Int) (t : TypeId) (g : Bl w0 w) : Two w.heap.size u R w0 (w.alloc (.cells #[.int .i64 u, .int .i64 R] t)) :=
  ⟨by simp [go_sem], by simp [go_sem], by simp, g.alloc _⟩

/-- What a region keeps: a block of two integers. -/
def S2 (a : Nat) (u R : Int) (w0 w' : World) : Prop := w'.cell? ⟨a, 0, none⟩ = some (.int .i64 u) ∧ w'.cell? ⟨a, 1, none⟩ = some (.int .i64 R) ∧ Hid (Two a u R w0 w')
theorem S2.of {a : Nat} {u R : Int} {w0 w' : World} (h : Two a u R w0 w') : w'.cell? ⟨a, 0, none⟩ = some (.int .i64 u) ∧ w'.cell? ⟨a, 1, none⟩ = some (.int .i64 R) ∧ Hid (Two a u R w0 w') := ⟨h.1, h.2.1, h⟩
theorem S2.drew {a : Nat} {u R : Int} {w0 w' : World} (h : Hid (Two a u R w0 w')) : w'.drew.cell? ⟨a, 0, none⟩ = some (.int .i64 u) ∧ w'.drew.cell? ⟨a, 1, none⟩ = some (.int .i64 R) ∧ Hid (Two a u R w0 w'.drew) := ⟨h.1, h.2.1, ⟨h.1, h.2.1, h.2.2.1, Bl.drew h.2.2.2⟩⟩
theorem S2.step {a : Nat} {u R : Int} {w0 w1 w2 : World} (h : w1.cell? ⟨a, 0, none⟩ = some (.int .i64 u) ∧ w1.cell? ⟨a, 1, none⟩ = some (.int .i64 R) ∧ Hid (Two a u R w0 w1)) (g : Bl w1 w2) : w2.cell? ⟨a, 0, none⟩ = some (.int .i64 u) ∧ w2.cell? ⟨a, 1, none⟩ = some (.int .i64 R) ∧ Hid (Two a u R w0 w2) :=
  S2.of (h.2.2.out.go g)

end Go.Proofs.Ytajlcagbfebbjaa
