/-
  BucketLeast: a trace conforms with the least burst, with every greater one, and with no smaller one; a greater rate needs no greater burst.
-/
import Derived.Test.YtgbbglnbolihfaaBw
import Derived.Test.YtgbbglnbolihfaaBr
import Derived.Test.YtgbbglnbolihfaaBt
namespace Go.Proofs.Ytgbbglnbolihfaa
open Go.ChangeShapes Go.WideShapes Go.ChangeAt Go.WideMaps Go.WideElems Go.RowKit

/-- A greater rate needs no greater burst. -/
theorem lea_mono {xs : List (Int × Int)} {R R' : Int} (ht : rtB xs = true) (h : R ≤ R') : lea xs R' ≤ lea xs R := by
  refine (lea_le xs R' _).2 ⟨lea_pos xs R, fun i m him => ?_⟩
  have h1 := ((lea_le xs R _).1 (Int.le_refl _)).2 i m him
  have h2 := fs_mono (rtB_iff.1 ht).2 i m him
  unfold inI Bk.exc at h1 ⊢
  have h3 : R * (fs xs (i + m) - fs xs i) ≤ R' * (fs xs (i + m) - fs xs i) := Int.mul_le_mul_of_nonneg_right h (by omega)
  omega
theorem lea_nil (R : Int) : lea [] R = 1 := rfl
theorem fit_lea {xs : List (Int × Int)} {u R : Int} (hb : bkB u R = true) (ht : rtB xs = true) : coB u R xs = decide (lea xs R ≤ u) := by
  rw [coB_ok hb ht]
  unfold fitB
  have h := lea_fi xs R u (bkB_iff.1 hb).1.1
  by_cases hc : lea xs R ≤ u
  · rw [decide_eq_true hc, decide_eq_true (h.2 hc)]
  · rw [decide_eq_false hc, decide_eq_false (fun g => hc (h.1 g))]

/-- The slice does not lie in block b. -/
def Df (A : Option Addr) (b : Nat) (xs : List (Int × Int)) : Prop := ∀ k, k < xs.length → ∀ b' off, A = some ⟨b', off, none⟩ → b' ≠ b
theorem Tr.setD {w : World} {A : Option Addr} {xs : List (Int × Int)} {b : Nat} (h : Tr w A xs) (hd : Df A b xs) (v : Value) : Tr (w.setCell ⟨b, 0, none⟩ v) A xs := fun k hk => by
  obtain ⟨b', off, h1, h2, h3, h4⟩ := h k hk
  have hn : b ≠ b' := fun e => hd k hk b' off h1 e.symm
  exact ⟨b', off, h1, by simpa [World.setCell] using h2, by rw [World.cell?_setCell_far _ _ _ _ hn]; exact h3, by rw [World.cell?_setCell_far _ _ _ _ hn]; exact h4⟩
/-- What 'b, l := d.Bucket(), d.Trace()' leaves, b apart from l. -/
def MadeBD (W : World) (u R : Int) (ps : List (Int × Int)) (s5 s6 : Value) (wx : World) : Prop :=
  ∃ b A c, s5 = .pointer (some ⟨b, 0, none⟩) ∧ s6 = .slice A ps.length c ∧ Sl b u R wx ∧ Tr wx A ps ∧ Bl W wx ∧ W.heap.size ≤ b ∧ Df A b ps

end Go.Proofs.Ytgbbglnbolihfaa
