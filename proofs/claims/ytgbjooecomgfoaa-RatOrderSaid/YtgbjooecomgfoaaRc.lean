/-
  What Right of the reference of layer 2, and Make and Check of package rat and of its reference, return.
-/
import Derived.Test.YtgbjooecomgfoaaRb
import Derived.Deep.RegionHeld3
namespace Go.Proofs.Ytgbjooecomgfoaa
open Go.RowKit

/-- The facts of a valid fraction that a walk decides one by one. -/
theorem right_no {n d : Int} (h : ¬ (1 ≤ d ∧ d ≤ 1073741824 ∧ -1073741824 ≤ n ∧ n ≤ 1073741824)) : decide (Fr.right n d) = false := by
  apply decide_eq_false; rintro ⟨h1, h2, h3, h4, _⟩; exact h ⟨h1, h2, h3, h4⟩
theorem right_gcd {n d : Int} (h : 1 ≤ d ∧ d ≤ 1073741824 ∧ -1073741824 ≤ n ∧ n ≤ 1073741824) (g : Nat) (hg : Nat.gcd n.natAbs d.natAbs = g) : decide (Fr.right n d) = decide ((g : Int) = 1) := by
  obtain ⟨h1, h2, h3, h4⟩ := h
  apply decide_eq_decide.2
  exact ⟨fun ⟨_, _, _, _, h5⟩ => by omega, fun h5 => ⟨h1, h2, h3, h4, by omega⟩⟩

set_option maxHeartbeats 1000000 in
theorem rright_any (n d : Int) (w : World) :
    Calls Try.prog 41 #[.agg #[.int .i64 n, .int .i64 d]] w fun e w' => e = .returned (.bool (decide (Fr.right n d))) ∧ Grown w w' := by
  by_cases h1 : 1 ≤ d
  · by_cases h2 : d ≤ 1073741824
    · by_cases h3 : -1073741824 ≤ n
      · by_cases h4 : n ≤ 1073741824
        · obtain ⟨g, hg⟩ : ∃ g, Nat.gcd n.natAbs d.natAbs = g := ⟨_, rfl⟩
          rw [right_gcd ⟨h1, h2, h3, h4⟩ g hg]
          have hG : ∀ w, Calls Try.prog 39 #[.int .i64 ((n.natAbs : Nat) : Int), .int .i64 d] w fun e w' => e = .returned (.int .i64 (g : Int)) ∧ ∃ n, w' = w.drewN n :=
            fun w => rgcdI_any _ _ g w (by omega) (by omega) (by omega) (by omega) (by rw [Int.natAbs_natCast]; exact hg)
          have HG := Lib.hid hG; clear hG hg
          go_enter Try.func41, Try.ntmps41
          go_wp2_with fail
          go_quiet ((first | (go_at_call 40; exact Calls.quiet_of_same ((rabs_any n _ (by omega) (by omega)).mono (fun _ _ h => ⟨h.1, h.2.symm⟩))) | (go_at_call 39; exact Calls.quiet_of (HG.out _))))
          go_wp2_with fail
          go_ret
          exact ⟨rfl, grown_trans ((Grown.refl _).alloc _ _) (grown_drewN _ _)⟩
        · rw [right_no (by omega)]
          have hd : decide (n ≤ 1073741824) = false := decide_eq_false h4
          go_enter Try.func41, Try.ntmps41
          go_wp2_with fail
          go_quiet (fail)
          go_wp2_with fail
          go_ret
          exact ⟨rfl, grown_trans ((Grown.refl _).alloc _ _) (grown_drewN _ _)⟩
      · rw [right_no (by omega)]
        have hd : decide (-1073741824 ≤ n) = false := decide_eq_false h3
        go_enter Try.func41, Try.ntmps41
        go_wp2_with fail
        go_quiet (fail)
        go_wp2_with fail
        go_ret
        exact ⟨rfl, grown_trans ((Grown.refl _).alloc _ _) (grown_drewN _ _)⟩
    · rw [right_no (by omega)]
      have hd : decide (d ≤ 1073741824) = false := decide_eq_false h2
      go_enter Try.func41, Try.ntmps41
      go_wp2_with fail
      go_quiet (fail)
      go_wp2_with fail
      go_ret
      exact ⟨rfl, grown_trans ((Grown.refl _).alloc _ _) (grown_drewN _ _)⟩
  · rw [right_no (by omega)]
    have hd : decide (1 ≤ d) = false := decide_eq_false h1
    go_enter Try.func41, Try.ntmps41
    go_wp2_with fail
    go_quiet (fail)
    go_wp2_with fail
    go_ret
    exact ⟨rfl, grown_trans ((Grown.refl _).alloc _ _) (grown_drewN _ _)⟩

end Go.Proofs.Ytgbjooecomgfoaa
