/-
  What CheckTrace of package bucket and RightTrace, CheckTrace of its reference return.
-/
import Derived.Test.YtajlcagbfebbjaaBb
namespace Go.Proofs.Ytajlcagbfebbjaa
open Go.RowKit

/-- The time before arrival k. -/
def prev (xs : List (Int × Int)) : Nat → Int
  | 0 => 0
  | k + 1 => fs xs k
/-- Arrival k is as it should be. -/
def okAt (xs : List (Int × Int)) (k : Nat) : Prop := (prev xs k ≤ fs xs k ∧ fs xs k ≤ 1099511627776) ∧ (1 ≤ sn xs k ∧ sn xs k ≤ 1048576)
instance (xs : List (Int × Int)) (k : Nat) : Decidable (okAt xs k) := by unfold okAt; exact inferInstance
/-- A valid trace. -/
def rtB (xs : List (Int × Int)) : Bool := decide (xs.length ≤ 200 ∧ ∀ k, k < xs.length → okAt xs k)
theorem rtB_iff {xs : List (Int × Int)} : rtB xs = true ↔ xs.length ≤ 200 ∧ ∀ k, k < xs.length → okAt xs k := by unfold rtB; exact decide_eq_true_iff
theorem rtB_bad {xs : List (Int × Int)} {k : Nat} (h : k < xs.length) (hb : ¬ okAt xs k) : rtB xs = false := by
  unfold rtB; exact decide_eq_false (fun ⟨_, g⟩ => hb (g k h))
theorem rtB_long {xs : List (Int × Int)} (h : 200 < xs.length) : rtB xs = false := by
  unfold rtB; exact decide_eq_false (fun ⟨g, _⟩ => by omega)
/-- What CheckTrace gives. -/
def rtE (xs : List (Int × Int)) : Int := if rtB xs then 0 else 131
theorem rtE_t {xs : List (Int × Int)} (h : rtB xs = true) : rtE xs = 0 := by unfold rtE; rw [if_pos h]
theorem rtE_f {xs : List (Int × Int)} (h : rtB xs = false) : rtE xs = 131 := by unfold rtE; rw [if_neg (by simp [h])]
theorem prev_bd {xs : List (Int × Int)} {k : Nat} (h : ∀ j, j < k → okAt xs j) : 0 ≤ prev xs k ∧ prev xs k ≤ 1099511627776 := by
  induction k with
  | zero => exact ⟨Int.le_refl 0, (by decide : (0 : Int) ≤ 1099511627776)⟩
  | succ k ih =>
    have h1 := ih (fun j hj => h j (by omega))
    have h2 := h k (by omega)
    unfold okAt at h2
    show 0 ≤ fs xs k ∧ fs xs k ≤ _
    omega

set_option maxHeartbeats 400000 in
theorem checkTrace_any (xs : List (Int × Int)) (A : Option Addr) (cap : Nat) (w : World) (hl : (xs.length : Int) ≤ 9223372036854775807) (h : Tr w A xs) :
    Calls Try.prog 16 #[.slice A xs.length cap] w fun e w' => e = .returned (.int .i64 (rtE xs)) ∧ Bl w w' := by
  have HC := Lib.hid h; clear h
  by_cases h2 : 200 < (xs.length : Int)
  · go_enter Try.func16, Try.ntmps16
    go_wp2
    go_ret
    exact ⟨ret_int (rtE_f (rtB_long (by omega))).symm, Bl.refl _⟩
  · go_enter Try.func16, Try.ntmps16
    go_wp2
    go_loopw [3, 11] (fun l i wr => ∃ k : Nat, k ≤ xs.length ∧ i = .int .i64 k ∧ l = .int .i64 (prev xs k) ∧ Hid (∀ j, j < k → okAt xs j) ∧ Hid (Bl w wr)) (fun _ i _ => xs.length - (intOf i).toNat)
    case atStart => exact ⟨0, Nat.zero_le _, rfl, rfl, fun j hj => absurd hj (by omega), Bl.refl _⟩
    case round =>
      obtain ⟨k, hk, rfl, rfl, ha, hw⟩ := hrel
      by_cases hlt : k < xs.length
      · obtain ⟨b, off, ea, hb, h3, h4⟩ := HC.out.go hw.out k hlt
        have hv : (prev xs k ≤ fs xs k ∧ fs xs k ≤ 1099511627776) ∧ (1 ≤ sn xs k ∧ sn xs k ≤ 1048576) → okAt xs k := id
        have hn : ¬ ((prev xs k ≤ fs xs k ∧ fs xs k ≤ 1099511627776) ∧ (1 ≤ sn xs k ∧ sn xs k ≤ 1048576)) → rtE xs = 131 := fun h => rtE_f (rtB_bad hlt h)
        have hp : prev xs (k + 1) = fs xs k := rfl
        generalize fs xs k = z at h3 hv hn hp
        generalize sn xs k = s at h4 hv hn
        generalize prev xs k = p at hv hn
        have HV := Lib.hid hv; clear hv
        have HN := Lib.hid hn; clear hn
        have HP := Lib.hid hp; clear hp
        clear HC
        subst ea
        rcases bcase (btB p z 1099511627776) with d1 | d1
        · have K1 := Lib.hid (fun w => between_v d1 w)
          have D1 := Lib.hid (btB_iff.1 d1)
          clear d1
          rcases bcase (btB 1 s 1048576) with d2 | d2
          · have K2 := Lib.hid (fun w => between_v d2 w)
            have D2 := Lib.hid (btB_iff.1 d2)
            clear d2
            go_wp2_with fail
            refine (K1.out _).mono ?_; rintro e w1 ⟨rfl, rfl⟩
            go_wp2_with fail
            refine (K2.out _).mono ?_; rintro e w1 ⟨rfl, rfl⟩
            go_wp2_with fail
            go_roundw
            case rel =>
              refine ⟨k + 1, by omega, by go_num, by rw [HP.out], fun j hj => ?_, hw.out.alloc _⟩
              rcases Nat.lt_or_ge j k with hj' | hj'
              · exact ha.out j hj'
              · obtain rfl : j = k := by omega
                exact HV.out ⟨D1.out, D2.out⟩
            case measure => simp [intOf]; omega
          · have K2 := Lib.hid (fun w => between_v d2 w)
            have E := Lib.hid (HN.out (fun h => btB_not.1 d2 h.2))
            clear d2
            go_wp2_with fail
            refine (K1.out _).mono ?_; rintro e w1 ⟨rfl, rfl⟩
            go_wp2_with fail
            refine (K2.out _).mono ?_; rintro e w1 ⟨rfl, rfl⟩
            go_wp2_with fail
            go_ret
            exact ⟨ret_int E.out.symm, hw.out.alloc _⟩
        · have K1 := Lib.hid (fun w => between_v d1 w)
          have E := Lib.hid (HN.out (fun h => btB_not.1 d1 h.1))
          clear d1
          go_wp2_with fail
          refine (K1.out _).mono ?_; rintro e w1 ⟨rfl, rfl⟩
          go_wp2_with fail
          go_ret
          exact ⟨ret_int E.out.symm, hw.out.alloc _⟩
      · go_wp2
        go_ret
        exact ⟨ret_int (rtE_t (rtB_iff.2 ⟨by omega, fun j hj => ha.out j (by omega)⟩)).symm, hw.out⟩
theorem checkTrace_v {xs : List (Int × Int)} {v : Int} (hc : rtE xs = v) (A : Option Addr) (cap : Nat) (w : World) (hl : (xs.length : Int) ≤ 9223372036854775807) (h : Tr w A xs) :
    Calls Try.prog 16 #[.slice A xs.length cap] w fun e w' => e = .returned (.int .i64 v) ∧ Bl w w' := by
  have := checkTrace_any xs A cap w hl h; rw [hc] at this; exact this

end Go.Proofs.Ytajlcagbfebbjaa
