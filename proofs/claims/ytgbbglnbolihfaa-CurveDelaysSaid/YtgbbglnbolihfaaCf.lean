/-
  What first of package curve returns, whatever closures it is handed.
-/
import Derived.Test.YtgbbglnbolihfaaCa
import Derived.Shelf.Abstract
namespace Go.Proofs.Ytgbbglnbolihfaa
open Go.RowKit

/-- The first of n errors, or 0. -/
def fstE (es : Nat → Int) : Nat → Int
  | 0 => 0
  | n + 1 => if fstE es n = 0 then es n else fstE es n
theorem fstE_no {es : Nat → Int} {n : Nat} (h : ∀ j, j < n → es j = 0) : fstE es n = 0 := by
  induction n with
  | zero => rfl
  | succ n ih =>
    show (if fstE es n = 0 then es n else fstE es n) = 0
    rw [ih (fun j hj => h j (by omega)), if_pos rfl]; exact h n (by omega)
theorem fstE_yes {es : Nat → Int} {n k : Nat} (hk : k < n) (h0 : es k ≠ 0) (h : ∀ j, j < k → es j = 0) : fstE es n = es k := by
  induction n with
  | zero => omega
  | succ n ih =>
    show (if fstE es n = 0 then es n else fstE es n) = es k
    rcases Nat.lt_or_ge k n with hlt | hge
    · rw [ih hlt, if_neg h0]
    · obtain rfl : k = n := by omega
      rw [fstE_no h, if_pos rfl]

theorem upto_next {p : Nat → Int} {k : Nat} (h : ∀ j, j < k → p j = 0) (hk : p k = 0) : ∀ j, j < k + 1 → p j = 0 := fun j hj => by
  rcases Nat.lt_or_ge j k with h' | h'
  · exact h j h'
  · have e : j = k := by omega
    rw [e]; exact hk

set_option maxHeartbeats 1000000 in
theorem cfirst_any (n b cap : Nat) (fv : Nat → FuncId) (cv : Nat → Array Value) (es : Nat → Int) (w : World) (hn : n ≤ 100) (hb : b < w.heap.size)
    (hF : ∀ k, k < n → ∀ args (w' : World), (callFunc (fv k) args).run Try.prog w' = .ok (.enter (fv k) args) w')
    (hc : ∀ k, k < n → w.cell? ⟨b, k, none⟩ = some (.func (.func (fv k)) #[] (cv k)))
    (hK : ∀ k, k < n → ∀ w', Bl w w' → Calls Try.prog (fv k) (cv k) w' fun e w'' => e = .returned (.int .i64 (es k)) ∧ Bl w' w'') :
    Calls Try.prog 52 #[.slice (some ⟨b, 0, none⟩) n cap] w fun e w' => e = .returned (.int .i64 (fstE es n)) ∧ Bl w w' := by
  have HC := Lib.hid hc; clear hc
  have HF := Lib.hid hF; clear hF
  have HK := Lib.hid hK; clear hK
  go_enter Try.func52, Try.ntmps52
  go_wp2_with fail
  go_loopw [8] (fun iv wr => ∃ k : Nat, k ≤ n ∧ iv = .int .i64 k ∧ Hid (∀ j, j < k → es j = 0) ∧ Hid (Bl w wr)) (fun iv _ => n - (intOf iv).toNat)
  case atStart => exact ⟨0, by omega, rfl, Lib.hid (fun j hj => absurd hj (by omega)), Lib.hid (Bl.refl _)⟩
  case round =>
    obtain ⟨k, hk, rfl, hE, hw⟩ := hrel
    by_cases hlt : k < n
    · have c1 := (hw.out.cell (p := ⟨b, k, none⟩) hb).trans (HC.out k hlt)
      have K1 := Lib.hid (HK.out k hlt wr hw.out)
      have eg := HF.out k hlt
      obtain ⟨v, hv⟩ : ∃ v, es k = v := ⟨_, rfl⟩
      rw [hv] at K1
      have HV := Lib.hid hv
      clear hv
      generalize fv k = fk at *
      generalize cv k = ck at *
      by_cases h0 : v = 0
      · subst h0
        go_wp2_with (go_at_fn fk; refine K1.out.mono ?_; rintro e w1 ⟨rfl, gr⟩)
        have G := Lib.hid (hw.out.trans gr); clear gr
        go_roundw
        case rel => exact ⟨k + 1, by omega, by go_num, Lib.hid (upto_next hE.out HV.out), G⟩
        case measure => simp [intOf]; omega
      · go_wp2_with fail
        refine K1.out.mono ?_; rintro e w1 ⟨rfl, gr⟩
        have G := Lib.hid (hw.out.trans gr); clear gr
        go_wp2_with fail
        go_ret
        exact ⟨ret_int (by rw [fstE_yes hlt (by rw [HV.out]; exact h0) hE.out, HV.out]), G.out⟩
    · obtain rfl : k = n := by omega
      go_wp2_with fail
      go_ret
      exact ⟨ret_int (fstE_no hE.out).symm, hw.out⟩

end Go.Proofs.Ytgbbglnbolihfaa
