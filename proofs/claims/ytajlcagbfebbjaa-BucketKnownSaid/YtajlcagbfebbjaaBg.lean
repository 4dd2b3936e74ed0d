/-
  What Fits of the reference of package bucket returns.
-/
import Derived.Test.YtajlcagbfebbjaaBf
namespace Go.Proofs.Ytajlcagbfebbjaa
open Go.RowKit

/-- The sum of the m sizes from i on. -/
def sm (xs : List (Int × Int)) (i : Nat) : Nat → Int
  | 0 => 0
  | m + 1 => Bk.sumF (sn xs) i m
theorem sm_step (xs : List (Int × Int)) (i m : Nat) : sm xs i m + sn xs (i + m) = sm xs i (m + 1) := by
  cases m with
  | zero => show 0 + sn xs (i + 0) = sn xs i; rw [Int.zero_add, Nat.add_zero]
  | succ m => rfl
theorem sm_bd {xs : List (Int × Int)} (hx : ∀ k, k < xs.length → okAt xs k) (i m : Nat) (h : i + m ≤ xs.length) : 0 ≤ sm xs i m ∧ sm xs i m ≤ (m : Int) * 1048576 := by
  induction m with
  | zero => exact ⟨Int.le_refl 0, by show (0 : Int) ≤ _; omega⟩
  | succ m ih =>
    have h1 := ih (by omega)
    have h2 := hx (i + m) (by omega)
    unfold okAt at h2
    rw [← sm_step]
    omega
/-- Times rise. -/
theorem fs_mono {xs : List (Int × Int)} (hx : ∀ k, k < xs.length → okAt xs k) (i m : Nat) (h : i + m < xs.length) : fs xs i ≤ fs xs (i + m) := by
  induction m with
  | zero => exact Int.le_refl _
  | succ m ih =>
    have h1 := ih (by omega)
    have h2 := hx (i + m + 1) (by omega)
    unfold okAt at h2
    have e : prev xs (i + m + 1) = fs xs (i + m) := rfl
    rw [e] at h2
    show fs xs i ≤ fs xs (i + m + 1)
    omega
theorem fs_bd {xs : List (Int × Int)} (hx : ∀ k, k < xs.length → okAt xs k) (k : Nat) (h : k < xs.length) : 0 ≤ fs xs k ∧ fs xs k ≤ 1099511627776 := by
  have h1 := prev_bd (xs := xs) (k := k) (fun j hj => hx j (by omega))
  have h2 := hx k h
  unfold okAt at h2
  omega
/-- Does the interval ask for no more than the bucket has? -/
def inI (xs : List (Int × Int)) (u R : Int) (i m : Nat) : Prop := Bk.exc (fs xs) (sn xs) R 1048576 i m ≤ u * 1048576
theorem inI_iff (xs : List (Int × Int)) (u R : Int) (i m : Nat) : inI xs u R i m ↔ ¬ R * (fs xs (i + m) - fs xs i) < (sm xs i (m + 1) - u) * 1048576 := by
  unfold inI Bk.exc
  show sm xs i (m + 1) * 1048576 - _ ≤ _ ↔ _
  generalize R * (fs xs (i + m) - fs xs i) = D
  omega
/-- Does a trace conform? -/
def fitB (xs : List (Int × Int)) (u R : Int) : Bool := decide (fi xs u R < 0)
theorem fi_neg {xs : List (Int × Int)} {u R : Int} : fi xs u R < 0 ↔ ∀ i m, i + m < xs.length → inI xs u R i m := by
  have h : fi xs u R < 0 ↔ ∀ j, j < xs.length → 0 ≤ lv xs R (u * 1048576) j := by
    unfold fi
    rcases fneg_ways (lv xs R (u * 1048576)) xs.length with ⟨e, h⟩ | ⟨k, hk, e, h0, _⟩
    · rw [e]; exact ⟨fun _ => h, fun _ => by decide⟩
    · rw [e]
      refine ⟨fun hh => absurd hh (by omega), fun hh => ?_⟩
      have := hh k hk
      omega
  rw [h]
  exact (Bk.confTo_lev (fs xs) (sn xs) R 1048576 (u * 1048576) xs.length).symm
theorem fitB_iff {xs : List (Int × Int)} {u R : Int} : fitB xs u R = true ↔ ∀ i m, i + m < xs.length → inI xs u R i m := by
  rw [← fi_neg]; unfold fitB; exact decide_eq_true_iff
theorem fitB_bad {xs : List (Int × Int)} {u R : Int} {i m : Nat} (h : i + m < xs.length) (hn : ¬ inI xs u R i m) : fitB xs u R = false := by
  cases hc : fitB xs u R with
  | false => rfl
  | true => exact absurd (fitB_iff.1 hc i m h) hn

set_option maxHeartbeats 1000000 in
theorem rfits_any (u R : Int) (xs : List (Int × Int)) (A : Option Addr) (cap : Nat) (w : World) (hb : bkB u R = true) (ht : rtB xs = true) (hT : Tr w A xs) :
    Calls Try.prog 19 #[.agg #[.int .i64 u, .int .i64 R], .slice A xs.length cap] w fun e w' => e = .returned (.bool (fitB xs u R)) ∧ Bl w w' := by
  obtain ⟨hl, hx⟩ := rtB_iff.1 ht
  obtain ⟨⟨hu1, hu2⟩, hR1, hR2⟩ := bkB_iff.1 hb
  have HX := Lib.hid hx
  have T0 := Lib.hid hT
  clear hx hT hb ht
  go_enter Try.func19, Try.ntmps19
  go_wp2
  go_loopw [5] (fun i wr => ∃ k : Nat, k ≤ xs.length ∧ i = .int .i64 k ∧ Hid (∀ j, j < k → ∀ m, j + m < xs.length → inI xs u R j m) ∧ Hid (∃ n, wr = (w.alloc (.cells #[.int .i64 u, .int .i64 R] 30)).drewN n)) (fun i _ => xs.length - (intOf i).toNat)
  case atStart => exact ⟨0, Nat.zero_le _, rfl, fun j hj => absurd hj (by omega), 0, rfl⟩
  case round =>
    obtain ⟨i, hk, rfl, ha, hw⟩ := hrel
    by_cases hlt : i < xs.length
    · obtain ⟨n0, e0⟩ := hw.out
      subst e0
      clear hw
      go_wp2
      go_loopw [6, 7] (fun s jv wr => ∃ j : Nat, j ≤ xs.length ∧ jv = .int .i64 j ∧ s = .int .i64 (sm xs i (j - i)) ∧ Hid (i ≤ j) ∧ Hid (∀ m', i + m' < j → inI xs u R i m') ∧ Hid (∃ n, wr = (w.alloc (.cells #[.int .i64 u, .int .i64 R] 30)).drewN n)) (fun _ j _ => xs.length - (intOf j).toNat)
      case atStart => exact ⟨i, by omega, rfl, by rw [Nat.sub_self]; rfl, Nat.le_refl i, fun m' hm' => absurd hm' (by omega), _, rfl⟩
      case round =>
        obtain ⟨j, hj, rfl, rfl, hij, hi, hw⟩ := hrel
        by_cases hlt2 : j < xs.length
        · obtain ⟨n1, e1⟩ := hw.out
          subst e1
          clear hw
          obtain ⟨b, off, ea, hb, c1, c2⟩ := T0.out j hlt2
          obtain ⟨b', off', ea', _, d1, _⟩ := T0.out i hlt
          subst ea
          obtain ⟨rfl, rfl⟩ : b = b' ∧ off = off' := by simpa using ea'
          clear ea'
          have hjm : i + (j - i) = j := by have := hij.out; omega
          have q1 := sm_step xs i (j - i)
          have q2 := sm_bd HX.out i (j - i) (by omega)
          have q3 := sm_bd HX.out i (j - i + 1) (by omega)
          have q4 := fs_mono HX.out i (j - i) (by omega)
          have q5 := fs_bd HX.out i hlt
          have q6 := fs_bd HX.out j hlt2
          have q7 := inI_iff xs u R i (j - i)
          have q8 := HX.out j hlt2
          unfold okAt at q8
          rw [hjm] at q1 q4 q7
          have q9 : sm xs i (j + 1 - i) = sm xs i (j - i + 1) := by rw [show j + 1 - i = j - i + 1 by have := hij.out; omega]
          have Q9 := Lib.hid q9
          clear q9
          have ql : ((j - i : Nat) : Int) ≤ 200 := by omega
          have qn : ((j - i + 1 : Nat) : Int) ≤ 201 := by omega
          obtain ⟨z', hz'⟩ : ∃ z, fs xs j = z := ⟨_, rfl⟩
          obtain ⟨z, hz⟩ : ∃ z, fs xs i = z := ⟨_, rfl⟩
          obtain ⟨s, hs⟩ : ∃ s, sn xs j = s := ⟨_, rfl⟩
          obtain ⟨S, hS⟩ : ∃ S, sm xs i (j - i) = S := ⟨_, rfl⟩
          obtain ⟨S', hS'⟩ : ∃ S, sm xs i (j - i + 1) = S := ⟨_, rfl⟩
          rw [hz'] at c1 q4 q6 q7
          rw [hz] at d1 q4 q5 q7
          rw [hs] at c2 q1 q8
          rw [hS] at q1 q2 ⊢
          rw [hS'] at q1 q3 q7 Q9
          clear hz hz' hs hS hS'
          obtain ⟨P, hP⟩ : ∃ P, R * (z' - z) = P := ⟨_, rfl⟩
          have p0 : 0 ≤ P := by rw [← hP]; exact Int.mul_nonneg (by omega) (by omega)
          have p1 : P ≤ 2305843009213693952 := by
            have e1 : R * (z' - z) ≤ 2097152 * (z' - z) := Int.mul_le_mul_of_nonneg_right hR2 (by omega)
            omega
          rw [hP] at q7
          have Q7 := Lib.hid q7
          clear q7
          have q21 := q2.1
          have q22 : S ≤ 209715200 := by omega
          have q31 := q3.1
          have q32 : S' ≤ 210763776 := by omega
          have q51 := q5.1
          have q52 := q5.2
          have q61 := q6.1
          have q62 := q6.2
          obtain ⟨⟨_, _⟩, q83, q84⟩ := q8
          clear q2 q3 q5 q6 ql qn hjm
          have w0 : IntKind.i64.wrap (S + s) = S + s := IntWalk.i64_in _ (by omega)
          have w1 : IntKind.i64.wrap (S' - u) = S' - u := IntWalk.i64_in _ (by omega)
          have w2 : IntKind.i64.wrap ((S' - u) * 1048576) = (S' - u) * 1048576 := IntWalk.i64_in _ (by omega)
          have w3 : IntKind.i64.wrap (z' - z) = z' - z := IntWalk.i64_in _ (by omega)
          have w4 : IntKind.i64.wrap P = P := IntWalk.i64_in _ (by omega)
          by_cases hc : P < (S' - u) * 1048576
          · have hbad : fitB xs u R = false := fitB_bad (i := i) (m := j - i) (by have := hij.out; omega) (fun h => Q7.out.1 h hc)
            have HBAD := Lib.hid hbad
            clear hbad
            go_wp2
            go_quiet (fail)
            go_wp2
            go_ret
            exact ⟨ret_bool HBAD.out.symm, ((((Bl.refl w).alloc _).drewN _).drewN _)⟩
          · have hgood := Q7.out.2 hc
            have HG := Lib.hid hgood
            clear hgood
            go_wp2
            go_quiet (fail)
            go_wp2
            go_roundw
            case rel =>
              refine ⟨j + 1, by omega, by go_num, by rw [Q9.out], Nat.le_succ_of_le hij.out, fun m' hm' => ?_, _, rfl⟩
              rcases Nat.lt_or_ge (i + m') j with h' | h'
              · exact hi.out m' h'
              · obtain rfl : m' = j - i := by omega
                exact HG.out
            case measure => simp [intOf]; omega
        · obtain ⟨n1, e1⟩ := hw.out
          subst e1
          clear hw
          go_wp2
          go_roundw
          case rel =>
            refine ⟨i + 1, by omega, by go_num, fun j' hj' m' hm' => ?_, _, rfl⟩
            rcases Nat.lt_or_ge j' i with h' | h'
            · exact ha.out j' h' m' hm'
            · obtain rfl : j' = i := by omega
              exact hi.out m' (by omega)
          case measure => simp [intOf]; omega
    · go_wp2
      go_ret
      obtain ⟨n0, e0⟩ := hw.out
      refine ⟨ret_bool (fitB_iff.2 (fun j m h => ha.out j (by omega) m h)).symm, ?_⟩
      rw [e0]; exact ((Bl.refl w).alloc _).drewN _

end Go.Proofs.Ytajlcagbfebbjaa
