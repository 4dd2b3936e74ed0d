/-
  What fits and first of the law's package return.
-/
import Derived.Test.YtajlcagbfebbjaaBp
namespace Go.Proofs.Ytajlcagbfebbjaa
open Go.RowKit

/-- Does Conforms say yes? -/
def coB (u R : Int) (xs : List (Int × Int)) : Bool := (coV u R xs).1
theorem coV_ways (u R : Int) (xs : List (Int × Int)) : (coB u R xs = true ∧ coV u R xs = (true, 0)) ∨ (coB u R xs = false ∧ ∃ E, coV u R xs = (false, E)) := by
  rcases fiV_cases u R xs with ⟨_, _, _, hf⟩ | ⟨E, _, _, hf⟩
  · unfold coB coV
    rw [hf]
    by_cases h : fi xs u R < 0
    · exact .inl ⟨by simp [h], by simp [h]⟩
    · exact .inr ⟨by simp; omega, 0, by simp; omega⟩
  · unfold coB coV
    rw [hf]
    exact .inr ⟨rfl, E, rfl⟩
theorem coB_ok {u R : Int} {xs : List (Int × Int)} (hb : bkB u R = true) (ht : rtB xs = true) : coB u R xs = fitB xs u R := by
  unfold coB coV; rw [fiV_ok hb ht]; rfl
theorem coB_bk {u R : Int} {xs : List (Int × Int)} (hb : bkB u R = false) : coB u R xs = false := by
  unfold coB coV; rw [fiV_bk hb]; rfl

set_option maxHeartbeats 1000000 in
theorem lfits_any (u R : Int) (xs : List (Int × Int)) (A : Option Addr) (cap : Nat) (w : World) (hl : (xs.length : Int) ≤ 9223372036854775807) (hT : Tr w A xs) :
    Calls Try.prog 9 #[.agg #[.int .i64 u, .int .i64 R], .slice A xs.length cap] w fun e w' => e = .returned (.bool (coB u R xs)) ∧ Bl w w' := by
  rcases coV_ways u R xs with ⟨hc, hv⟩ | ⟨hc, E, hv⟩
  · have K := Lib.hid (fun w (h : Tr w A xs) => conforms_v hv A cap w hl h)
    have T0 := Lib.hid hT
    have HC := Lib.hid hc
    clear hv hT hl hc
    go_enter Try.func9, Try.ntmps9
    go_wp2_with fail
    refine (K.out _ (T0.out.go ((Bl.refl w).alloc _))).mono ?_; rintro e w1 ⟨rfl, gr⟩
    have G1 := Lib.hid (((Bl.refl w).alloc _).trans gr); clear gr
    go_wp2_with fail
    go_ret
    exact ⟨ret_bool HC.out.symm, G1.out⟩
  · have K := Lib.hid (fun w (h : Tr w A xs) => conforms_v hv A cap w hl h)
    have T0 := Lib.hid hT
    have HC := Lib.hid hc
    clear hv hT hl hc
    go_enter Try.func9, Try.ntmps9
    go_wp2_with fail
    refine (K.out _ (T0.out.go ((Bl.refl w).alloc _))).mono ?_; rintro e w1 ⟨rfl, gr⟩
    have G1 := Lib.hid (((Bl.refl w).alloc _).trans gr); clear gr
    go_wp2_with fail
    go_ret
    exact ⟨ret_bool HC.out.symm, G1.out⟩
theorem lfits_v {u R : Int} {xs : List (Int × Int)} {c : Bool} {len : Nat} (hlen : xs.length = len) (hc : coB u R xs = c) (hl : (xs.length : Int) ≤ 9223372036854775807) (A : Option Addr) (cap : Nat) (w : World) (hT : Tr w A xs) :
    Calls Try.prog 9 #[.agg #[.int .i64 u, .int .i64 R], .slice A len cap] w fun e w' => e = .returned (.bool c) ∧ Bl w w' := by
  subst hlen
  have := lfits_any u R xs A cap w hl hT; rw [hc] at this; exact this

/-- Does First give n? -/
def fiB (u R : Int) (xs : List (Int × Int)) (n : Int) : Bool := decide ((fiV u R xs).1 = n ∧ (fiV u R xs).2 = 0)
set_option maxHeartbeats 1000000 in
theorem lfirst_any (u R n : Int) (xs : List (Int × Int)) (A : Option Addr) (cap : Nat) (w : World) (hl : (xs.length : Int) ≤ 9223372036854775807) (hT : Tr w A xs) :
    Calls Try.prog 17 #[.agg #[.int .i64 u, .int .i64 R], .slice A xs.length cap, .int .i64 n] w fun e w' => e = .returned (.bool (fiB u R xs n)) ∧ Bl w w' := by
  obtain ⟨⟨v, E⟩, hv⟩ : ∃ r, fiV u R xs = r := ⟨_, rfl⟩
  have K := Lib.hid (fun w (h : Tr w A xs) => first_v hv A cap w hl h)
  have HB := Lib.hid (show fiB u R xs n = decide (v = n ∧ E = 0) by unfold fiB; rw [hv])
  have T0 := Lib.hid hT
  clear hv hT hl
  by_cases h1 : v = n
  · by_cases h2 : E = 0
    · subst h1 h2
      go_enter Try.func17, Try.ntmps17
      go_wp2_with fail
      refine (K.out _ (T0.out.go ((Bl.refl w).alloc _))).mono ?_; rintro e w1 ⟨rfl, gr⟩
      have G1 := Lib.hid (((Bl.refl w).alloc _).trans gr); clear gr
      go_wp2_with fail
      go_ret
      exact ⟨ret_bool (HB.out.trans (by simp)).symm, G1.out⟩
    · have n2 : (E == 0) = false := beq_false_of_ne h2
      have H2 := Lib.hid h2
      subst h1
      clear h2
      go_enter Try.func17, Try.ntmps17
      go_wp2_with fail
      refine (K.out _ (T0.out.go ((Bl.refl w).alloc _))).mono ?_; rintro e w1 ⟨rfl, gr⟩
      have G1 := Lib.hid (((Bl.refl w).alloc _).trans gr); clear gr
      go_wp2_with fail
      go_ret
      exact ⟨ret_bool (HB.out.trans (by have := H2.out; simp [this])).symm, G1.out⟩
  · have n2 : (v == n) = false := beq_false_of_ne h1
    have H2 := Lib.hid h1
    clear h1
    go_enter Try.func17, Try.ntmps17
    go_wp2_with fail
    refine (K.out _ (T0.out.go ((Bl.refl w).alloc _))).mono ?_; rintro e w1 ⟨rfl, gr⟩
    have G1 := Lib.hid (((Bl.refl w).alloc _).trans gr); clear gr
    go_wp2_with fail
    go_ret
    exact ⟨ret_bool (HB.out.trans (by have := H2.out; simp [this])).symm, G1.out⟩
theorem lfirst_v {u R n : Int} {xs : List (Int × Int)} {c : Bool} {len : Nat} (hlen : xs.length = len) (hc : fiB u R xs n = c) (hl : (xs.length : Int) ≤ 9223372036854775807) (A : Option Addr) (cap : Nat) (w : World) (hT : Tr w A xs) :
    Calls Try.prog 17 #[.agg #[.int .i64 u, .int .i64 R], .slice A len cap, .int .i64 n] w fun e w' => e = .returned (.bool c) ∧ Bl w w' := by
  subst hlen
  have := lfirst_any u R n xs A cap w hl hT; rw [hc] at this; exact this

end Go.Proofs.Ytajlcagbfebbjaa
