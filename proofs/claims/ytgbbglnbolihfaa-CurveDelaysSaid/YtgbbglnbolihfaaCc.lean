/-
  What checkBuckets, the closures of checkFlow, slices.IndexFunc and slices.ContainsFunc (with the closure slow), and checkFlow of package curve return.
-/
import Derived.Test.YtgbbglnbolihfaaCb
import Derived.Test.YtgbbglnbolihfaaBe
import Derived.Laws.EntriesVeiled
namespace Go.Proofs.Ytgbbglnbolihfaa
open Go.RowKit Go.Shelf

/-- All buckets are valid. -/
def bksB (xs : List (Int × Int)) : Bool := decide (∀ k, k < xs.length → bkB (fs xs k) (sn xs k) = true)
theorem bksB_iff {xs : List (Int × Int)} : bksB xs = true ↔ ∀ k, k < xs.length → bkB (fs xs k) (sn xs k) = true := by unfold bksB; exact decide_eq_true_iff
def bksE (xs : List (Int × Int)) : Int := if bksB xs then 0 else 130
theorem bksE_t {xs : List (Int × Int)} (h : ∀ k, k < xs.length → bkB (fs xs k) (sn xs k) = true) : bksE xs = 0 := by unfold bksE; rw [if_pos (bksB_iff.2 h)]
theorem bksE_f {xs : List (Int × Int)} {k : Nat} (hk : k < xs.length) (h : bkB (fs xs k) (sn xs k) = false) : bksE xs = 130 := by
  unfold bksE; rw [if_neg (fun hh => by rw [bksB_iff.1 hh k hk] at h; cases h)]
/-- Some bucket is slow. -/
def slI (xs : List (Int × Int)) (r : Int) : Int := fneg (fun k => sn xs k - r - 1) xs.length
def slB (xs : List (Int × Int)) (r : Int) : Bool := decide (0 ≤ slI xs r)
theorem slB_iff {xs : List (Int × Int)} {r : Int} : slB xs r = true ↔ ∃ k, k < xs.length ∧ sn xs k ≤ r := by
  unfold slB slI
  rw [decide_eq_true_iff]
  rcases fneg_ways (fun k => sn xs k - r - 1) xs.length with ⟨e, h⟩ | ⟨k, hk, e, h0, h⟩
  · rw [e]
    exact ⟨fun hh => absurd hh (by decide), fun ⟨k, hk, hs⟩ => absurd (h k hk) (by show ¬ (0 ≤ sn xs k - r - 1); omega)⟩
  · rw [e]
    have h0' : sn xs k - r - 1 < 0 := h0
    exact ⟨fun _ => ⟨k, hk, by omega⟩, fun _ => by omega⟩

set_option maxHeartbeats 1000000 in
theorem checkBuckets_any (xs : List (Int × Int)) (A : Option Addr) (cap : Nat) (w : World) (hl : (xs.length : Int) ≤ 9223372036854775807) (h : Tr w A xs) :
    Calls Try.prog 79 #[.slice A xs.length cap] w fun e w' => e = .returned (.int .i64 (bksE xs)) ∧ Bl w w' := by
  have HT := Lib.hid h; clear h
  go_enter Try.func79, Try.ntmps79
  go_wp2_with fail
  go_loopw [8] (fun iv wr => ∃ k : Nat, k ≤ xs.length ∧ iv = .int .i64 k ∧ Hid (∀ j, j < k → bkB (fs xs j) (sn xs j) = true) ∧ Hid (Bl w wr)) (fun iv _ => xs.length - (intOf iv).toNat)
  case atStart => exact ⟨0, by omega, rfl, Lib.hid (fun j hj => absurd hj (by omega)), Lib.hid (Bl.refl _)⟩
  case round =>
    obtain ⟨k, hk, rfl, hE, hw⟩ := hrel
    by_cases hlt : k < xs.length
    · obtain ⟨b, off, rfl, hb, c1, c2⟩ := (HT.out.go hw.out) k hlt
      obtain ⟨u, hu⟩ : ∃ u, fs xs k = u := ⟨_, rfl⟩
      obtain ⟨R, hR⟩ : ∃ R, sn xs k = R := ⟨_, rfl⟩
      rw [hu] at c1
      rw [hR] at c2
      rcases bcase (bkB u R) with h1 | h1
      · have K1 := Lib.hid (fun w => check_v (bkE_t h1) w)
        have HV := Lib.hid (show bkB (fs xs k) (sn xs k) = true by rw [hu, hR]; exact h1)
        clear h1 hu hR
        go_wp2_with fail
        refine (K1.out _).mono ?_; rintro e w1 ⟨rfl, gr⟩
        have G := Lib.hid ((hw.out.alloc _).trans gr); clear gr
        go_wp2_with fail
        go_roundw
        case rel =>
          refine ⟨k + 1, by omega, by go_num, Lib.hid (fun j hj => ?_), G⟩
          rcases Nat.lt_or_ge j k with h' | h'
          · exact hE.out j h'
          · obtain rfl : j = k := by omega
            exact HV.out
        case measure => simp [intOf]; omega
      · have K1 := Lib.hid (fun w => check_v (bkE_f h1) w)
        have HV := Lib.hid (show bkB (fs xs k) (sn xs k) = false by rw [hu, hR]; exact h1)
        clear h1 hu hR
        go_wp2_with fail
        refine (K1.out _).mono ?_; rintro e w1 ⟨rfl, gr⟩
        have G := Lib.hid ((hw.out.alloc _).trans gr); clear gr
        go_wp2_with fail
        go_ret
        exact ⟨ret_int (bksE_f hlt HV.out).symm, G.out⟩
    · obtain rfl : k = xs.length := by omega
      go_wp2_with fail
      go_ret
      exact ⟨ret_int (bksE_t hE.out).symm, hw.out⟩

theorem slow_any (u R r : Int) (b : Nat) (w : World) (k0 : w.cell? ⟨b, 0, none⟩ = some (.int .i64 r)) :
    Calls Try.prog 74 #[.agg #[.int .i64 u, .int .i64 R], .pointer (some ⟨b, 0, none⟩)] w fun e w' => e = .returned (.bool (decide (R ≤ r))) ∧ Bl w w' := by
  have hb : b < w.heap.size := cell_lt k0
  have k1 : (w.alloc (.cells #[.int .i64 u, .int .i64 R] 30)).cell? ⟨b, 0, none⟩ = some (.int .i64 r) := (((Bl.refl w).alloc _).cell (p := ⟨b, 0, none⟩) hb).trans k0
  go_enter Try.func74, Try.ntmps74
  go_wp2
  go_ret
  exact ⟨rfl, (Bl.refl w).alloc _⟩

set_option maxHeartbeats 1000000 in
theorem indexFunc_any (xs : List (Int × Int)) (A : Option Addr) (cap : Nat) (r : Int) (bs : Nat) (w : World) (hl : (xs.length : Int) ≤ 9223372036854775807) (h : Tr w A xs) (k0 : w.cell? ⟨bs, 0, none⟩ = some (.int .i64 r)) :
    Calls Try.prog 86 #[.slice A xs.length cap, .func (.func 74) #[] #[.pointer (some ⟨bs, 0, none⟩)]] w fun e w' => e = .returned (.int .i64 (slI xs r)) ∧ Bl w w' := by
  have HT := Lib.hid h; clear h
  have hb : bs < w.heap.size := cell_lt k0
  have K := Lib.hid (fun u R w' (g : Bl w w') => slow_any u R r bs w' ((g.cell (p := ⟨bs, 0, none⟩) hb).trans k0))
  clear hb k0
  go_enter Try.func86, Try.ntmps86
  go_wp2_with fail
  go_loopw [8] (fun iv wr => ∃ k : Nat, k ≤ xs.length ∧ iv = .int .i64 k ∧ Hid (∀ j, j < k → 0 ≤ sn xs j - r - 1) ∧ Hid (Bl w wr)) (fun iv _ => xs.length - (intOf iv).toNat)
  case atStart => exact ⟨0, by omega, rfl, Lib.hid (fun j hj => absurd hj (by omega)), Lib.hid (Bl.refl _)⟩
  case round =>
    obtain ⟨k, hk, rfl, hE, hw⟩ := hrel
    by_cases hlt : k < xs.length
    · obtain ⟨b, off, rfl, hb, c1, c2⟩ := (HT.out.go hw.out) k hlt
      obtain ⟨u, hu⟩ : ∃ u, fs xs k = u := ⟨_, rfl⟩
      obtain ⟨R, hR⟩ : ∃ R, sn xs k = R := ⟨_, rfl⟩
      rw [hu] at c1
      rw [hR] at c2
      by_cases h1 : R ≤ r
      · have HV := Lib.hid (show sn xs k - r - 1 < 0 by rw [hR]; omega)
        have K1 := Lib.hid (show Calls Try.prog 74 #[.agg #[.int .i64 u, .int .i64 R], .pointer (some ⟨bs, 0, none⟩)] wr fun e w' => e = .returned (.bool true) ∧ Bl wr w' by
          have := K.out u R wr hw.out; rw [decide_eq_true h1] at this; exact this)
        clear h1 hu hR
        go_wp2_with fail
        refine K1.out.mono ?_; rintro e w1 ⟨rfl, gr⟩
        have G := Lib.hid (hw.out.trans gr); clear gr
        go_wp2_with fail
        go_ret
        exact ⟨ret_int (fneg_yes hlt HV.out hE.out).symm, G.out⟩
      · have HV := Lib.hid (show 0 ≤ sn xs k - r - 1 by rw [hR]; omega)
        have K1 := Lib.hid (show Calls Try.prog 74 #[.agg #[.int .i64 u, .int .i64 R], .pointer (some ⟨bs, 0, none⟩)] wr fun e w' => e = .returned (.bool false) ∧ Bl wr w' by
          have := K.out u R wr hw.out; rw [decide_eq_false h1] at this; exact this)
        clear h1 hu hR
        go_wp2_with fail
        refine K1.out.mono ?_; rintro e w1 ⟨rfl, gr⟩
        have G := Lib.hid (hw.out.trans gr); clear gr
        go_wp2_with fail
        go_roundw
        case rel =>
          refine ⟨k + 1, by omega, by go_num, Lib.hid (fun j hj => ?_), G⟩
          rcases Nat.lt_or_ge j k with h' | h'
          · exact hE.out j h'
          · obtain rfl : j = k := by omega
            exact HV.out
        case measure => simp [intOf]; omega
    · obtain rfl : k = xs.length := by omega
      go_wp2_with fail
      go_ret
      exact ⟨ret_int (fneg_no hE.out).symm, hw.out⟩

theorem containsFunc_any (xs : List (Int × Int)) (A : Option Addr) (cap : Nat) (r : Int) (bs : Nat) (w : World) (hl : (xs.length : Int) ≤ 9223372036854775807) (h : Tr w A xs) (k0 : w.cell? ⟨bs, 0, none⟩ = some (.int .i64 r)) :
    Calls Try.prog 82 #[.slice A xs.length cap, .func (.func 74) #[] #[.pointer (some ⟨bs, 0, none⟩)]] w fun e w' => e = .returned (.bool (slB xs r)) ∧ Bl w w' := by
  have K := Lib.hid (indexFunc_any xs A cap r bs w hl h k0)
  clear h k0
  unfold slB
  generalize slI xs r = v at *
  go_enter Try.func82, Try.ntmps82
  go_wp2_with fail
  refine K.out.mono ?_; rintro e w1 ⟨rfl, gr⟩
  have G := Lib.hid gr; clear gr
  go_wp2_with fail
  go_ret
  exact ⟨rfl, G.out⟩

theorem cf2_any (b : Nat) (A : Option Addr) (n cap : Nat) (w : World) (hn : (n : Int) ≤ 9223372036854775807) (k0 : w.cell? ⟨b, 0, none⟩ = some (.slice A n cap)) :
    Calls Try.prog 75 #[.pointer (some ⟨b, 0, none⟩)] w fun e w' => e = .returned (.int .i64 (if n = 0 then 2 else 0)) ∧ Bl w w' := by
  have K := Lib.hid (fun c v w => unless_any c v w)
  by_cases h : 0 < (n : Int)
  · go_enter Try.func75, Try.ntmps75
    go_wp2_with fail
    refine (K.out _ _ _).mono ?_; rintro e w1 ⟨rfl, rfl⟩
    go_wp2_with fail
    go_ret
    exact ⟨rfl, Bl.refl _⟩
  · go_enter Try.func75, Try.ntmps75
    go_wp2_with fail
    refine (K.out _ _ _).mono ?_; rintro e w1 ⟨rfl, rfl⟩
    go_wp2_with fail
    go_ret
    exact ⟨rfl, Bl.refl _⟩
theorem cf3_any (b : Nat) (A : Option Addr) (n cap : Nat) (w : World) (hn : (n : Int) ≤ 9223372036854775807) (k0 : w.cell? ⟨b, 0, none⟩ = some (.slice A n cap)) :
    Calls Try.prog 77 #[.pointer (some ⟨b, 0, none⟩)] w fun e w' => e = .returned (.int .i64 (if n ≤ 12 then 0 else 3)) ∧ Bl w w' := by
  have K := Lib.hid (fun c v w => unless_any c v w)
  by_cases h : (n : Int) ≤ 12
  · go_enter Try.func77, Try.ntmps77
    go_wp2_with fail
    refine (K.out _ _ _).mono ?_; rintro e w1 ⟨rfl, rfl⟩
    go_wp2_with fail
    go_ret
    exact ⟨rfl, Bl.refl _⟩
  · go_enter Try.func77, Try.ntmps77
    go_wp2_with fail
    refine (K.out _ _ _).mono ?_; rintro e w1 ⟨rfl, rfl⟩
    go_wp2_with fail
    go_ret
    exact ⟨rfl, Bl.refl _⟩
theorem cf4_any (b : Nat) (A : Option Addr) (xs : List (Int × Int)) (cap : Nat) (w : World) (hn : (xs.length : Int) ≤ 9223372036854775807) (hT : Tr w A xs) (k0 : w.cell? ⟨b, 0, none⟩ = some (.slice A xs.length cap)) :
    Calls Try.prog 78 #[.pointer (some ⟨b, 0, none⟩)] w fun e w' => e = .returned (.int .i64 (bksE xs)) ∧ Bl w w' := by
  have K := Lib.hid (checkBuckets_any xs A cap w hn hT)
  clear hT
  go_enter Try.func78, Try.ntmps78
  go_wp2_with fail
  refine K.out.mono ?_; rintro e w1 ⟨rfl, gr⟩
  have G := Lib.hid gr; clear gr
  go_wp2_with fail
  go_ret
  exact ⟨rfl, G.out⟩
theorem cf5_any (b : Nat) (r l : Int) (w : World) (k0 : w.cell? ⟨b, 0, none⟩ = some (.int .i64 r)) (k1 : w.cell? ⟨b, 1, none⟩ = some (.int .i64 l)) :
    Calls Try.prog 80 #[.pointer (some ⟨b, 0, none⟩)] w fun e w' => e = .returned (.int .i64 (svE r l)) ∧ Bl w w' := by
  have K := Lib.hid (scheck_any r l w)
  go_enter Try.func80, Try.ntmps80
  go_wp2_with fail
  refine K.out.mono ?_; rintro e w1 ⟨rfl, gr⟩
  have G := Lib.hid gr; clear gr
  go_wp2_with fail
  go_ret
  exact ⟨rfl, G.out⟩
theorem cf6_any (b bf bs : Nat) (A : Option Addr) (xs : List (Int × Int)) (cap : Nat) (r : Int) (w : World) (hn : (xs.length : Int) ≤ 9223372036854775807) (hT : Tr w A xs) (k0 : w.cell? ⟨b, 0, none⟩ = some (.slice A xs.length cap))
    (k1 : w.cell? ⟨bf, 0, none⟩ = some (.func (.func 74) #[] #[.pointer (some ⟨bs, 0, none⟩)])) (k2 : w.cell? ⟨bs, 0, none⟩ = some (.int .i64 r)) :
    Calls Try.prog 81 #[.pointer (some ⟨b, 0, none⟩), .pointer (some ⟨bf, 0, none⟩)] w fun e w' => e = .returned (.int .i64 (if slB xs r then 0 else 141)) ∧ Bl w w' := by
  have K := Lib.hid (containsFunc_any xs A cap r bs w hn hT k2)
  have KU := Lib.hid (fun c v w => unless_any c v w)
  clear hT k2
  generalize slB xs r = c at *
  cases c
  · go_enter Try.func81, Try.ntmps81
    go_wp2_with fail
    refine K.out.mono ?_; rintro e w1 ⟨rfl, gr⟩
    have G := Lib.hid gr; clear gr
    go_wp2_with fail
    refine (KU.out _ _ _).mono ?_; rintro e w2 ⟨rfl, rfl⟩
    go_wp2_with fail
    go_ret
    exact ⟨rfl, G.out⟩
  · go_enter Try.func81, Try.ntmps81
    go_wp2_with fail
    refine K.out.mono ?_; rintro e w1 ⟨rfl, gr⟩
    have G := Lib.hid gr; clear gr
    go_wp2_with fail
    refine (KU.out _ _ _).mono ?_; rintro e w2 ⟨rfl, rfl⟩
    go_wp2_with fail
    go_ret
    exact ⟨rfl, G.out⟩

theorem first5 {f1 f2 f3 f4 f5 : FuncId} {c1 c2 c3 c4 c5 : Array Value} {e1 e2 e3 e4 e5 : Int} {b cap : Nat} {w : World} (hb : b < w.heap.size)
    (h1 : w.cell? ⟨b, 0, none⟩ = some (.func (.func f1) #[] c1)) (h2 : w.cell? ⟨b, 1, none⟩ = some (.func (.func f2) #[] c2)) (h3 : w.cell? ⟨b, 2, none⟩ = some (.func (.func f3) #[] c3)) (h4 : w.cell? ⟨b, 3, none⟩ = some (.func (.func f4) #[] c4)) (h5 : w.cell? ⟨b, 4, none⟩ = some (.func (.func f5) #[] c5))
    (E1 : Enters Try.prog f1) (E2 : Enters Try.prog f2) (E3 : Enters Try.prog f3) (E4 : Enters Try.prog f4) (E5 : Enters Try.prog f5)
    (K1 : ∀ w', Bl w w' → Calls Try.prog f1 c1 w' fun e w'' => e = .returned (.int .i64 e1) ∧ Bl w' w'')
    (K2 : ∀ w', Bl w w' → Calls Try.prog f2 c2 w' fun e w'' => e = .returned (.int .i64 e2) ∧ Bl w' w'')
    (K3 : ∀ w', Bl w w' → Calls Try.prog f3 c3 w' fun e w'' => e = .returned (.int .i64 e3) ∧ Bl w' w'')
    (K4 : ∀ w', Bl w w' → Calls Try.prog f4 c4 w' fun e w'' => e = .returned (.int .i64 e4) ∧ Bl w' w'')
    (K5 : ∀ w', Bl w w' → Calls Try.prog f5 c5 w' fun e w'' => e = .returned (.int .i64 e5) ∧ Bl w' w'') :
    Calls Try.prog 52 #[.slice (some ⟨b, 0, none⟩) 5 cap] w fun e w' => e = .returned (.int .i64 (if e1 = 0 then (if e2 = 0 then (if e3 = 0 then (if e4 = 0 then e5 else e4) else e3) else e2) else e1)) ∧ Bl w w' := by
  have pick : ∀ {p : Nat → Prop}, p 0 → p 1 → p 2 → p 3 → p 4 → ∀ k, k < 5 → p k := fun a b c d e k hk => by
    obtain rfl | rfl | rfl | rfl | rfl : k = 0 ∨ k = 1 ∨ k = 2 ∨ k = 3 ∨ k = 4 := by omega
    · exact a
    · exact b
    · exact c
    · exact d
    · exact e
  have h := cfirst_any 5 b cap (fun k => [f1, f2, f3, f4, f5].getD k 0) (fun k => [c1, c2, c3, c4, c5].getD k #[]) (fun k => [e1, e2, e3, e4, e5].getD k 0) w (by omega) hb
    (pick E1 E2 E3 E4 E5) (pick h1 h2 h3 h4 h5) (pick K1 K2 K3 K4 K5)
  have e : fstE (fun k => [e1, e2, e3, e4, e5].getD k 0) 5 = (if e1 = 0 then (if e2 = 0 then (if e3 = 0 then (if e4 = 0 then e5 else e4) else e3) else e2) else e1) := by
    by_cases z1 : e1 = 0
    · by_cases z2 : e2 = 0
      · by_cases z3 : e3 = 0
        · by_cases z4 : e4 = 0
          · simp [fstE, z1, z2, z3, z4]
          · simp [fstE, z1, z2, z3, z4]
        · simp [fstE, z1, z2, z3]
      · simp [fstE, z1, z2]
    · simp [fstE, z1]
  rw [e] at h; exact h

/-- What checkFlow gives. -/
def flE (xs : List (Int × Int)) (r l : Int) : Int :=
  if xs.length = 0 then 2 else if ¬ xs.length ≤ 12 then 3 else if bksB xs = false then 130 else if svB r l = false then 140 else if slB xs r = false then 141 else 0
theorem flE_eq (xs : List (Int × Int)) (r l : Int) :
    (if (if xs.length = 0 then (2 : Int) else 0) = 0 then (if (if xs.length ≤ 12 then (0 : Int) else 3) = 0 then (if bksE xs = 0 then (if svE r l = 0 then (if slB xs r then (0 : Int) else 141) else svE r l) else bksE xs) else (if xs.length ≤ 12 then (0 : Int) else 3)) else (if xs.length = 0 then (2 : Int) else 0)) = flE xs r l := by
  unfold flE bksE svE
  by_cases h1 : xs.length = 0
  · simp [h1]
  · by_cases h2 : xs.length ≤ 12
    · rcases bcase (bksB xs) with h3 | h3
      · rcases bcase (svB r l) with h4 | h4
        · rcases bcase (slB xs r) with h5 | h5
          · simp [h1, h2, h3, h4, h5]
          · simp [h1, h2, h3, h4, h5]
        · simp [h1, h2, h3, h4]
      · simp [h1, h2, h3]
    · simp [h1, h2]
theorem flE_ok {xs : List (Int × Int)} {r l : Int} : flE xs r l = 0 ↔ 1 ≤ xs.length ∧ xs.length ≤ 12 ∧ bksB xs = true ∧ svB r l = true ∧ slB xs r = true := by
  unfold flE
  by_cases h1 : xs.length = 0
  · simp [h1]
  · by_cases h2 : xs.length ≤ 12
    · rcases bcase (bksB xs) with h3 | h3
      · rcases bcase (svB r l) with h4 | h4
        · rcases bcase (slB xs r) with h5 | h5
          · simp [h1, h2, h3, h4, h5]; omega
          · simp [h1, h2, h3, h4, h5]
        · simp [h1, h2, h3, h4]
      · simp [h1, h2, h3]
    · simp [h1, h2]

set_option maxHeartbeats 1000000 in
theorem checkFlow_any (xs : List (Int × Int)) (A : Option Addr) (cap : Nat) (r l : Int) (w : World) (hn : (xs.length : Int) ≤ 9223372036854775807) (hT : Tr w A xs) :
    Calls Try.prog 56 #[.slice A xs.length cap, .agg #[.int .i64 r, .int .i64 l]] w fun e w' => e = .returned (.int .i64 (flE xs r l)) ∧ Bl w w' := by
  have HT := Lib.hid hT; clear hT
  have KF := Lib.hid (fun (bl bs bf c : Nat) (W : World) (g : Bl w W) (hc : c < W.heap.size) (k0 : W.cell? ⟨bl, 0, none⟩ = some (.slice A xs.length cap)) (k1 : W.cell? ⟨bs, 0, none⟩ = some (.int .i64 r)) (k2 : W.cell? ⟨bs, 1, none⟩ = some (.int .i64 l)) (k3 : W.cell? ⟨bf, 0, none⟩ = some (.func (.func 74) #[] #[.pointer (some ⟨bs, 0, none⟩)]))
      (h1 : W.cell? ⟨c, 0, none⟩ = some (.func (.func 75) #[] #[.pointer (some ⟨bl, 0, none⟩)]))
      (h2 : W.cell? ⟨c, 1, none⟩ = some (.func (.func 77) #[] #[.pointer (some ⟨bl, 0, none⟩)]))
      (h3 : W.cell? ⟨c, 2, none⟩ = some (.func (.func 78) #[] #[.pointer (some ⟨bl, 0, none⟩)]))
      (h4 : W.cell? ⟨c, 3, none⟩ = some (.func (.func 80) #[] #[.pointer (some ⟨bs, 0, none⟩)]))
      (h5 : W.cell? ⟨c, 4, none⟩ = some (.func (.func 81) #[] #[.pointer (some ⟨bl, 0, none⟩), .pointer (some ⟨bf, 0, none⟩)])) =>
    (by
      have h := first5 (cap := 5) hc h1 h2 h3 h4 h5 (enters_of Try.func75 (by kernel_rfl) rfl) (enters_of Try.func77 (by kernel_rfl) rfl) (enters_of Try.func78 (by kernel_rfl) rfl) (enters_of Try.func80 (by kernel_rfl) rfl) (enters_of Try.func81 (by kernel_rfl) rfl)
        (fun w' g' => cf2_any bl A xs.length cap w' hn ((g'.cell (p := ⟨bl, 0, none⟩) (cell_lt k0)).trans k0))
        (fun w' g' => cf3_any bl A xs.length cap w' hn ((g'.cell (p := ⟨bl, 0, none⟩) (cell_lt k0)).trans k0))
        (fun w' g' => cf4_any bl A xs cap w' hn ((HT.out.go g).go g') ((g'.cell (p := ⟨bl, 0, none⟩) (cell_lt k0)).trans k0))
        (fun w' g' => cf5_any bs r l w' ((g'.cell (p := ⟨bs, 0, none⟩) (cell_lt k1)).trans k1) ((g'.cell (p := ⟨bs, 1, none⟩) (cell_lt k2)).trans k2))
        (fun w' g' => cf6_any bl bf bs A xs cap r w' hn ((HT.out.go g).go g') ((g'.cell (p := ⟨bl, 0, none⟩) (cell_lt k0)).trans k0) ((g'.cell (p := ⟨bf, 0, none⟩) (cell_lt k3)).trans k3) ((g'.cell (p := ⟨bs, 0, none⟩) (cell_lt k1)).trans k1))
      rw [flE_eq] at h; exact h : Calls Try.prog 52 #[.slice (some ⟨c, 0, none⟩) 5 5] W fun e w' => e = .returned (.int .i64 (flE xs r l)) ∧ Bl W w'))
  generalize flE xs r l = v at *
  go_enter Try.func56, Try.ntmps56
  go_wp2_with fail
  refine Calls.mono (KF.out w.heap.size (w.heap.size + 1) (w.heap.size + 1 + 1) _ _ ?_ ?_ ?_ ?_ ?_ ?_ ?_ ?_ ?_ ?_ ?_) ?_
  · repeat (first | exact Bl.refl _ | with_reducible refine Bl.alloc ?_ _)
  · simp <;> omega
  iterate 9 (· simp [go_sem])
  rintro e w1 ⟨rfl, gr⟩
  have G := Lib.hid (Bl.trans ((((((Bl.refl w).alloc _).alloc _).alloc _).alloc _)) gr)
  clear gr KF
  go_wp2_with fail
  go_ret
  exact ⟨rfl, G.out⟩

end Go.Proofs.Ytgbbglnbolihfaa
