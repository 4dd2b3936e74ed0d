/-
  Slices of integers; what areCuts of package merge and allowed of the reference return.
-/
import Derived.Test.YtnapelocjcoofaaEf
namespace Go.Proofs.Ytnapelocjcoofaa
open Go.RowKit Go.Proofs.Ytnapelocjcoofaa.Cr

/-- A slice of integers as it lies in memory. -/
def Iz (w : World) (A : Option Addr) (cs : List Int) : Prop :=
  ∀ k, k < cs.length → ∃ b off, A = some ⟨b, off, none⟩ ∧ b < w.heap.size ∧ w.cell? ⟨b, off + k, none⟩ = some (.int .i64 (cu cs k))
theorem Iz.go {w w' : World} {A : Option Addr} {cs : List Int} (h : Iz w A cs) (g : Bl w w') : Iz w' A cs := fun k hk => by
  obtain ⟨b, off, h1, h2, h3⟩ := h k hk
  exact ⟨b, off, h1, Nat.lt_of_lt_of_le h2 g.size, (g.cell (p := ⟨b, _, none⟩) h2).trans h3⟩
theorem Iz.nil {w : World} {A : Option Addr} : Iz w A [] := fun k hk => absurd hk (by simp)
theorem Iz.take {w : World} {A : Option Addr} {cs : List Int} (h : Iz w A cs) (n : Nat) : Iz w A (cs.take n) := fun k hk => by
  rw [List.length_take] at hk
  obtain ⟨b, off, h1, h2, h3⟩ := h k (by omega)
  refine ⟨b, off, h1, h2, ?_⟩
  rw [h3]
  unfold cu
  simp [List.getD_eq_getElem?_getD, List.getElem?_take_of_lt (show k < n by omega)]
/-- Integers of 64 bits. -/
def I64 (cs : List Int) : Prop := ∀ k, k < cs.length → -9223372036854775808 ≤ cu cs k ∧ cu cs k ≤ 9223372036854775807
theorem I64.take {cs : List Int} (h : I64 cs) (n : Nat) : I64 (cs.take n) := fun k hk => by
  rw [List.length_take] at hk
  have h1 := h k (by omega)
  have e : cu (cs.take n) k = cu cs k := by
    unfold cu
    simp [List.getD_eq_getElem?_getD, List.getElem?_take_of_lt (show k < n by omega)]
  rw [e]; exact h1
/-- Cut k is allowed behind the one before. -/
def okI (n : Nat) (cs : List Int) (k : Nat) : Prop := cu cs k ≤ (n : Int) - 64 ∧ 0 ≤ cu cs k ∧ 60 ≤ cu cs k - la cs k
theorem okC_bad {n : Nat} {cs : List Int} {k : Nat} (h : k < cs.length) (hb : ¬ okI n cs k) : okC n cs = false := decide_eq_false fun g => hb (g k h)
theorem okC_all {n : Nat} {cs : List Int} (h : ∀ k, k < cs.length → okI n cs k) : okC n cs = true := decide_eq_true h
theorem la_in {n : Nat} {cs : List Int} {k : Nat} (hn : (64 : Int) ≤ n) (h : ∀ j, j < k → okI n cs j) : 0 ≤ la cs k ∧ la cs k ≤ (n : Int) - 64 := by
  unfold la
  split
  · omega
  · have := h (k - 1) (by omega)
    unfold okI at this
    omega

set_option maxHeartbeats 400000 in
theorem areCuts_any (n : Nat) (hn : (64 : Int) ≤ n ∧ (n : Int) ≤ 1522) (cs : List Int) (A : Option Addr) (cap : Nat) (w : World) (hl : (cs.length : Int) ≤ 9223372036854775807) (h64 : I64 cs) (h : Iz w A cs) :
    Calls Try.prog 38 #[.slice A cs.length cap, .int .i64 (n : Int)] w fun e w' => e = .returned (.bool (okC n cs)) ∧ w = w' := by
  have HC := Lib.hid h; clear h
  have H6 := Lib.hid h64; clear h64
  obtain ⟨hn1, hn2⟩ := hn
  go_enter Try.func38, Try.ntmps38
  go_wp2
  go_loop [5, 10] (fun l i => ∃ k : Nat, k ≤ cs.length ∧ i = .int .i64 k ∧ l = .int .i64 (la cs k) ∧ Hid (∀ j, j < k → okI n cs j)) (fun _ i => cs.length - (intOf i).toNat)
  case atStart => exact ⟨0, Nat.zero_le _, rfl, rfl, fun j hj => absurd hj (by omega)⟩
  case round =>
    obtain ⟨k, hk, rfl, rfl, ha⟩ := hrel
    by_cases hlt : k < cs.length
    · obtain ⟨b, off, ea, hb, h3⟩ := HC.out k hlt
      have h6 := H6.out k hlt
      have hv : cu cs k ≤ (n : Int) - 64 ∧ 0 ≤ cu cs k ∧ 60 ≤ cu cs k - la cs k → okI n cs k := id
      have hx : ¬ (cu cs k ≤ (n : Int) - 64 ∧ 0 ≤ cu cs k ∧ 60 ≤ cu cs k - la cs k) → okC n cs = false := fun h => okC_bad hlt h
      have hp : la cs (k + 1) = cu cs k := la_succ cs k
      have hq := la_in hn1 ha.out
      obtain ⟨hq1, hq2⟩ := hq
      obtain ⟨h61, h62⟩ := h6
      generalize la cs k = p at *
      generalize cu cs k = z at *
      have HV := Lib.hid hv; clear hv
      have HN := Lib.hid hx; clear hx
      have HP := Lib.hid hp; clear hp
      clear HC
      subst ea
      by_cases d1 : z < p + 60
      · go_wp2
        go_ret
        exact ⟨ret_bool (HN.out (by omega)).symm, rfl⟩
      · by_cases d2 : (n : Int) - 64 < z
        · go_wp2
          go_ret
          exact ⟨ret_bool (HN.out (by omega)).symm, rfl⟩
        · go_wp2
          go_round
          case rel =>
            refine ⟨k + 1, by omega, by go_num, by rw [HP.out], fun j hj => ?_⟩
            rcases Nat.lt_or_ge j k with hj' | hj'
            · exact ha.out j hj'
            · obtain rfl : j = k := by omega
              exact HV.out (by omega)
          case measure => simp [intOf]; omega
    · go_wp2
      go_ret
      exact ⟨ret_bool (okC_all fun j hj => ha.out j (by omega)).symm, rfl⟩
set_option maxHeartbeats 400000 in
theorem allowed_any (s : ByteArray) (hn : (64 : Int) ≤ s.size ∧ (s.size : Int) ≤ 1522) (cs : List Int) (A : Option Addr) (cap : Nat) (w : World) (hl : (cs.length : Int) ≤ 9223372036854775807) (h64 : I64 cs) (h : Iz w A cs) :
    Calls Try.prog 42 #[.string s, .slice A cs.length cap] w fun e w' => e = .returned (.bool (okC s.size cs)) ∧ w = w' := by
  have HC := Lib.hid h; clear h
  have H6 := Lib.hid h64; clear h64
  obtain ⟨hn1, hn2⟩ := hn
  go_enter Try.func42, Try.ntmps42
  go_wp2
  go_loop [5, 6] (fun l i => ∃ k : Nat, k ≤ cs.length ∧ i = .int .i64 k ∧ l = .int .i64 (la cs k) ∧ Hid (∀ j, j < k → okI s.size cs j)) (fun _ i => cs.length - (intOf i).toNat)
  case atStart => exact ⟨0, Nat.zero_le _, rfl, rfl, fun j hj => absurd hj (by omega)⟩
  case round =>
    obtain ⟨k, hk, rfl, rfl, ha⟩ := hrel
    by_cases hlt : k < cs.length
    · obtain ⟨b, off, ea, hb, h3⟩ := HC.out k hlt
      have h6 := H6.out k hlt
      have hv : cu cs k ≤ (s.size : Int) - 64 ∧ 0 ≤ cu cs k ∧ 60 ≤ cu cs k - la cs k → okI s.size cs k := id
      have hx : ¬ (cu cs k ≤ (s.size : Int) - 64 ∧ 0 ≤ cu cs k ∧ 60 ≤ cu cs k - la cs k) → okC s.size cs = false := fun h => okC_bad hlt h
      have hp : la cs (k + 1) = cu cs k := la_succ cs k
      have hq := la_in hn1 ha.out
      obtain ⟨hq1, hq2⟩ := hq
      obtain ⟨h61, h62⟩ := h6
      generalize la cs k = p at *
      generalize cu cs k = z at *
      have HV := Lib.hid hv; clear hv
      have HN := Lib.hid hx; clear hx
      have HP := Lib.hid hp; clear hp
      clear HC
      subst ea
      by_cases d2 : (s.size : Int) - 64 < z
      · go_wp2
        go_ret
        exact ⟨ret_bool (HN.out (by omega)).symm, rfl⟩
      · by_cases d3 : z < 0
        · go_wp2
          go_ret
          exact ⟨ret_bool (HN.out (by omega)).symm, rfl⟩
        · by_cases d1 : z - p < 60
          · go_wp2
            go_ret
            exact ⟨ret_bool (HN.out (by omega)).symm, rfl⟩
          · go_wp2
            go_round
            case rel =>
              refine ⟨k + 1, by omega, by go_num, by rw [HP.out], fun j hj => ?_⟩
              rcases Nat.lt_or_ge j k with hj' | hj'
              · exact ha.out j hj'
              · obtain rfl : j = k := by omega
                exact HV.out (by omega)
            case measure => simp [intOf]; omega
    · go_wp2
      go_ret
      exact ⟨ret_bool (okC_all fun j hj => ha.out j (by omega)).symm, rfl⟩

end Go.Proofs.Ytnapelocjcoofaa
