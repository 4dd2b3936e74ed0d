/-
  What Lcm of package num returns for every slice of integers.
-/
import Derived.Test.YtcfdinfnahkanaaDoorNi
namespace Go.Proofs.YtcfdinfnahkanaaDoor
open Go.RowKit

/-- A slice of integers as it lies in memory: no address is needed where it is empty. -/
structure Row (w : World) (a : Option Addr) (zs : List Int) : Prop where
  len : zs.length ≤ 9223372036854775807
  at_ : ∀ k, k < zs.length → ∃ b off, a = some ⟨b, off, none⟩ ∧ b < w.heap.size ∧ w.cell? ⟨b, off + k, none⟩ = some (.int .i64 (zs.getD k 0))
theorem Row.grown {w w' : World} {a : Option Addr} {zs : List Int} (h : Row w a zs) (g : Grown w w') : Row w' a zs :=
  ⟨h.len, fun k hk => by
    obtain ⟨b, off, h1, h2, h3⟩ := h.at_ k hk
    exact ⟨b, off, h1, Nat.lt_of_lt_of_le h2 g.2.2, (grown_cell g h2).trans h3⟩⟩

set_option maxHeartbeats 400000 in
theorem inRange_any (zs : List Int) (a : Option Addr) (cap : Nat) (w : World) (h : Row w a zs) :
    Calls Tryd.prog 33 #[.slice a zs.length cap] w fun e w' => e = .returned (.bool (allB zs)) ∧ w = w' := by
  have hl := h.len
  have HC := Lib.hid h.at_; clear h
  go_enter Tryd.func33, Tryd.ntmps33
  go_wp2
  go_loop [4, 7] (fun _ i => ∃ k : Nat, k ≤ zs.length ∧ i = .int .i64 k ∧ Hid (allB (zs.take k) = true)) (fun _ i => zs.length - (intOf i).toNat)
  case atStart => exact ⟨0, Nat.zero_le _, rfl, by unfold Hid; rfl⟩
  case round =>
    obtain ⟨k, hk, rfl, ha⟩ := hrel
    by_cases hlt : k < zs.length
    · obtain ⟨b, off, ea, hb, hcell⟩ := HC.out k hlt
      have h1 := allB_take zs k hlt
      have h2 := allB_of_bad zs k hlt
      generalize hz : zs.getD k 0 = z at hcell h1 h2
      have HZ := Lib.hid hz; clear hz
      have H1 := Lib.hid h1; clear h1
      have H2 := Lib.hid h2; clear h2
      clear HC
      subst ea
      by_cases hin : -1125899906842624 ≤ z ∧ z ≤ 1125899906842624
      · obtain ⟨hi1, hi2⟩ := hin
        go_wp2
        go_round
        case rel => exact ⟨k + 1, by omega, by go_num, by unfold Hid; rw [H1.out, ha.out, inB_iff.2 ⟨hi1, hi2⟩]; rfl⟩
        case measure => simp [intOf]; omega
      · by_cases hlo : z < -1125899906842624
        · go_wp2
          go_ret
          exact ⟨ret_bool (H2.out (inB_not.2 hin)).symm, rfl⟩
        · have hhi : 1125899906842624 < z := by omega
          go_wp2
          go_ret
          exact ⟨ret_bool (H2.out (inB_not.2 hin)).symm, rfl⟩
    · go_wp2
      go_ret
      have e : zs.take k = zs := List.take_of_length_le (by omega)
      exact ⟨ret_bool (by rw [← ha.out, e]), rfl⟩

/-- The multiple that one more element makes. -/
def lcmV (acc n : Int) : Int := acc * (n / gcdV acc n)
def lcmS : Int → List Int → Option Int
  | acc, [] => some acc
  | acc, n :: r => if inB (lcmV acc n) then lcmS (lcmV acc n) r else none
theorem lcmS_cons (acc n : Int) (r : List Int) : lcmS acc (n :: r) = if inB (lcmV acc n) then lcmS (lcmV acc n) r else none := rfl
def okE (n : Int) : Bool := inB n && decide (1 ≤ n)
def lcmO (l : List Int) : Option Int := if l.all okE then lcmS 1 l else none
def ores : Option Int → Ending
  | some v => .returned (.tuple #[.int .i64 v, .bool true])
  | none => .returned (.tuple #[.int .i64 0, .bool false])

theorem gcdV_pos (acc n : Int) (h1 : 1 ≤ acc) (h2 : acc ≤ 1125899906842624) (h3 : 1 ≤ n) (h4 : n ≤ 1125899906842624) : 1 ≤ gcdV acc n ∧ 1 ≤ n / gcdV acc n ∧ n / gcdV acc n ≤ 1125899906842624 ∧ n / gcdV acc n * gcdV acc n = n ∧ 1 ≤ lcmV acc n := by
  have e : gcdV acc n = ((Nat.gcd acc.natAbs n.natAbs : Nat) : Int) := by
    unfold gcdV; rw [if_pos (by rw [inB_iff.2 ⟨by omega, h2⟩, inB_iff.2 ⟨by omega, h4⟩]; rfl)]
  have hp : 0 < Nat.gcd acc.natAbs n.natAbs := Nat.gcd_pos_of_pos_right _ (by omega)
  have hd : Nat.gcd acc.natAbs n.natAbs ∣ n.natAbs := Nat.gcd_dvd_right _ _
  have en : ((n.natAbs : Nat) : Int) = n := by omega
  have hi : gcdV acc n ∣ n := by
    have := Int.natCast_dvd_natCast.2 hd
    rw [en] at this
    rw [e]; exact this
  have hm := Int.ediv_mul_cancel hi
  have g1 : 1 ≤ gcdV acc n := by omega
  have q1 : 1 ≤ n / gcdV acc n := by
    apply Int.le_of_sub_one_lt
    apply Int.lt_of_not_ge
    intro hle
    have h5 : n / gcdV acc n * gcdV acc n ≤ 0 * gcdV acc n := Int.mul_le_mul_of_nonneg_right (by omega) (by omega)
    omega
  have q2 : n / gcdV acc n * 1 ≤ n / gcdV acc n * gcdV acc n := Int.mul_le_mul_of_nonneg_left g1 (by omega)
  refine ⟨g1, q1, by omega, hm, ?_⟩
  have := Int.mul_le_mul h1 q1 (by omega) (by omega)
  unfold lcmV
  omega

theorem okE_bad (zs : List Int) (k : Nat) (h : k < zs.length) (hb : okE (zs.getD k 0) = false) : lcmO zs = none := by
  unfold lcmO
  rw [if_neg]
  intro hall
  have := List.all_eq_true.1 hall (zs.getD k 0) (by simp only [List.getD_eq_getElem?_getD, List.getElem?_eq_getElem h, Option.getD_some]; exact List.getElem_mem h)
  rw [hb] at this
  exact absurd this (by decide)
theorem okE_allB (zs : List Int) (h : allB zs = false) : lcmO zs = none := by
  unfold allB at h
  rw [List.all_eq_false] at h
  obtain ⟨x, hx, hb⟩ := h
  unfold lcmO
  rw [if_neg]
  intro hall
  have := List.all_eq_true.1 hall x hx
  unfold okE at this
  rw [Bool.and_eq_true] at this
  exact hb this.1
theorem inB_of_allB (zs : List Int) (k : Nat) (h : k < zs.length) (ha : allB zs = true) : inB (zs.getD k 0) = true := by
  refine List.all_eq_true.1 ha _ ?_
  simp only [List.getD_eq_getElem?_getD, List.getElem?_eq_getElem h, Option.getD_some]
  exact List.getElem_mem h
theorem drop_cons (zs : List Int) (k : Nat) (h : k < zs.length) : zs.drop k = zs.getD k 0 :: zs.drop (k + 1) := by
  rw [List.drop_eq_getElem_cons h]
  simp [h]

/-- How far Lcm has come: the first k elements are at least 1, and what is left to do from acc gives the result. -/
def Sofar (zs : List Int) (acc : Int) (k : Nat) : Prop := (zs.take k).all okE = true ∧ lcmS 1 zs = lcmS acc (zs.drop k)
theorem Sofar.next {zs : List Int} {acc : Int} {k : Nat} (h : Sofar zs acc k) (hk : k < zs.length) (ho : okE (zs.getD k 0) = true) :
    (inB (lcmV acc (zs.getD k 0)) = true → Sofar zs (lcmV acc (zs.getD k 0)) (k + 1)) ∧ (inB (lcmV acc (zs.getD k 0)) = false → lcmO zs = none) := by
  obtain ⟨h1, h2⟩ := h
  rw [drop_cons zs k hk, lcmS_cons] at h2
  constructor
  · intro hb
    rw [if_pos hb] at h2
    refine ⟨?_, h2⟩
    rw [List.take_succ_eq_append_getElem hk, List.all_append, h1]
    simp only [List.getD_eq_getElem?_getD, List.getElem?_eq_getElem hk, Option.getD_some] at ho
    simp [ho]
  · intro hb
    rw [if_neg (by rw [hb]; simp)] at h2
    unfold lcmO
    split
    · exact h2
    · rfl
theorem Sofar.done {zs : List Int} {acc : Int} {k : Nat} (h : Sofar zs acc k) (hk : zs.length ≤ k) : lcmO zs = some acc := by
  obtain ⟨h1, h2⟩ := h
  rw [List.take_of_length_le hk] at h1
  rw [List.drop_of_length_le hk] at h2
  unfold lcmO
  rw [if_pos h1, h2]
  rfl
theorem Sofar.start (zs : List Int) : Sofar zs 1 0 := ⟨rfl, rfl⟩

set_option maxHeartbeats 1000000 in
theorem lcm_any (zs : List Int) (a : Option Addr) (cap : Nat) (w : World) (hT : Tab w) (h : Row w a zs) :
    Calls Tryd.prog 29 #[.slice a zs.length cap] w fun e w' => e = ores (lcmO zs) ∧ Grown w w' := by
  have hl := h.len
  have IR := fun w h => inRange_any zs a cap w h
  rcases bcase (allB zs) with hall | hall
  · rw [hall] at IR
    have HI := Lib.hid IR; clear IR
    have HT := Lib.hid hT; clear hT
    have HR := Lib.hid h; clear h
    have HA := Lib.hid hall; clear hall
    go_enter Tryd.func29, Tryd.ntmps29
    go_wp2_with (go_at_call 33; refine (HI.out _ HR.out).mono ?_; rintro e w' ⟨rfl, rfl⟩)
    go_loopw [14] (fun i wr => ∃ (k : Nat) (acc : Int), k ≤ zs.length ∧ i = .int .i64 k ∧ 1 ≤ acc ∧ acc ≤ 1125899906842624 ∧ wr.cell? ⟨w.heap.size, 0, none⟩ = some (.int .i64 acc) ∧ wr.frozen? ⟨w.heap.size, 0, none⟩ = false ∧ w.heap.size < wr.heap.size ∧ Hid (Grown w wr) ∧ Hid (Sofar zs acc k)) (fun i _ => zs.length - (intOf i).toNat)
    case atStart => exact ⟨0, 1, Nat.zero_le _, rfl, by omega, by omega, by simp [go_sem], by simp [go_sem], by simp, (Grown.refl _).alloc _ _, Sofar.start zs⟩
    case round =>
      obtain ⟨k, acc, hk, rfl, a1, a2, hcell, hfro, hsz, hgw, hso⟩ := hrel
      by_cases hlt : k < zs.length
      · obtain ⟨b, off, ea, hb, hz⟩ := (HR.out.grown hgw.out).at_ k hlt
        have hin := inB_of_allB zs k hlt HA.out
        have hbad := okE_bad zs k hlt
        have hnext := fun h => hso.out.next hlt h
        generalize hzz : zs.getD k 0 = n at *
        obtain ⟨hn1, hn2⟩ := inB_iff.1 hin
        have HN := Lib.hid hnext; clear hnext
        have HB := Lib.hid hbad; clear hbad
        have HTr := HT.out.grown hgw.out
        have HT2 := Lib.hid HTr; clear HTr hzz hin hb
        subst ea
        by_cases hn : n < 1
        · go_wp2_with (go_at_call 42; refine (incl_small _ _ _ hn).mono ?_; rintro e w' ⟨rfl, rfl⟩)
          go_ret2
          rw [HB.out (by unfold okE; rw [decide_eq_false (by omega)]; simp)]
          exact ⟨rfl, hgw.out⟩
        · have hn' : 1 ≤ n := by omega
          obtain ⟨g1, q1, q2, _, v1⟩ := gcdV_pos acc n a1 a2 hn' hn2
          have ho : okE n = true := by unfold okE; rw [inB_iff.2 ⟨hn1, hn2⟩, decide_eq_true hn']; rfl
          obtain ⟨s1, s2⟩ := HN.out ho
          have hMul : ∀ w, Calls Tryd.prog 16 #[.int .i64 acc, .int .i64 (n / gcdV acc n)] w fun e w' => e = .returned (.tuple #[.int .i64 (okv (inB (lcmV acc n)) (lcmV acc n)), .bool (inB (lcmV acc n))]) ∧ Grown w w' := fun w => by
            have := mul_any acc (n / gcdV acc n) w
            rw [inB_iff.2 ⟨show -1125899906842624 ≤ acc by omega, a2⟩, inB_iff.2 ⟨show -1125899906842624 ≤ n / gcdV acc n by omega, q2⟩] at this
            exact this
          have inc := fun (p : Addr) (wz : World) (hc : wz.cell? p = some (.int .i64 acc)) (ha : p.block < wz.heap.size) (hf : wz.frozen? p = false) (hT : Tab wz) => incl_core n acc _ _ _ p wz hn' hn2 (fun w hT => gcd_any acc n w hT) g1 rfl q1 q2 hc ha hf hT _ hMul
          clear g1 q1 q2 hMul ho HN HB
          obtain ⟨v, hv⟩ : ∃ v, lcmV acc n = v := ⟨_, rfl⟩
          rw [hv] at v1 s1 s2 inc
          clear hv
          rcases bcase (inB v) with hc | hc
          · rw [hc, okv_t rfl] at inc
            have s1' := Lib.hid (s1 hc)
            obtain ⟨_, v2⟩ := inB_iff.1 hc
            have INC := Lib.hid inc
            clear s1 s2 inc hc
            go_wp2_with (go_at_call 42; refine (INC.out _ _ hcell hsz hfro HT2.out).mono ?_; rintro e w' ⟨rfl, w1, hg1, rfl⟩)
            have c1 := (grown_cell hg1 (p := ⟨w.heap.size, 0, none⟩) hsz).trans hcell
            have f1 := (hg1.2.1 ⟨w.heap.size, 0, none⟩).trans hfro
            have z1 := Nat.lt_of_lt_of_le hsz hg1.2.2
            go_roundw
            case rel => exact ⟨k + 1, v, by omega, by go_num, v1, v2, World.cell?_setCell_same _ _ _ c1, by rw [World.frozen?_setCell]; exact f1, by simpa [World.setCell] using z1, (grown_trans hgw.out hg1).setCell (Nat.le_refl _) _, s1'.out⟩
            case measure => simp [intOf]; omega
          · rw [hc, okv_f rfl] at inc
            have s2' := Lib.hid (s2 hc)
            have INC := Lib.hid inc
            clear s1 s2 inc hc
            go_wp2_with (go_at_call 42; refine (INC.out _ _ hcell hsz hfro HT2.out).mono ?_; rintro e w' ⟨rfl, w1, hg1, rfl⟩)
            go_ret2
            rw [s2'.out]
            exact ⟨rfl, (grown_trans hgw.out hg1).setCell (Nat.le_refl _) _⟩
      · go_wp2
        go_ret2
        rw [hso.out.done (by omega)]
        exact ⟨rfl, hgw.out⟩
  · rw [hall] at IR
    have HI := Lib.hid IR; clear IR
    have e0 : Hid (lcmO zs = none) := okE_allB zs hall
    clear hall
    go_enter Tryd.func29, Tryd.ntmps29
    go_wp2_with (go_at_call 33; refine (HI.out _ h).mono ?_; rintro e w' ⟨rfl, rfl⟩)
    go_ret2
    rw [e0.out]
    exact ⟨rfl, Grown.refl _⟩

end Go.Proofs.YtcfdinfnahkanaaDoor
