/-
  What octetSteps returns: the table of the 256 registers.
-/
import Derived.Test.YtnapelocjcoofaaKc
import Derived.Deep.WholeRow
namespace Go.Proofs.Ytnapelocjcoofaa
open Go.RowKit Go.Proofs.Ytnapelocjcoofaa.Cr

/-- The table after i rounds. -/
def tab (i : Nat) : Array Value := Array.ofFn (n := 256) fun j => if j.val < i then u32 (stN 8 j.val) else u32 0
theorem tab_size (i : Nat) : (tab i).size = 256 := by unfold tab; rw [Array.size_ofFn]
theorem tab_get (i j : Nat) (h : j < 256) : (tab i)[j]? = some (if j < i then u32 (stN 8 j) else u32 0) := by
  unfold tab
  rw [Array.getElem?_ofFn, dif_pos h]
theorem tab_zero : tab 0 = Array.replicate 256 (u32 0) := by
  unfold tab
  apply Array.ext
  · simp
  · intro j h1 h2; simp
theorem tab_set {i : Nat} (hi : i < 256) : (tab i).setIfInBounds i (u32 (stN 8 i)) = tab (i + 1) := by
  apply Array.ext_getElem?
  intro j
  rw [Array.getElem?_setIfInBounds, tab_size]
  by_cases hj : j < 256
  · rw [tab_get _ _ hj, tab_get _ _ hj]
    by_cases e : i = j
    · subst e
      rw [if_pos rfl, if_pos hi, if_pos (by omega)]
    · rw [if_neg e]
      by_cases hl : j < i
      · rw [if_pos hl, if_pos (by omega)]
      · rw [if_neg hl, if_neg (by omega)]
  · have h1 : ∀ k, (tab k)[j]? = none := fun k => by rw [Array.getElem?_eq_none]; rw [tab_size]; omega
    rw [h1, h1, if_neg (by omega)]
theorem tab_one (i : Nat) : (tab i).all (·.oneCell') = true := by
  rw [Array.all_eq_true]
  intro j hj
  rw [tab_size] at hj
  have h := tab_get i j hj
  rw [Array.getElem?_eq_getElem (by rw [tab_size]; exact hj)] at h
  rw [Option.some.inj h]
  split <;> rfl
set_option maxRecDepth 100000 in
theorem zero40 : (∀ w, (zeroValue 116).run Try.prog w = .ok (.agg (Array.replicate 256 (u32 0))) w) ∧ (Try.prog.info? 116).map (·.size) = some 256 :=
  zero_of_info (by kernel_rfl)
theorem under40 : Try.prog.underlying 116 = some (.array 256 51) := by kernel_rfl
theorem Bl.setRow {a b : World} (h : Bl a b) {g : Nat} (hg : a.heap.size ≤ g) (cs : Array Value) : Bl a (b.setRow g cs) :=
  ⟨h.os, h.tape, h.output, by rw [setRow_size]; exact h.size, fun i hi => (setRow_other _ _ _ _ (by omega)).trans (h.block i hi)⟩
theorem store_row {w : World} {g : Nat} {t : TypeId} {old T : Array Value} (hg : w.heap[g]? = some (.cells old t (0, 0))) (ho : old.size = T.size) (h1 : T.all (·.oneCell') = true) :
    (storeCells ⟨g, 0, none⟩ T.toList).run Try.prog w = .ok () (w.setRow g T) := by
  have h := run_storeCells_from (P := Try.prog) g t T.toList 0 old w hg (by simp; omega) (fun v hv => (Array.all_eq_true_iff_forall_mem.1 h1) v (by simpa using hv))
  simpa using h
theorem stN_snoc (k c : Nat) : stN (k + 1) c = st (stN k c) := by rw [stN_add]; rfl

set_option maxHeartbeats 1000000 in
set_option maxRecDepth 20000 in
theorem octetSteps_any (w : World) :
    Calls Try.prog 81 #[] w fun e w' => e = .returned (.agg (tab 256)) ∧ Bl w w' := by
  have hv := zero40.1
  rw [← tab_zero] at hv
  go_enter Try.func81, Try.ntmps81
  go_wp2
  go_loopw [4, 2, 3] (fun v _ _ wr => ∃ i : Nat, i ≤ 256 ∧ v = .int .u32 (i : Int) ∧ wr = (w.alloc (.cells (tab 0) 116)).alloc (.cells (tab i) 116)) (fun v _ _ _ => 256 - (intOf v).toNat)
  case atStart => exact ⟨0, by omega, rfl, rfl⟩
  case round =>
    obtain ⟨i, hi, rfl, rfl⟩ := hrel
    by_cases hlt : i < 256
    · have HS := Lib.hid (tab_set hlt)
      have HZ := Lib.hid (tab_size i)
      have KB := Lib.hid (fun k w => bitStep_any (stN k i) (stN_lt (by omega)) w)
      have HN := Lib.hid (fun k => stN_snoc k i)
      generalize tab i = T at *
      generalize tab 0 = Z at *
      unfold u32 at KB HS
      have hd : decide ((i : Int) < 256) = true := decide_eq_true (by omega)
      go_wp2
      go_loopw [8, 3] (fun v x wr => ∃ k : Nat, k ≤ 8 ∧ v = .int .i64 (k : Int) ∧ x = .int .u32 ((stN k i : Nat) : Int) ∧ wr = (w.alloc (.cells Z 116)).alloc (.cells T 116)) (fun v _ _ => 8 - (intOf v).toNat)
      case atStart => exact ⟨0, by omega, rfl, rfl, rfl⟩
      case round =>
        obtain ⟨k, hk, rfl, rfl, rfl⟩ := hrel
        by_cases hk8 : k < 8
        · go_wp2_with fail
          refine (KB.out k _).mono ?_; rintro e w1 ⟨rfl, rfl⟩
          go_wp2_with fail
          go_roundw
          case rel => exact ⟨k + 1, by omega, by go_num, by rw [HN.out], by trivial⟩
          case measure => simp [intOf]; omega
        · obtain rfl : k = 8 := by omega
          have hz := HZ.out
          go_wp2
          go_roundw
          case rel => exact ⟨i + 1, by omega, by go_num, by rw [HS.out]⟩
          case measure => simp [intOf]; omega
    · obtain rfl : i = 256 := by omega
      have h1 := Lib.hid (tab_one 256)
      have hT := Lib.hid (tab_size 256)
      have hZ := Lib.hid (tab_size 0)
      have hI := Lib.hid zero40.2
      clear hv hi hlt
      generalize hTe : tab 256 = T at *
      have HT := Lib.hid hTe
      clear hTe
      generalize tab 0 = Z at *
      go_wp2
      refine wp_load_row _ _ rfl (w.heap.size + 1) rfl _ _ _ _ (heap_alloc2_new w _ _) under40 rfl (by rw [hT.out]; exact hI.out) ?_
      go_wp2
      have hsc := store_row (heap_alloc2_old w (.cells Z 116) (.cells T 116)) (hZ.out.trans hT.out.symm) h1.out
      simp only [Result.andThen, hsc]
      rw [Oper.upon_skip]
      go_wp2
      refine bodyPost_ret (v := .agg T) ?_ rfl ⟨by rw [HT.out], (((Bl.refl w).alloc _).alloc _).setRow (Nat.le_refl _) _⟩
      exact results_cell_row rfl _ _ w.heap.size _ _ _ _ rfl (setRow_heap _ _ _ _ _ _ (heap_alloc2_old w _ _)) under40 rfl (by rw [hT.out]; exact hI.out)

end Go.Proofs.Ytnapelocjcoofaa
