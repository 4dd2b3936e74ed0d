/-
  What of, is and small of the statements' package, and Of of the reference, return.
-/
import Derived.Test.YtgbjooecomgfoaaRm
import Derived.Deep.RegionHeld3
namespace Go.Proofs.Ytgbjooecomgfoaa
open Go.RowKit

set_option maxHeartbeats 400000 in
theorem of_any (n d : Int) (w : World) :
    Calls Try.prog 35 #[.int .i64 n, .int .i64 d] w fun e w' => e = .returned (.agg #[.int .i64 n, .int .i64 d]) ∧ Grown w w' := by
  go_enter Try.func35, Try.ntmps35
  go_wp2_with fail
  refine bodyPost_ret (v := .agg #[.int .i64 n, .int .i64 d]) (by simp [results, Try.results35, go_sem]) rfl ⟨rfl, ?_⟩
  (repeat (first | with_reducible exact Grown.refl _ | with_reducible refine Grown.setCell ?_ (by simp) _ | with_reducible refine Grown.alloc ?_ _ _ | with_reducible refine grown_dr ?_ _))

/-- Two cells stay as they are, through calls that make memory. -/
theorem keep2_first {w : World} {a b : Addr} {u v : Value} (h : w.cell? a = some u) (k : w.cell? b = some v) : w.drew.cell? a = some u ∧ w.drew.cell? b = some v ∧ Grown w w.drew := ⟨h, k, (Grown.refl w).drew⟩
theorem keep2_step {w w1 w2 : World} {a b : Addr} {u v : Value} (h : w1.cell? a = some u ∧ w1.cell? b = some v ∧ Grown w w1) (ha : Hid (a.block < w.heap.size)) (hb : Hid (b.block < w.heap.size)) (g : Grown w1 w2) :
    w2.cell? a = some u ∧ w2.cell? b = some v ∧ Grown w w2 :=
  ⟨(grown_cell g (Nat.lt_of_lt_of_le ha.out h.2.2.2.2)).trans h.1, (grown_cell g (Nat.lt_of_lt_of_le hb.out h.2.2.2.2)).trans h.2.1, grown_trans h.2.2 g⟩

set_option maxHeartbeats 1000000 in
theorem is_yes (n d : Int) (w : World) :
    Calls Try.prog 36 #[.agg #[.int .i64 n, .int .i64 d], .int .i64 0, .int .i64 n, .int .i64 d] w fun e w' => e = .returned (.bool true) ∧ Grown w w' := by
  have O := fun w => of_any n d w
  have HO := Lib.hid O; clear O
  go_enter Try.func36, Try.ntmps36
  go_wp2_with fail
  have c0 : (w.alloc (.cells #[.int .i64 n, .int .i64 d] 23)).cell? ⟨w.heap.size, 0, none⟩ = some (.int .i64 n) := by simp [go_sem]
  have c1 : (w.alloc (.cells #[.int .i64 n, .int .i64 d] 23)).cell? ⟨w.heap.size, 1, none⟩ = some (.int .i64 d) := by simp [go_sem]
  have HA : Hid (w.heap.size < (w.alloc (.cells #[.int .i64 n, .int .i64 d] 23)).heap.size) := by unfold Hid; simp
  have GW : Hid (Grown w (w.alloc (.cells #[.int .i64 n, .int .i64 d] 23))) := (Grown.refl w).alloc _ _
  generalize (w.alloc (.cells #[.int .i64 n, .int .i64 d] 23)) = W at *
  generalize w.heap.size = A at *
  go_region_held3 (fun w' => w'.cell? ⟨A, 0, none⟩ = some (.int .i64 n) ∧ w'.cell? ⟨A, 1, none⟩ = some (.int .i64 d) ∧ Grown W w') (first | exact keep2_first c0 c1 | assumption | (refine keep2_step ?_ HA HA hgr; assumption)) (first | (go_at_call 35; refine (HO.out _).mono ?_; rintro e w' ⟨rfl, hgr⟩))
  all_goals go_wp2_with fail
  all_goals go_ret
  all_goals exact ⟨rfl, grown_trans GW.out (And.right (And.right (by assumption)))⟩

end Go.Proofs.Ytgbjooecomgfoaa
