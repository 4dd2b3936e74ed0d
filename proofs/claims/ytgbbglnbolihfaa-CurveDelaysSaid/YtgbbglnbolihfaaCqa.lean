/-
  CurveKnown: values of its examples.
-/
import Derived.Test.YtgbbglnbolihfaaCk
import Derived.Test.YtgbbglnbolihfaaBw
import Derived.Test.YtgbbglnbolihfaaCn
namespace Go.Proofs.Ytgbbglnbolihfaa
open Go.ChangeShapes Go.WideShapes Go.ChangeAt Go.WideMaps Go.WideElems Go.RowKit

theorem five_services (k : Nat) (hk : k < 5) : ∃ p q : Int, svB p q = false ∧ ∀ w, (Instr.index 87 (.agg #[.int .i64 0, .int .i64 0, .int .i64 1, .int .i64 (-1), .int .i64 2097153, .int .i64 0, .int .i64 1, .int .i64 268435457, .int .i64 (-1), .int .i64 5]) (.int .i64 k)).run Try.prog w = .ok (.agg #[.int .i64 p, .int .i64 q]) w := by
  match k, hk with
  | 0, _ => exact ⟨0, 0, by decide, fun _ => by kernel_rfl⟩
  | 1, _ => exact ⟨1, -1, by decide, fun _ => by kernel_rfl⟩
  | 2, _ => exact ⟨2097153, 0, by decide, fun _ => by kernel_rfl⟩
  | 3, _ => exact ⟨1, 268435457, by decide, fun _ => by kernel_rfl⟩
  | 4, _ => exact ⟨-1, 5, by decide, fun _ => by kernel_rfl⟩
theorem kn_fl {u R p q : Int} (hb : bkB u R = true) (h : svB p q = false) : flE [(u, R)] p q = 140 := by
  unfold flE
  rw [if_neg (by simp), if_neg (by simp), if_neg (by rw [bksB_iff.2 (fun k hk => by obtain rfl : k = 0 := by simp at hk; omega
                                                                                    exact hb)]; decide), if_pos h]
theorem kn_fl2 {p q : Int} : flE [(1, 1), (0, 0)] p q = 130 := by
  have h : bksB [(1, 1), (0, 0)] = false := by decide +kernel
  unfold flE
  rw [if_neg (by simp), if_neg (by simp), if_pos h]
theorem kn_de {xs : List (Int × Int)} {p q E : Int} (h : flE xs p q = E) (hE : E ≠ 0) : deV xs p q = 0 := deV_no (by rw [h]; exact hE)
theorem kn_dr {p q : Int} (h : svB p q = false) : drE [] p q = 140 := by
  unfold drE
  rw [if_pos (rtB_iff.2 ⟨by simp, fun k hk => absurd hk (by simp)⟩), svE_f h]
theorem kn_dr2 {p q : Int} : drE [(-1, 1)] p q = 131 := by
  have h : rtB [(-1, 1)] = false := by decide +kernel
  unfold drE
  rw [if_neg (by rw [h]; decide)]
theorem kn_jo {p q : Int} (h : svB p q = false) : joE 1 0 p q = 140 := joE_no (by rw [h]; simp)

theorem info_bkt : (Try.prog.info? 30).map (fun i => (i.zero, i.size, i.bytes)) = some (some (.agg #[.int .i64 0, .int .i64 0]), 2, 16) := by kernel_rfl
theorem made26 : madeCells (Value.agg #[.int .i64 0, .int .i64 0]).cells 26 = #[.int .i64 0, .int .i64 0, .int .i64 0, .int .i64 0, .int .i64 0, .int .i64 0, .int .i64 0, .int .i64 0, .int .i64 0, .int .i64 0, .int .i64 0, .int .i64 0, .int .i64 0, .int .i64 0, .int .i64 0, .int .i64 0, .int .i64 0, .int .i64 0, .int .i64 0, .int .i64 0, .int .i64 0, .int .i64 0, .int .i64 0, .int .i64 0, .int .i64 0, .int .i64 0] := by kernel_rfl
theorem make13 (W : World) : (Instr.makeSlice 39 (.int .i64 13) (.int .i64 13)).run Try.prog W = .ok (.slice (some ⟨W.heap.size, 0, none⟩) 13 13) (W.alloc (.cells #[.int .i64 0, .int .i64 0, .int .i64 0, .int .i64 0, .int .i64 0, .int .i64 0, .int .i64 0, .int .i64 0, .int .i64 0, .int .i64 0, .int .i64 0, .int .i64 0, .int .i64 0, .int .i64 0, .int .i64 0, .int .i64 0, .int .i64 0, .int .i64 0, .int .i64 0, .int .i64 0, .int .i64 0, .int .i64 0, .int .i64 0, .int .i64 0, .int .i64 0, .int .i64 0] 30)) := by
  obtain ⟨i0, hi, hz0, hz1, hz2⟩ := info_parts info_bkt
  have h := run_make (P := Try.prog) (w := W) 39 30 i0 (.agg #[.int .i64 0, .int .i64 0]) Try.underlying39 hi hz0 .i64 .i64 13 13 (by decide) (by decide) (by rw [hz2]; decide) (by decide)
  rw [hz1] at h
  have e : (13 : Int).toNat = 13 := rfl
  rw [e, made26] at h
  exact h
set_option maxRecDepth 10000 in
theorem tr13 {W w' : World} (g : Bl (W.alloc (.cells #[.int .i64 0, .int .i64 0, .int .i64 0, .int .i64 0, .int .i64 0, .int .i64 0, .int .i64 0, .int .i64 0, .int .i64 0, .int .i64 0, .int .i64 0, .int .i64 0, .int .i64 0, .int .i64 0, .int .i64 0, .int .i64 0, .int .i64 0, .int .i64 0, .int .i64 0, .int .i64 0, .int .i64 0, .int .i64 0, .int .i64 0, .int .i64 0, .int .i64 0, .int .i64 0] 30)) w') : Tr w' (some ⟨W.heap.size, 0, none⟩) (List.replicate 13 (0, 0)) := by
  refine Tr.go (w := W.alloc (.cells #[.int .i64 0, .int .i64 0, .int .i64 0, .int .i64 0, .int .i64 0, .int .i64 0, .int .i64 0, .int .i64 0, .int .i64 0, .int .i64 0, .int .i64 0, .int .i64 0, .int .i64 0, .int .i64 0, .int .i64 0, .int .i64 0, .int .i64 0, .int .i64 0, .int .i64 0, .int .i64 0, .int .i64 0, .int .i64 0, .int .i64 0, .int .i64 0, .int .i64 0, .int .i64 0] 30)) (fun k hk => ?_) g
  have hk' : k < 13 := by simpa using hk
  have e1 : fs (List.replicate 13 (0, 0)) k = 0 := by unfold fs; rw [List.getD_eq_getElem?_getD, List.getElem?_replicate_of_lt hk']; rfl
  have e2 : sn (List.replicate 13 (0, 0)) k = 0 := by unfold sn; rw [List.getD_eq_getElem?_getD, List.getElem?_replicate_of_lt hk']; rfl
  rw [e1, e2]
  refine ⟨W.heap.size, 0, rfl, by simp, ?_, ?_⟩
  · match k, hk' with
    | 0, _ => simp [go_sem]
    | 1, _ => simp [go_sem]
    | 2, _ => simp [go_sem]
    | 3, _ => simp [go_sem]
    | 4, _ => simp [go_sem]
    | 5, _ => simp [go_sem]
    | 6, _ => simp [go_sem]
    | 7, _ => simp [go_sem]
    | 8, _ => simp [go_sem]
    | 9, _ => simp [go_sem]
    | 10, _ => simp [go_sem]
    | 11, _ => simp [go_sem]
    | 12, _ => simp [go_sem]
  · match k, hk' with
    | 0, _ => simp [go_sem]
    | 1, _ => simp [go_sem]
    | 2, _ => simp [go_sem]
    | 3, _ => simp [go_sem]
    | 4, _ => simp [go_sem]
    | 5, _ => simp [go_sem]
    | 6, _ => simp [go_sem]
    | 7, _ => simp [go_sem]
    | 8, _ => simp [go_sem]
    | 9, _ => simp [go_sem]
    | 10, _ => simp [go_sem]
    | 11, _ => simp [go_sem]
    | 12, _ => simp [go_sem]

theorem kl1 : flE [] 1 0 = 2 ∧ deV [] 1 0 = 0 := by decide +kernel
theorem kl2 : flE (List.replicate 13 (0, 0)) 1 0 = 3 ∧ deV (List.replicate 13 (0, 0)) 1 0 = 0 := by decide +kernel
theorem kl3 : flE [(1, 2)] 1 0 = 141 ∧ baV 1 2 1 0 = 0 := by decide +kernel
theorem kl4 : ouB 1048576 1 1 0 = 0 ∧ ouR 1048576 1 1 0 = 0 ∧ ouE 1048576 1 1 0 = 6 := by decide +kernel
theorem kl5 : joR 1 268435456 1 1 = 0 ∧ joL 1 268435456 1 1 = 0 ∧ joE 1 268435456 1 1 = 6 := by decide +kernel
theorem kl6 : joR 9 268435455 7 1 = 7 ∧ joL 9 268435455 7 1 = 268435456 ∧ joE 9 268435455 7 1 = 0 := by decide +kernel
theorem kl7 : drE [] 1 0 = 0 := by decide +kernel
theorem km1 : deV [(1, 1)] 1 0 = 1048576 ∧ flE [(1, 1)] 1 0 = 0 := by decide +kernel
theorem km2 : deV [(1048576, 1)] 1 0 = 1099511627776 ∧ flE [(1048576, 1)] 1 0 = 0 := by decide +kernel
theorem km3 : deV [(10, 1048576), (10, 2097152)] 1048576 3 = 13 ∧ flE [(10, 1048576), (10, 2097152)] 1048576 3 = 0 := by decide +kernel
theorem km4 : deV [(10, 1), (10, 2097152), (10, 2097152)] 1048576 3 = 13 ∧ flE [(10, 1), (10, 2097152), (10, 2097152)] 1048576 3 = 0 := by decide +kernel
theorem km5 : deV [(20, 1048576), (10, 2097152)] 1048576 3 = 23 ∧ flE [(20, 1048576), (10, 2097152)] 1048576 3 = 0 := by decide +kernel

end Go.Proofs.Ytgbbglnbolihfaa
