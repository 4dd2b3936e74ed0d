/-
  What Least of package bucket and of its reference return.
-/
import Derived.Test.YtlpbmhiipiaiaaaBi
namespace Go.Proofs.Ytlpbmhiipiaiaaa
open Go.RowKit

/-- What Least gives. -/
def leV (R : Int) (xs : List (Int × Int)) : Int × Int := if btB 1 R 2097152 then (if rtB xs then (if lea xs R ≤ 1048576 then (lea xs R, 0) else (0, 6)) else (0, 131)) else (0, 2)
theorem leV_ok {R : Int} {xs : List (Int × Int)} (h : btB 1 R 2097152 = true) (k : rtB xs = true) (l : lea xs R ≤ 1048576) : leV R xs = (lea xs R, 0) := by unfold leV; rw [if_pos h, if_pos k, if_pos l]
theorem leV_big {R : Int} {xs : List (Int × Int)} (h : btB 1 R 2097152 = true) (k : rtB xs = true) (l : ¬ lea xs R ≤ 1048576) : leV R xs = (0, 6) := by unfold leV; rw [if_pos h, if_pos k, if_neg l]
theorem leV_tr {R : Int} {xs : List (Int × Int)} (h : btB 1 R 2097152 = true) (k : rtB xs = false) : leV R xs = (0, 131) := by unfold leV; rw [if_pos h, if_neg (by simp [k])]
theorem leV_arg {R : Int} {xs : List (Int × Int)} (h : btB 1 R 2097152 = false) : leV R xs = (0, 2) := by unfold leV; rw [if_neg (by simp [h])]

set_option maxHeartbeats 1000000 in
theorem least_any (R : Int) (xs : List (Int × Int)) (A : Option Addr) (cap : Nat) (w : World) (hl : (xs.length : Int) ≤ 9223372036854775807) (hT : Tr w A xs) :
    Calls Try.prog 27 #[.int .i64 R, .slice A xs.length cap] w fun e w' => e = ires (leV R xs) ∧ Bl w w' := by
  have HL := Lib.hid hl; clear hl
  have T0 := Lib.hid hT
  rcases bcase (btB 1 R 2097152) with hR | hR
  · have K1 := Lib.hid (fun w => between_v hR w)
    rcases bcase (rtB xs) with ht | ht
    · have K2 := Lib.hid (fun w (h : Tr w A xs) => checkTrace_v (rtE_t ht) A cap w HL.out h)
      obtain ⟨M, hM⟩ : ∃ M, M = min (lea xs R - 1) 1048576 := ⟨_, rfl⟩
      have K3 := Lib.hid (fun w (h : Tr w A xs) Br Bs => search_any R xs A cap M Br Bs w hM hR ht h)
      have hp := lea_pos xs R
      obtain ⟨v, E, hvE⟩ : ∃ v E, leV R xs = (v, E) := ⟨_, _, rfl⟩
      by_cases hb : lea xs R ≤ 1048576
      · have E1 := Lib.hid ((leV_ok hR ht hb).trans (show (lea xs R, (0 : Int)) = (M + 1, 0) by rw [show lea xs R = M + 1 by omega]))
        have m0 : 0 ≤ M := by omega
        have m1 : M < 1048576 := by omega
        clear hb hp hM hR ht hT hvE
        go_enter Try.func27, Try.ntmps27
        go_wp2_with fail
        refine (K1.out _).mono ?_; rintro e w1 ⟨rfl, rfl⟩
        go_wp2_with fail
        refine (K2.out _ (T0.out.go (((Bl.refl w).alloc _).alloc _))).mono ?_; rintro e w1 ⟨rfl, gr⟩
        have c0 := (gr.cell (p := ⟨w.heap.size, 0, none⟩) (by simp; omega)).trans (show _ = some (.int .i64 R) by simp [go_sem])
        have c1 := (gr.cell (p := ⟨w.heap.size + 1, 0, none⟩) (by simp)).trans (show _ = some (.slice A xs.length cap) by simp [go_sem])
        have z1 : w.heap.size + 1 < w1.heap.size := by have := gr.size; simp at this; omega
        have G1 := Lib.hid ((((Bl.refl w).alloc _).alloc _).trans gr); clear gr
        go_wp2_with fail
        refine (K3.out _ (T0.out.go G1.out) _ _ (by omega) z1 c0 c1).mono ?_; rintro e w2 ⟨rfl, gr⟩
        have G2 := Lib.hid (G1.out.trans gr); clear gr c0 c1 z1
        go_wp2_with fail
        go_ret2
        exact ⟨ires_mk E1.out, G2.out⟩
      · have E1 := Lib.hid (leV_big hR ht hb)
        have m0 : M = 1048576 := by omega
        subst m0
        clear hb hp hM hR ht hT hvE
        go_enter Try.func27, Try.ntmps27
        go_wp2_with fail
        refine (K1.out _).mono ?_; rintro e w1 ⟨rfl, rfl⟩
        go_wp2_with fail
        refine (K2.out _ (T0.out.go (((Bl.refl w).alloc _).alloc _))).mono ?_; rintro e w1 ⟨rfl, gr⟩
        have c0 := (gr.cell (p := ⟨w.heap.size, 0, none⟩) (by simp; omega)).trans (show _ = some (.int .i64 R) by simp [go_sem])
        have c1 := (gr.cell (p := ⟨w.heap.size + 1, 0, none⟩) (by simp)).trans (show _ = some (.slice A xs.length cap) by simp [go_sem])
        have z1 : w.heap.size + 1 < w1.heap.size := by have := gr.size; simp at this; omega
        have G1 := Lib.hid ((((Bl.refl w).alloc _).alloc _).trans gr); clear gr
        go_wp2_with fail
        refine (K3.out _ (T0.out.go G1.out) _ _ (by omega) z1 c0 c1).mono ?_; rintro e w2 ⟨rfl, gr⟩
        have G2 := Lib.hid (G1.out.trans gr); clear gr c0 c1 z1
        go_wp2_with fail
        go_ret2
        exact ⟨ires_mk E1.out, G2.out⟩
    · have K2 := Lib.hid (fun w (h : Tr w A xs) => checkTrace_v (rtE_f ht) A cap w HL.out h)
      have E1 := Lib.hid (leV_tr hR ht)
      clear hR ht hT
      go_enter Try.func27, Try.ntmps27
      go_wp2_with fail
      refine (K1.out _).mono ?_; rintro e w1 ⟨rfl, rfl⟩
      go_wp2_with fail
      refine (K2.out _ (T0.out.go (((Bl.refl w).alloc _).alloc _))).mono ?_; rintro e w1 ⟨rfl, gr⟩
      have G1 := Lib.hid ((((Bl.refl w).alloc _).alloc _).trans gr); clear gr
      go_wp2_with fail
      go_ret2
      exact ⟨ires_mk E1.out, G1.out⟩
  · have K1 := Lib.hid (fun w => between_v hR w)
    have E1 := Lib.hid (leV_arg (xs := xs) hR)
    clear hR hT
    go_enter Try.func27, Try.ntmps27
    go_wp2_with fail
    refine (K1.out _).mono ?_; rintro e w1 ⟨rfl, rfl⟩
    go_wp2_with fail
    go_ret2
    exact ⟨ires_mk E1.out, ((Bl.refl w).alloc _).alloc _⟩
theorem least_v {R v E : Int} {xs : List (Int × Int)} (h : leV R xs = (v, E)) (A : Option Addr) (cap : Nat) (w : World) (hl : (xs.length : Int) ≤ 9223372036854775807) (hT : Tr w A xs) :
    Calls Try.prog 27 #[.int .i64 R, .slice A xs.length cap] w fun e w' => e = .returned (.tuple #[.int .i64 v, .int .i64 E]) ∧ Bl w w' := by
  have := least_any R xs A cap w hl hT; rw [h] at this; exact this

set_option maxHeartbeats 2000000 in
theorem rleast_any (R : Int) (xs : List (Int × Int)) (A : Option Addr) (cap : Nat) (w : World) (hl : (xs.length : Int) ≤ 9223372036854775807) (hT : Tr w A xs) :
    Calls Try.prog 28 #[.int .i64 R, .slice A xs.length cap] w fun e w' => e = ires (leV R xs) ∧ Bl w w' := by
  have T0 := Lib.hid hT
  rcases bcase (btB 1 R 2097152) with hR | hR
  · obtain ⟨hR1, hR2⟩ := btB_iff.1 hR
    rcases bcase (rtB xs) with ht | ht
    · have K2 := Lib.hid (fun w (h : Tr w A xs) => rightTrace_v ht A cap w hl h)
      obtain ⟨hlen, hx⟩ := rtB_iff.1 ht
      have HX := Lib.hid hx
      have HR := Lib.hid hR
      have HT := Lib.hid ht
      clear hR ht hT hl hx
      go_enter Try.func28, Try.ntmps28
      go_wp2_with fail
      refine (K2.out _ T0.out).mono ?_; rintro e w1 ⟨rfl, rfl⟩
      go_wp2_with fail
      go_loopw [6, 7] (fun mv iv wr => ∃ (i : Nat) (M : Int), i ≤ xs.length ∧ iv = .int .i64 i ∧ mv = .int .i64 M ∧ 1 ≤ M ∧ M ≤ 210763776 ∧ Hid (∀ B, M ≤ B ↔ 1 ≤ B ∧ ∀ j, j < i → ∀ m, j + m < xs.length → inI xs B R j m) ∧ Hid (∃ n, wr = w.drewN n)) (fun _ iv _ => xs.length - (intOf iv).toNat)
      case atStart => exact ⟨0, 1, Nat.zero_le _, rfl, rfl, by omega, by omega, fun B => ⟨fun h => ⟨h, fun j hj => absurd hj (by omega)⟩, fun h => h.1⟩, 0, rfl⟩
      case round =>
        obtain ⟨i, M, hk, rfl, rfl, hM1, hM2, ha, hw⟩ := hrel
        obtain ⟨n0, e0⟩ := hw.out
        subst e0
        clear hw
        by_cases hlt : i < xs.length
        · go_wp2_with fail
          go_loopw [6, 8, 9] (fun mv sv jv wr => ∃ (j : Nat) (M : Int), j ≤ xs.length ∧ jv = .int .i64 j ∧ mv = .int .i64 M ∧ sv = .int .i64 (sm xs i (j - i)) ∧ 1 ≤ M ∧ M ≤ 210763776 ∧ Hid (i ≤ j) ∧ Hid (∀ B, M ≤ B ↔ 1 ≤ B ∧ (∀ j, j < i → ∀ m, j + m < xs.length → inI xs B R j m) ∧ ∀ m, i + m < j → inI xs B R i m) ∧ Hid (∃ n, wr = w.drewN n)) (fun _ _ j _ => xs.length - (intOf j).toNat)
          case atStart => exact ⟨i, M, by omega, rfl, rfl, by rw [Nat.sub_self]; rfl, hM1, hM2, Nat.le_refl i, fun B => ⟨fun h => ⟨((ha.out B).1 h).1, ((ha.out B).1 h).2, fun m' hm' => absurd hm' (by omega)⟩, fun h => (ha.out B).2 ⟨h.1, h.2.1⟩⟩, _, rfl⟩
          case round =>
            clear ha hM1 hM2
            obtain ⟨j, M, hj, rfl, rfl, rfl, hM1, hM2, hij, hi, hw⟩ := hrel
            obtain ⟨n1, e1⟩ := hw.out
            subst e1
            clear hw
            by_cases hlt2 : j < xs.length
            · obtain ⟨b, off, ea, hb, c1, c2⟩ := T0.out j hlt2
              obtain ⟨b', off', ea', _, d1, _⟩ := T0.out i hlt
              subst ea
              obtain ⟨rfl, rfl⟩ : b = b' ∧ off = off' := by simpa using ea'
              clear ea'
              have hjm : i + (j - i) = j := by have := hij.out; omega
              have q1 := sm_step xs i (j - i)
              have q2 := sm_bd HX.out i (j - i) (by omega)
              have q3 := sm_bd HX.out i (j - i + 1) (by omega)
              have q4 := fs_mono HX.out i (j - i) (by omega)
              have q5 := fs_bd HX.out i hlt
              have q6 := fs_bd HX.out j hlt2
              have q7 : ∀ B, inI xs B R i (j - i) ↔ _ := fun B => inI_iff xs B R i (j - i)
              have q8 := HX.out j hlt2
              unfold okAt at q8
              rw [hjm] at q1 q4
              simp only [hjm] at q7
              have q9 : sm xs i (j + 1 - i) = sm xs i (j - i + 1) := by rw [show j + 1 - i = j - i + 1 by have := hij.out; omega]
              have Q9 := Lib.hid q9
              clear q9
              have ql : ((j - i : Nat) : Int) ≤ 200 := by omega
              have qn : ((j - i + 1 : Nat) : Int) ≤ 201 := by omega
              obtain ⟨z', hz'⟩ : ∃ z, fs xs j = z := ⟨_, rfl⟩
              obtain ⟨z, hz⟩ : ∃ z, fs xs i = z := ⟨_, rfl⟩
              obtain ⟨s, hs⟩ : ∃ s, sn xs j = s := ⟨_, rfl⟩
              obtain ⟨S, hS⟩ : ∃ S, sm xs i (j - i) = S := ⟨_, rfl⟩
              obtain ⟨S', hS'⟩ : ∃ S, sm xs i (j - i + 1) = S := ⟨_, rfl⟩
              rw [hz'] at c1 q4 q6
              rw [hz] at d1 q4 q5
              rw [hs] at c2 q1 q8
              rw [hS] at q1 q2 ⊢
              rw [hS'] at q1 q3 Q9
              simp only [hz, hz', hS'] at q7
              clear hz hz' hs hS hS'
              obtain ⟨P, hP⟩ : ∃ P, R * (z' - z) = P := ⟨_, rfl⟩
              have p0 : 0 ≤ P := by rw [← hP]; exact Int.mul_nonneg (by omega) (by omega)
              have p1 : P ≤ 2305843009213693952 := by
                have e1 : R * (z' - z) ≤ 2097152 * (z' - z) := Int.mul_le_mul_of_nonneg_right hR2 (by omega)
                omega
              simp only [hP] at q7
              obtain ⟨Q, hQ⟩ : ∃ Q, P / 1048576 = Q := ⟨_, rfl⟩
              have q7' : ∀ B, inI xs B R i (j - i) ↔ S' - Q ≤ B := fun B => by rw [q7 B]; omega
              have Q7 := Lib.hid q7'
              clear q7 q7'
              have q21 := q2.1
              have q22 : S ≤ 209715200 := by omega
              have q31 := q3.1
              have q32 : S' ≤ 210763776 := by omega
              have q51 := q5.1
              have q52 := q5.2
              have q61 := q6.1
              have q62 := q6.2
              obtain ⟨⟨_, _⟩, q83, q84⟩ := q8
              have b0 : 0 ≤ Q := by omega
              have b1 : Q ≤ 2199023255552 := by omega
              clear q2 q3 q5 q6 ql qn hjm
              have t0 : P.tdiv 1048576 = Q := by rw [Int.tdiv_eq_ediv_of_nonneg p0]; exact hQ
              have w0 : IntKind.i64.wrap (S + s) = S + s := IntWalk.i64_in _ (by omega)
              have w1 : IntKind.i64.wrap (S' - Q) = S' - Q := IntWalk.i64_in _ (by omega)
              have w2 : IntKind.i64.wrap Q = Q := IntWalk.i64_in _ (by omega)
              have w3 : IntKind.i64.wrap (z' - z) = z' - z := IntWalk.i64_in _ (by omega)
              have w4 : IntKind.i64.wrap P = P := IntWalk.i64_in _ (by omega)
              go_wp2_with fail
              go_quiet (fail)
              obtain ⟨M', hM'⟩ : ∃ M', (if M < S' - Q then S' - Q else M) = M' := ⟨_, rfl⟩
              have m1 : 1 ≤ M' := by rw [← hM']; split <;> omega
              have m2 : M' ≤ 210763776 := by rw [← hM']; split <;> omega
              have m3 : ∀ B, M' ≤ B ↔ M ≤ B ∧ S' - Q ≤ B := fun B => by rw [← hM']; split <;> omega
              have M3 := Lib.hid m3
              rw [hM']
              clear hM' m3 w0 w1 w2 w3 w4 t0 hQ
              go_wp2_with fail
              go_roundw
              case rel =>
                refine ⟨j + 1, M', by omega, by go_num, rfl, by rw [Q9.out], m1, m2, Nat.le_succ_of_le hij.out, fun B => ?_, _, rfl⟩
                rw [M3.out B, hi.out B, ← Q7.out B]
                constructor
                · rintro ⟨⟨h1, h2, h3⟩, h4⟩
                  refine ⟨h1, h2, fun m' hm' => ?_⟩
                  rcases Nat.lt_or_ge (i + m') j with h' | h'
                  · exact h3 m' h'
                  · obtain rfl : m' = j - i := by omega
                    exact h4
                · rintro ⟨h1, h2, h3⟩
                  exact ⟨⟨h1, h2, fun m' hm' => h3 m' (by omega)⟩, h3 (j - i) (by have := hij.out; omega)⟩
              case measure => simp [intOf]; omega
            · go_wp2_with fail
              go_roundw
              case rel =>
                refine ⟨i + 1, M, by omega, by go_num, rfl, hM1, hM2, fun B => ?_, _, rfl⟩
                rw [hi.out B]
                refine and_congr Iff.rfl ⟨fun h j' hj' m' hm' => ?_, fun h => ⟨fun j' hj' => h j' (by omega), fun m' hm' => h i (by omega) m' (by omega)⟩⟩
                rcases Nat.lt_or_ge j' i with h' | h'
                · exact h.1 j' h' m' hm'
                · obtain rfl : j' = i := by omega
                  exact h.2 m' (by omega)
              case measure => simp [intOf]; omega
        · have hM := lea_eq (xs := xs) (R := R) (M := M) (fun B => by
            rw [ha.out B]
            exact and_congr Iff.rfl ⟨fun h j' m' hm' => h j' (by omega) m' hm', fun h j' _ m' hm' => h j' m' hm'⟩)
          have HM := Lib.hid hM
          clear hM
          by_cases hb : M ≤ 1048576
          · go_wp2_with fail
            go_ret2
            exact ⟨ires_mk (by rw [leV_ok HR.out HT.out (by rw [HM.out]; exact hb), HM.out]), (Bl.refl w).drewN _⟩
          · go_wp2_with fail
            go_ret2
            exact ⟨ires_mk (leV_big HR.out HT.out (by rw [HM.out]; omega)), (Bl.refl w).drewN _⟩
    · have K2 := Lib.hid (fun w (h : Tr w A xs) => rightTrace_v ht A cap w hl h)
      have E1 := Lib.hid (leV_tr hR ht)
      clear hR ht hT hl
      go_enter Try.func28, Try.ntmps28
      go_wp2_with fail
      refine (K2.out _ T0.out).mono ?_; rintro e w1 ⟨rfl, rfl⟩
      go_wp2_with fail
      go_ret2
      exact ⟨ires_mk E1.out, Bl.refl _⟩
  · have E1 := Lib.hid (leV_arg (xs := xs) hR)
    have hR' := btB_not.1 hR
    clear hR hT
    by_cases h1 : R < 1
    · go_enter Try.func28, Try.ntmps28
      go_wp2_with fail
      go_ret2
      exact ⟨ires_mk E1.out, Bl.refl _⟩
    · have h2 : 2097152 < R := by omega
      clear hR'
      go_enter Try.func28, Try.ntmps28
      go_wp2_with fail
      go_ret2
      exact ⟨ires_mk E1.out, Bl.refl _⟩
theorem rleast_v {R v E : Int} {xs : List (Int × Int)} (h : leV R xs = (v, E)) (A : Option Addr) (cap : Nat) (w : World) (hl : (xs.length : Int) ≤ 9223372036854775807) (hT : Tr w A xs) :
    Calls Try.prog 28 #[.int .i64 R, .slice A xs.length cap] w fun e w' => e = .returned (.tuple #[.int .i64 v, .int .i64 E]) ∧ Bl w w' := by
  have := rleast_any R xs A cap w hl hT; rw [h] at this; exact this

end Go.Proofs.Ytlpbmhiipiaiaaa
