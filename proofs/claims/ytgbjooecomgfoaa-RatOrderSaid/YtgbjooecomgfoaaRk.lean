/-
  What Cmp of package rat and of its reference return.
-/
import Derived.Test.YtgbjooecomgfoaaRj
namespace Go.Proofs.Ytgbjooecomgfoaa
open Go.RowKit

/-- How two fractions compare: by their cross products. -/
def cmpI (a b c d : Int) : Int := if a * d < c * b then -1 else if c * b < a * d then 1 else 0
def cmpR (a b c d : Int) : Int × Int := if bothV a b c d = 0 then (cmpI a b c d, 0) else (0, 120)
def ires (t : Int × Int) : Ending := .returned (.tuple #[.int .i64 t.1, .int .i64 t.2])
theorem cmpR_yes {a b c d : Int} (h : bothV a b c d = 0) : cmpR a b c d = (cmpI a b c d, 0) := if_pos h
theorem cmpR_no {a b c d : Int} (h : bothV a b c d = 120) : cmpR a b c d = (0, 120) := if_neg (by rw [h]; decide)
theorem cmpI_lt {a b c d : Int} (h : a * d < c * b) : cmpI a b c d = -1 := if_pos h
theorem cmpI_gt {a b c d : Int} (h : c * b < a * d) : cmpI a b c d = 1 := by unfold cmpI; rw [if_neg (by omega), if_pos h]
theorem cmpI_eq {a b c d : Int} (h : a * d = c * b) : cmpI a b c d = 0 := by unfold cmpI; rw [if_neg (by omega), if_neg (by omega)]
theorem ires_eq {t : Int × Int} {n e : Int} (h : t = (n, e)) : Ending.returned (.tuple #[.int .i64 n, .int .i64 e]) = ires t := by rw [h]; rfl
theorem ratI {n d : Int} (h : Fr.right n d) : ∃ q : Rat, q.num = n ∧ (q.den : Int) = d ∧ Fr.lim q := Fr.rat_of h
/-- Valid fractions with equal cross products are the same. -/
theorem same_of {a b c d : Int} (h : Fr.right a b) (k : Fr.right c d) (e : a * d = c * b) : a = c ∧ b = d := by
  obtain ⟨p, p1, p2, _⟩ := ratI h
  obtain ⟨q, q1, q2, _⟩ := ratI k
  have : p = q := (Fr.cross_eq p q).1 (by rw [p1, p2, q1, q2]; omega)
  subst this
  exact ⟨p1.symm.trans q1, p2.symm.trans q2⟩

set_option maxHeartbeats 1000000 in
theorem cmp_any (a b c d : Int) (w : World) :
    Calls Try.prog 24 #[.agg #[.int .i64 a, .int .i64 b], .agg #[.int .i64 c, .int .i64 d]] w fun e w' => e = ires (cmpR a b c d) ∧ Grown w w' := by
  have hmf : ∀ (fn : Fn) (first cap : Array Value) (w : World), (Instr.makeFunc fn first cap).run Try.prog w = .ok (.func fn first cap) w := fun _ _ _ _ => rfl
  rcases both_ways a b c d with ⟨hv, r1, r2⟩ | hv
  · rw [cmpR_yes hv]
    have X := Sm.of r1 r2
    have S := same_of r1 r2
    have R := fun w A B hk => crossCmp a b c d (a * d) (c * b) A B w hv hk
    have K := fun w A B => cloCmp a b c d w A B X
    have ht : a * d < c * b → cmpI a b c d = -1 := cmpI_lt
    have hg : c * b < a * d → cmpI a b c d = 1 := cmpI_gt
    have he : a * d = c * b → cmpI a b c d = 0 := cmpI_eq
    have HE : Hid ((a = c ∧ b = d) → a * d = c * b) := fun ⟨h1, h2⟩ => by rw [h1, h2]
    generalize (a * d) = p at *
    generalize (c * b) = q at *
    have HR := Lib.hid R; clear R hv
    have HK := Lib.hid K; clear K X r1 r2
    have HS := Lib.hid S; clear S
    have HT := Lib.hid ht; clear ht
    have HG := Lib.hid hg; clear hg
    have HQ := Lib.hid he; clear he
    by_cases hac : a = c
    · by_cases hbd : b = d
      · have hv : Hid (cmpI a b c d = 0) := HQ.out (HE.out ⟨hac, hbd⟩)
        clear HT HG HS HE HQ
        obtain rfl : a = c := hac
        obtain rfl : b = d := hbd
        go_enter Try.func24, Try.ntmps24
        go_wp2_with fail
        refine Calls.mono (HR.out _ _ _ ?_) ?_
        · intro w1 g
          refine HK.out w1 _ _ ?_ ?_ ?_ ?_ <;> (rw [grown_cell g (by simp <;> omega)]; simp [go_sem])
        rintro e w1 ⟨rfl, gr⟩
        have k0 := (grown_cell gr (p := ⟨w.heap.size, 0, none⟩) (by simp <;> omega)).trans (show _ = some (.int .i64 a) by simp [go_sem])
        have k1 := (grown_cell gr (p := ⟨w.heap.size, 1, none⟩) (by simp <;> omega)).trans (show _ = some (.int .i64 b) by simp [go_sem])
        have k2 := (grown_cell gr (p := ⟨w.heap.size + 1, 0, none⟩) (by simp <;> omega)).trans (show _ = some (.int .i64 a) by simp [go_sem])
        have k3 := (grown_cell gr (p := ⟨w.heap.size + 1, 1, none⟩) (by simp <;> omega)).trans (show _ = some (.int .i64 b) by simp [go_sem])
        have G1 := Lib.hid (grown_trans (((Grown.refl w).alloc _ _).alloc _ _) gr); clear gr
        go_wp2_with fail
        go_ret2
        exact ⟨ires_eq (by rw [hv.out]), G1.out⟩
      · have hpq : ¬ p = q := fun h => hbd (HS.out h).2
        clear HS HQ HE
        by_cases hlt : p < q
        · have hv := Lib.hid (HT.out hlt)
          clear HT HG hpq
          obtain rfl : a = c := hac
          go_enter Try.func24, Try.ntmps24
          go_wp2_with fail
          refine Calls.mono (HR.out _ _ _ ?_) ?_
          · intro w1 g
            refine HK.out w1 _ _ ?_ ?_ ?_ ?_ <;> (rw [grown_cell g (by simp <;> omega)]; simp [go_sem])
          rintro e w1 ⟨rfl, gr⟩
          have k0 := (grown_cell gr (p := ⟨w.heap.size, 0, none⟩) (by simp <;> omega)).trans (show _ = some (.int .i64 a) by simp [go_sem])
          have k1 := (grown_cell gr (p := ⟨w.heap.size, 1, none⟩) (by simp <;> omega)).trans (show _ = some (.int .i64 b) by simp [go_sem])
          have k2 := (grown_cell gr (p := ⟨w.heap.size + 1, 0, none⟩) (by simp <;> omega)).trans (show _ = some (.int .i64 a) by simp [go_sem])
          have k3 := (grown_cell gr (p := ⟨w.heap.size + 1, 1, none⟩) (by simp <;> omega)).trans (show _ = some (.int .i64 d) by simp [go_sem])
          have G1 := Lib.hid (grown_trans (((Grown.refl w).alloc _ _).alloc _ _) gr); clear gr
          go_wp2_with fail
          go_ret2
          exact ⟨ires_eq (by rw [hv.out]), G1.out⟩
        · have hgt : q < p := by omega
          have hv := Lib.hid (HG.out hgt)
          clear HT HG hpq
          obtain rfl : a = c := hac
          go_enter Try.func24, Try.ntmps24
          go_wp2_with fail
          refine Calls.mono (HR.out _ _ _ ?_) ?_
          · intro w1 g
            refine HK.out w1 _ _ ?_ ?_ ?_ ?_ <;> (rw [grown_cell g (by simp <;> omega)]; simp [go_sem])
          rintro e w1 ⟨rfl, gr⟩
          have k0 := (grown_cell gr (p := ⟨w.heap.size, 0, none⟩) (by simp <;> omega)).trans (show _ = some (.int .i64 a) by simp [go_sem])
          have k1 := (grown_cell gr (p := ⟨w.heap.size, 1, none⟩) (by simp <;> omega)).trans (show _ = some (.int .i64 b) by simp [go_sem])
          have k2 := (grown_cell gr (p := ⟨w.heap.size + 1, 0, none⟩) (by simp <;> omega)).trans (show _ = some (.int .i64 a) by simp [go_sem])
          have k3 := (grown_cell gr (p := ⟨w.heap.size + 1, 1, none⟩) (by simp <;> omega)).trans (show _ = some (.int .i64 d) by simp [go_sem])
          have G1 := Lib.hid (grown_trans (((Grown.refl w).alloc _ _).alloc _ _) gr); clear gr
          go_wp2_with fail
          go_ret2
          exact ⟨ires_eq (by rw [hv.out]), G1.out⟩
    · have hpq : ¬ p = q := fun h => hac (HS.out h).1
      clear HS HQ HE
      by_cases hlt : p < q
      · have hv := Lib.hid (HT.out hlt)
        clear HT HG hpq
        go_enter Try.func24, Try.ntmps24
        go_wp2_with fail
        refine Calls.mono (HR.out _ _ _ ?_) ?_
        · intro w1 g
          refine HK.out w1 _ _ ?_ ?_ ?_ ?_ <;> (rw [grown_cell g (by simp <;> omega)]; simp [go_sem])
        rintro e w1 ⟨rfl, gr⟩
        have k0 := (grown_cell gr (p := ⟨w.heap.size, 0, none⟩) (by simp <;> omega)).trans (show _ = some (.int .i64 a) by simp [go_sem])
        have k1 := (grown_cell gr (p := ⟨w.heap.size, 1, none⟩) (by simp <;> omega)).trans (show _ = some (.int .i64 b) by simp [go_sem])
        have k2 := (grown_cell gr (p := ⟨w.heap.size + 1, 0, none⟩) (by simp <;> omega)).trans (show _ = some (.int .i64 c) by simp [go_sem])
        have k3 := (grown_cell gr (p := ⟨w.heap.size + 1, 1, none⟩) (by simp <;> omega)).trans (show _ = some (.int .i64 d) by simp [go_sem])
        have G1 := Lib.hid (grown_trans (((Grown.refl w).alloc _ _).alloc _ _) gr); clear gr
        go_wp2_with fail
        go_ret2
        exact ⟨ires_eq (by rw [hv.out]), G1.out⟩
      · have hgt : q < p := by omega
        have hv := Lib.hid (HG.out hgt)
        clear HT HG hpq
        go_enter Try.func24, Try.ntmps24
        go_wp2_with fail
        refine Calls.mono (HR.out _ _ _ ?_) ?_
        · intro w1 g
          refine HK.out w1 _ _ ?_ ?_ ?_ ?_ <;> (rw [grown_cell g (by simp <;> omega)]; simp [go_sem])
        rintro e w1 ⟨rfl, gr⟩
        have k0 := (grown_cell gr (p := ⟨w.heap.size, 0, none⟩) (by simp <;> omega)).trans (show _ = some (.int .i64 a) by simp [go_sem])
        have k1 := (grown_cell gr (p := ⟨w.heap.size, 1, none⟩) (by simp <;> omega)).trans (show _ = some (.int .i64 b) by simp [go_sem])
        have k2 := (grown_cell gr (p := ⟨w.heap.size + 1, 0, none⟩) (by simp <;> omega)).trans (show _ = some (.int .i64 c) by simp [go_sem])
        have k3 := (grown_cell gr (p := ⟨w.heap.size + 1, 1, none⟩) (by simp <;> omega)).trans (show _ = some (.int .i64 d) by simp [go_sem])
        have G1 := Lib.hid (grown_trans (((Grown.refl w).alloc _ _).alloc _ _) gr); clear gr
        go_wp2_with fail
        go_ret2
        exact ⟨ires_eq (by rw [hv.out]), G1.out⟩
  · rw [cmpR_no hv]
    have R := fun fv w => cross_no a b c d fv w hv
    have HR := Lib.hid R; clear R hv
    go_enter Try.func24, Try.ntmps24
    go_wp2_with fail
    refine (HR.out _ _).mono ?_; rintro e w1 ⟨rfl, gr⟩
    have G1 := Lib.hid (grown_trans (((Grown.refl w).alloc _ _).alloc _ _) gr); clear gr
    go_wp2_with fail
    go_ret2
    exact ⟨rfl, G1.out⟩

set_option maxHeartbeats 1000000 in
theorem rcmp_any (a b c d : Int) (w : World) :
    Calls Try.prog 25 #[.agg #[.int .i64 a, .int .i64 b], .agg #[.int .i64 c, .int .i64 d]] w fun e w' => e = ires (cmpR a b c d) ∧ Grown w w' := by
  rcases both_ways a b c d with ⟨hv, r1, r2⟩ | hv
  · rw [cmpR_yes hv]
    obtain ⟨x1, x2, x3, x4, x5, x6, x7, x8⟩ := Sm.of r1 r2
    have R := fun w => rboth_v a b c d 0 w hv
    have HR := Lib.hid R; clear R hv
    have ht : a * d < c * b → cmpI a b c d = -1 := cmpI_lt
    have hg : c * b < a * d → cmpI a b c d = 1 := cmpI_gt
    have he : a * d = c * b → cmpI a b c d = 0 := cmpI_eq
    obtain ⟨b0l, b0h⟩ := prod_bd a d ⟨by omega, by omega⟩ ⟨by omega, by omega⟩
    obtain ⟨b1l, b1h⟩ := prod_bd c b ⟨by omega, by omega⟩ ⟨by omega, by omega⟩
    obtain ⟨p, hp⟩ : ∃ p, a * d = p := ⟨_, rfl⟩
    obtain ⟨q, hq⟩ : ∃ p, c * b = p := ⟨_, rfl⟩
    rw [hp] at b0l b0h ht hg he
    rw [hq] at b1l b1h ht hg he
    clear r1 r2
    rcases Int.lt_trichotomy p q with h | h | h
    · have hv := Lib.hid (ht h)
      clear ht hg he
      have h' : p - q < 0 := by omega
      go_enter Try.func25, Try.ntmps25
      go_wp2_with fail
      refine (HR.out _).mono ?_; rintro e w1 ⟨rfl, gr⟩
      have k0 := (grown_cell gr (p := ⟨w.heap.size, 0, none⟩) (by simp <;> omega)).trans (show _ = some (.int .i64 a) by simp [go_sem])
      have k1 := (grown_cell gr (p := ⟨w.heap.size, 1, none⟩) (by simp <;> omega)).trans (show _ = some (.int .i64 b) by simp [go_sem])
      have k2 := (grown_cell gr (p := ⟨w.heap.size + 1, 0, none⟩) (by simp <;> omega)).trans (show _ = some (.int .i64 c) by simp [go_sem])
      have k3 := (grown_cell gr (p := ⟨w.heap.size + 1, 1, none⟩) (by simp <;> omega)).trans (show _ = some (.int .i64 d) by simp [go_sem])
      have G1 := Lib.hid (grown_trans (((Grown.refl w).alloc _ _).alloc _ _) gr); clear gr
      go_wp2_with fail
      go_ret2
      exact ⟨ires_eq (by rw [hv.out]), G1.out⟩
    · have hv := Lib.hid (he h)
      clear ht hg he
      have h' : ¬ p - q < 0 := by omega
      have h'' : ¬ 0 < p - q := by omega
      clear h
      go_enter Try.func25, Try.ntmps25
      go_wp2_with fail
      refine (HR.out _).mono ?_; rintro e w1 ⟨rfl, gr⟩
      have k0 := (grown_cell gr (p := ⟨w.heap.size, 0, none⟩) (by simp <;> omega)).trans (show _ = some (.int .i64 a) by simp [go_sem])
      have k1 := (grown_cell gr (p := ⟨w.heap.size, 1, none⟩) (by simp <;> omega)).trans (show _ = some (.int .i64 b) by simp [go_sem])
      have k2 := (grown_cell gr (p := ⟨w.heap.size + 1, 0, none⟩) (by simp <;> omega)).trans (show _ = some (.int .i64 c) by simp [go_sem])
      have k3 := (grown_cell gr (p := ⟨w.heap.size + 1, 1, none⟩) (by simp <;> omega)).trans (show _ = some (.int .i64 d) by simp [go_sem])
      have G1 := Lib.hid (grown_trans (((Grown.refl w).alloc _ _).alloc _ _) gr); clear gr
      go_wp2_with fail
      go_ret2
      exact ⟨ires_eq (by rw [hv.out]), G1.out⟩
    · have hv := Lib.hid (hg h)
      clear ht hg he
      have h' : ¬ p - q < 0 := by omega
      have h'' : 0 < p - q := by omega
      clear h
      go_enter Try.func25, Try.ntmps25
      go_wp2_with fail
      refine (HR.out _).mono ?_; rintro e w1 ⟨rfl, gr⟩
      have k0 := (grown_cell gr (p := ⟨w.heap.size, 0, none⟩) (by simp <;> omega)).trans (show _ = some (.int .i64 a) by simp [go_sem])
      have k1 := (grown_cell gr (p := ⟨w.heap.size, 1, none⟩) (by simp <;> omega)).trans (show _ = some (.int .i64 b) by simp [go_sem])
      have k2 := (grown_cell gr (p := ⟨w.heap.size + 1, 0, none⟩) (by simp <;> omega)).trans (show _ = some (.int .i64 c) by simp [go_sem])
      have k3 := (grown_cell gr (p := ⟨w.heap.size + 1, 1, none⟩) (by simp <;> omega)).trans (show _ = some (.int .i64 d) by simp [go_sem])
      have G1 := Lib.hid (grown_trans (((Grown.refl w).alloc _ _).alloc _ _) gr); clear gr
      go_wp2_with fail
      go_ret2
      exact ⟨ires_eq (by rw [hv.out]), G1.out⟩
  · rw [cmpR_no hv]
    have R := fun w => rboth_v a b c d 120 w hv
    have HR := Lib.hid R; clear R hv
    go_enter Try.func25, Try.ntmps25
    go_wp2_with fail
    refine (HR.out _).mono ?_; rintro e w1 ⟨rfl, gr⟩
    have G1 := Lib.hid (grown_trans (((Grown.refl w).alloc _ _).alloc _ _) gr); clear gr
    go_wp2_with fail
    go_ret2
    exact ⟨rfl, G1.out⟩

end Go.Proofs.Ytgbjooecomgfoaa
