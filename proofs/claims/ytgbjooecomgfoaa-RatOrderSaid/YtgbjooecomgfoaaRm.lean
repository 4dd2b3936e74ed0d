/-
  What Floor and Ceil of package rat and of its reference return.
-/
import Derived.Test.YtgbjooecomgfoaaRl
import Derived.Test.YtgbjooecomgfoaaRn
namespace Go.Proofs.Ytgbjooecomgfoaa
open Go.RowKit

def flV (n d : Int) : Int × Int := if Fr.right n d then (n / d, 0) else (0, 120)
def ceV (n d : Int) : Int × Int := if Fr.right n d then (cdv n d, 0) else (0, 120)
theorem flV_yes {n d : Int} (h : Fr.right n d) : flV n d = (n / d, 0) := if_pos h
theorem flV_no {n d : Int} (h : ¬ Fr.right n d) : flV n d = (0, 120) := if_neg h
theorem ceV_yes {n d : Int} (h : Fr.right n d) : ceV n d = (cdv n d, 0) := if_pos h
theorem ceV_no {n d : Int} (h : ¬ Fr.right n d) : ceV n d = (0, 120) := if_neg h
theorem fdiv_v (a b q : Int) (w : World) (h : dvB a b = true) (hq : a / b = q) :
    Calls Try.prog 52 #[.int .i64 a, .int .i64 b] w fun e w' => e = .returned (.tuple #[.int .i64 q, .bool true]) ∧ Grown w w' := by
  have := fdiv_any a b w
  rw [h, hq] at this
  exact this
theorem cdiv_v (a b q : Int) (w : World) (wa : -9223372036854775808 ≤ a) (wa' : a ≤ 9223372036854775807) (h : dvB a b = true) (hq : cdv a b = q) :
    Calls Try.prog 53 #[.int .i64 a, .int .i64 b] w fun e w' => e = .returned (.tuple #[.int .i64 q, .bool true]) ∧ Grown w w' := by
  have := cdiv_any a b w wa wa'
  rw [h, hq] at this
  exact this
theorem tdiv_fl (n d : Int) (hd : 1 ≤ d) : (n.tdiv d * d ≤ n ∧ n.tdiv d = n / d) ∨ (n < n.tdiv d * d ∧ n.tdiv d - 1 = n / d) := by
  obtain ⟨h1, h2⟩ := Fr.floor_facts n d (by omega)
  rw [Int.tdiv_eq_ediv]
  split
  · rw [Int.add_zero]; exact .inl ⟨h1, rfl⟩
  · rw [Int.sign_eq_one_of_pos (by omega)]; exact .inr ⟨h2, by omega⟩
theorem fl_bd (n d : Int) (h1 : 1 ≤ d) (h2 : d ≤ 1073741824) (h3 : -1073741824 ≤ n) (h4 : n ≤ 1073741824) : (-1073741824 ≤ n / d ∧ n / d ≤ 1073741824) ∧ (-2147483648 ≤ n / d * d ∧ n / d * d ≤ 1073741824) := by
  have := div_bd n d h1 1073741824 (by omega) h3 h4
  obtain ⟨k1, k2⟩ := Fr.floor_facts n d (by omega)
  rw [Int.add_mul] at k2
  exact ⟨this, by omega, by omega⟩

set_option maxHeartbeats 1000000 in
theorem floor_any (n d : Int) (w : World) :
    Calls Try.prog 30 #[.agg #[.int .i64 n, .int .i64 d]] w fun e w' => e = ires (flV n d) ∧ Grown w w' := by
  by_cases h : Fr.right n d
  · rw [flV_yes h]
    obtain ⟨h1, h2, h3, h4, _⟩ := id h
    have hd : dvB n d = true := dvB_iff.2 ⟨⟨⟨by omega, by omega⟩, by omega, by omega⟩, h1⟩
    obtain ⟨q, hq⟩ : ∃ q, n / d = q := ⟨_, rfl⟩
    rw [hq]
    have R := fun w => check_v n d 0 w (ckV_yes h)
    have R2 := fun w => fdiv_v n d q w hd hq
    have HR := Lib.hid R; clear R h hd
    have HR2 := Lib.hid R2; clear R2 hq
    go_enter Try.func30, Try.ntmps30
    go_wp2_with fail
    refine (HR.out _).mono ?_; rintro e w1 ⟨rfl, gr⟩
    have k0 := (grown_cell gr (p := ⟨w.heap.size, 0, none⟩) (by simp)).trans (show _ = some (.int .i64 n) by simp [go_sem])
    have k1 := (grown_cell gr (p := ⟨w.heap.size, 1, none⟩) (by simp)).trans (show _ = some (.int .i64 d) by simp [go_sem])
    have G1 := Lib.hid (grown_trans ((Grown.refl w).alloc _ _) gr); clear gr
    go_wp2_with fail
    refine (HR2.out _).mono ?_; rintro e w2 ⟨rfl, gr⟩
    have GG := Lib.hid (grown_trans G1.out gr); clear gr
    go_wp2_with fail
    go_ret2
    exact ⟨rfl, GG.out⟩
  · rw [flV_no h]
    have R := fun w => check_v n d 120 w (ckV_no h)
    have HR := Lib.hid R; clear R h
    go_enter Try.func30, Try.ntmps30
    go_wp2_with fail
    refine (HR.out _).mono ?_; rintro e w1 ⟨rfl, gr⟩
    have G1 := Lib.hid (grown_trans ((Grown.refl w).alloc _ _) gr); clear gr
    go_wp2_with fail
    go_ret2
    exact ⟨rfl, G1.out⟩

set_option maxHeartbeats 1000000 in
theorem ceil_any (n d : Int) (w : World) :
    Calls Try.prog 32 #[.agg #[.int .i64 n, .int .i64 d]] w fun e w' => e = ires (ceV n d) ∧ Grown w w' := by
  by_cases h : Fr.right n d
  · rw [ceV_yes h]
    obtain ⟨h1, h2, h3, h4, _⟩ := id h
    have hd : dvB n d = true := dvB_iff.2 ⟨⟨⟨by omega, by omega⟩, by omega, by omega⟩, h1⟩
    obtain ⟨q, hq⟩ : ∃ q, cdv n d = q := ⟨_, rfl⟩
    rw [hq]
    have R := fun w => check_v n d 0 w (ckV_yes h)
    have R2 := fun w => cdiv_v n d q w (by omega) (by omega) hd hq
    have HR := Lib.hid R; clear R h hd
    have HR2 := Lib.hid R2; clear R2 hq
    go_enter Try.func32, Try.ntmps32
    go_wp2_with fail
    refine (HR.out _).mono ?_; rintro e w1 ⟨rfl, gr⟩
    have k0 := (grown_cell gr (p := ⟨w.heap.size, 0, none⟩) (by simp)).trans (show _ = some (.int .i64 n) by simp [go_sem])
    have k1 := (grown_cell gr (p := ⟨w.heap.size, 1, none⟩) (by simp)).trans (show _ = some (.int .i64 d) by simp [go_sem])
    have G1 := Lib.hid (grown_trans ((Grown.refl w).alloc _ _) gr); clear gr
    go_wp2_with fail
    refine (HR2.out _).mono ?_; rintro e w2 ⟨rfl, gr⟩
    have GG := Lib.hid (grown_trans G1.out gr); clear gr
    go_wp2_with fail
    go_ret2
    exact ⟨rfl, GG.out⟩
  · rw [ceV_no h]
    have R := fun w => check_v n d 120 w (ckV_no h)
    have HR := Lib.hid R; clear R h
    go_enter Try.func32, Try.ntmps32
    go_wp2_with fail
    refine (HR.out _).mono ?_; rintro e w1 ⟨rfl, gr⟩
    have G1 := Lib.hid (grown_trans ((Grown.refl w).alloc _ _) gr); clear gr
    go_wp2_with fail
    go_ret2
    exact ⟨rfl, G1.out⟩

set_option maxHeartbeats 1000000 in
theorem rfloor_any (n d : Int) (w : World) :
    Calls Try.prog 31 #[.agg #[.int .i64 n, .int .i64 d]] w fun e w' => e = ires (flV n d) ∧ Grown w w' := by
  by_cases h : Fr.right n d
  · rw [flV_yes h]
    obtain ⟨h1, h2, h3, h4, _⟩ := id h
    have R := fun w => rright_b n d true w (decide_eq_true h)
    have HR := Lib.hid R; clear R h
    have ht := tdiv_fl n d h1
    obtain ⟨⟨b1, b2⟩, b3, b4⟩ := fl_bd n d h1 h2 h3 h4
    obtain ⟨q, hq⟩ : ∃ q, n.tdiv d = q := ⟨_, rfl⟩
    rw [hq] at ht
    have hd0 : ¬ d = 0 := by omega
    have hp : -2147483648 ≤ q * d ∧ q * d ≤ 2147483648 := by
      rcases ht with ⟨_, e⟩ | ⟨_, e⟩
      · rw [e]; omega
      · have : q * d = (n / d) * d + d := by rw [← e, Int.sub_mul]; omega
        omega
    have hb : -1073741824 ≤ q ∧ q ≤ 1073741825 := by rcases ht with ⟨_, e⟩ | ⟨_, e⟩ <;> omega
    obtain ⟨p, hqd⟩ : ∃ p, q * d = p := ⟨_, rfl⟩
    rw [hqd] at ht hp
    obtain ⟨hp1, hp2⟩ := hp
    obtain ⟨hb1, hb2⟩ := hb
    have hw : IntKind.i64.wrap q = q := IntWalk.i64_in _ (by omega)
    clear b1 b2 b3 b4
    rcases ht with ⟨hc, e⟩ | ⟨hc, e⟩
    · have hv := Lib.hid e.symm; clear e
      go_enter Try.func31, Try.ntmps31
      go_wp2_with fail
      refine (HR.out _).mono ?_; rintro e w1 ⟨rfl, gr⟩
      have k0 := (grown_cell gr (p := ⟨w.heap.size, 0, none⟩) (by simp)).trans (show _ = some (.int .i64 n) by simp [go_sem])
      have k1 := (grown_cell gr (p := ⟨w.heap.size, 1, none⟩) (by simp)).trans (show _ = some (.int .i64 d) by simp [go_sem])
      have G1 := Lib.hid (grown_trans ((Grown.refl w).alloc _ _) gr); clear gr
      go_wp2_with fail
      go_ret2
      exact ⟨ires_eq (by rw [hv.out]), G1.out⟩
    · have hv := Lib.hid e.symm; clear e
      go_enter Try.func31, Try.ntmps31
      go_wp2_with fail
      refine (HR.out _).mono ?_; rintro e w1 ⟨rfl, gr⟩
      have k0 := (grown_cell gr (p := ⟨w.heap.size, 0, none⟩) (by simp)).trans (show _ = some (.int .i64 n) by simp [go_sem])
      have k1 := (grown_cell gr (p := ⟨w.heap.size, 1, none⟩) (by simp)).trans (show _ = some (.int .i64 d) by simp [go_sem])
      have G1 := Lib.hid (grown_trans ((Grown.refl w).alloc _ _) gr); clear gr
      go_wp2_with fail
      go_ret2
      exact ⟨ires_eq (by rw [hv.out]), G1.out⟩
  · rw [flV_no h]
    have R := fun w => rright_b n d false w (decide_eq_false h)
    have HR := Lib.hid R; clear R h
    go_enter Try.func31, Try.ntmps31
    go_wp2_with fail
    refine (HR.out _).mono ?_; rintro e w1 ⟨rfl, gr⟩
    have G1 := Lib.hid (grown_trans ((Grown.refl w).alloc _ _) gr); clear gr
    go_wp2_with fail
    go_ret2
    exact ⟨rfl, G1.out⟩

theorem rfloor_v (n d q e0 : Int) (w : World) (h : flV n d = (q, e0)) :
    Calls Try.prog 31 #[.agg #[.int .i64 n, .int .i64 d]] w fun e w' => e = .returned (.tuple #[.int .i64 q, .int .i64 e0]) ∧ Grown w w' := by
  have := rfloor_any n d w; rw [h] at this; exact this

set_option maxHeartbeats 1000000 in
theorem rceil_any (n d : Int) (w : World) :
    Calls Try.prog 33 #[.agg #[.int .i64 n, .int .i64 d]] w fun e w' => e = ires (ceV n d) ∧ Grown w w' := by
  by_cases h : Fr.right n d
  · rw [ceV_yes h]
    have hf := flV_yes h
    obtain ⟨h1, h2, h3, h4, _⟩ := id h
    obtain ⟨u1, u2, _⟩ := cdv_eq n d h1 (by omega)
    obtain ⟨⟨b1, b2⟩, b3, b4⟩ := fl_bd n d h1 h2 h3 h4
    generalize (n / d) = q at *
    have R := fun w => rfloor_v n d q 0 w hf
    have HR := Lib.hid R; clear R h hf
    obtain ⟨p, hqd⟩ : ∃ p, q * d = p := ⟨_, rfl⟩
    rw [hqd] at u1 u2 b3 b4
    by_cases hc : p < n
    · have hv := Lib.hid (u1 hc); clear u1 u2
      go_enter Try.func33, Try.ntmps33
      go_wp2_with fail
      refine (HR.out _).mono ?_; rintro e w1 ⟨rfl, gr⟩
      have k0 := (grown_cell gr (p := ⟨w.heap.size, 0, none⟩) (by simp)).trans (show _ = some (.int .i64 n) by simp [go_sem])
      have k1 := (grown_cell gr (p := ⟨w.heap.size, 1, none⟩) (by simp)).trans (show _ = some (.int .i64 d) by simp [go_sem])
      have G1 := Lib.hid (grown_trans ((Grown.refl w).alloc _ _) gr); clear gr
      go_wp2_with fail
      go_ret2
      exact ⟨ires_eq (by rw [← hv.out]), G1.out⟩
    · have hv := Lib.hid (u2 hc); clear u1 u2
      go_enter Try.func33, Try.ntmps33
      go_wp2_with fail
      refine (HR.out _).mono ?_; rintro e w1 ⟨rfl, gr⟩
      have k0 := (grown_cell gr (p := ⟨w.heap.size, 0, none⟩) (by simp)).trans (show _ = some (.int .i64 n) by simp [go_sem])
      have k1 := (grown_cell gr (p := ⟨w.heap.size, 1, none⟩) (by simp)).trans (show _ = some (.int .i64 d) by simp [go_sem])
      have G1 := Lib.hid (grown_trans ((Grown.refl w).alloc _ _) gr); clear gr
      go_wp2_with fail
      go_ret2
      exact ⟨ires_eq (by rw [← hv.out]), G1.out⟩
  · rw [ceV_no h]
    have R := fun w => rfloor_v n d 0 120 w (flV_no h)
    have HR := Lib.hid R; clear R h
    go_enter Try.func33, Try.ntmps33
    go_wp2_with fail
    refine (HR.out _).mono ?_; rintro e w1 ⟨rfl, gr⟩
    have G1 := Lib.hid (grown_trans ((Grown.refl w).alloc _ _) gr); clear gr
    go_wp2_with fail
    go_ret2
    exact ⟨rfl, G1.out⟩

end Go.Proofs.Ytgbjooecomgfoaa
