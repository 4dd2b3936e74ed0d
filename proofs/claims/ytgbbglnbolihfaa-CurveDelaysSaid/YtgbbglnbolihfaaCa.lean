/-
  What ceil, Check, unless of package curve and Right, Check, Ceil, Of of its reference return.
-/
import Derived.Test.YtgbbglnbolihfaaMe
import Derived.Test.YtgbbglnbolihfaaBc
namespace Go.Proofs.Ytgbbglnbolihfaa
open Go.RowKit

theorem cell_lt {w : World} {b i : Nat} {v : Value} (h : w.cell? ⟨b, i, none⟩ = some v) : b < w.heap.size := by
  rcases Nat.lt_or_ge b w.heap.size with hlt | hge
  · exact hlt
  · exfalso
    have e : w.heap[b]? = none := Array.getElem?_eq_none hge
    unfold World.cell? at h
    simp [e] at h

/-- n / d, rounded up. -/
def cl (n d : Int) : Int := -((-n) / d)
theorem cl_le {n d x : Int} (hd : 0 < d) : cl n d ≤ x ↔ n ≤ x * d := by
  unfold cl
  have h : -x ≤ (-n) / d ↔ -x * d ≤ -n := Int.le_ediv_iff_mul_le hd
  rw [Int.neg_mul] at h
  omega
theorem lt_cl {n d x : Int} (hd : 0 < d) : x < cl n d ↔ x * d < n := by have := @cl_le n d x hd; omega
theorem cl_ge {n d : Int} (hd : 0 < d) : n ≤ cl n d * d := (cl_le hd).1 (Int.le_refl _)
theorem cl_lt {n d : Int} (hd : 0 < d) : (cl n d - 1) * d < n := (lt_cl hd).1 (by omega)
theorem cl_mono {n m d : Int} (hd : 0 < d) (h : n ≤ m) : cl n d ≤ cl m d := (cl_le hd).2 (Int.le_trans h (cl_ge hd))
theorem cl_nonneg {n d : Int} (hd : 0 < d) (h : 0 ≤ n) : 0 ≤ cl n d := by have := @lt_cl n d (-1) hd; omega
theorem cl_pos {n d : Int} (hd : 0 < d) (h : 1 ≤ n) : 1 ≤ cl n d := by have := @lt_cl n d 0 hd; rw [Int.zero_mul] at this; omega
theorem cl_self_le {n d : Int} (hd : 0 < d) (h : 0 ≤ n) : cl n d ≤ n := (cl_le hd).2 (by have := Int.mul_le_mul_of_nonneg_left (show (1:Int) ≤ d by omega) h; omega)
theorem cl_add_mul {n d x : Int} (hd : 0 < d) : cl (n + x * d) d = cl n d + x := by
  have h1 : ∀ y, cl (n + x * d) d ≤ y ↔ cl n d + x ≤ y := fun y => by
    rw [cl_le hd]
    have := @cl_le n d (y - x) hd
    rw [Int.sub_mul] at this
    omega
  have h2 := (h1 (cl n d + x)).2 (Int.le_refl _)
  have h3 := (h1 (cl (n + x * d) d)).1 (Int.le_refl _)
  omega
theorem cl_eq {n d q : Int} (hd : 0 < d) (h1 : n ≤ q * d) (h2 : (q - 1) * d < n) : cl n d = q := by
  have h3 := (cl_le hd).2 h1
  have h4 := (lt_cl hd).2 h2
  omega

set_option maxHeartbeats 400000 in
theorem ceil_any (a b c : Int) (ha : 0 ≤ a ∧ a ≤ 1125899906842624) (hb : 0 ≤ b ∧ b ≤ 1125899906842624) (hc : 1 ≤ c ∧ c ≤ 1125899906842624) (hv : cl (a * b) c ≤ 1125899906842624) (w : World) :
    Calls Try.prog 61 #[.int .i64 a, .int .i64 b, .int .i64 c] w fun e w' => e = .returned (.int .i64 (cl (a * b) c)) ∧ Bl w w' := by
  have h0 : 0 ≤ cl (a * b) c := cl_nonneg (by omega) (Int.mul_nonneg ha.1 hb.1)
  have e0 : (-a) * b / c = -(cl (a * b) c) := by unfold cl; rw [Int.neg_mul]; omega
  have hm : mdB (-a) b c = true := by
    unfold mdB
    rw [e0, inB_iff.2 (by omega), inB_iff.2 (by omega), inB_iff.2 (by omega), inB_iff.2 (by omega), decide_eq_true (by omega)]; rfl
  have K := Lib.hid (fun w => by have := muldiv_any (-a) b c w; rw [hm, e0] at this; unfold res at this; rw [okv_t rfl] at this; exact this)
  obtain ⟨v, hv'⟩ : ∃ v, cl (a * b) c = v := ⟨_, rfl⟩
  rw [hv'] at K h0 hv ⊢
  have n1 : IntKind.i64.wrap (-a) = -a := IntWalk.i64_in _ (by omega)
  have n2 : IntKind.i64.wrap (- -v) = v := by rw [Int.neg_neg]; exact IntWalk.i64_in _ (by omega)
  clear hm e0 hv'
  go_enter Try.func61, Try.ntmps61
  go_wp2_with fail
  refine (K.out _).mono ?_; rintro e w1 ⟨rfl, gr⟩
  have G := Lib.hid gr; clear gr
  go_wp2_with fail
  go_ret
  exact ⟨rfl, G.out⟩
theorem ceil_v {a b c v : Int} (h : cl (a * b) c = v) (ha : 0 ≤ a ∧ a ≤ 1125899906842624) (hb : 0 ≤ b ∧ b ≤ 1125899906842624) (hc : 1 ≤ c ∧ c ≤ 1125899906842624) (hv : v ≤ 1125899906842624) (w : World) :
    Calls Try.prog 61 #[.int .i64 a, .int .i64 b, .int .i64 c] w fun e w' => e = .returned (.int .i64 v) ∧ Bl w w' := by
  have := ceil_any a b c ha hb hc (by omega) w; rw [h] at this; exact this

/-- A valid service. -/
def svB (r l : Int) : Bool := btB 1 r 2097152 && btB 0 l 268435456
theorem svB_iff {r l : Int} : svB r l = true ↔ (1 ≤ r ∧ r ≤ 2097152) ∧ (0 ≤ l ∧ l ≤ 268435456) := by
  unfold svB; rw [Bool.and_eq_true, btB_iff, btB_iff]
theorem svB_not {r l : Int} : svB r l = false ↔ ¬ ((1 ≤ r ∧ r ≤ 2097152) ∧ (0 ≤ l ∧ l ≤ 268435456)) := by
  rw [← svB_iff]; cases svB r l <;> simp
def svE (r l : Int) : Int := if svB r l then 0 else 140
theorem svE_t {r l : Int} (h : svB r l = true) : svE r l = 0 := by unfold svE; rw [if_pos h]
theorem svE_f {r l : Int} (h : svB r l = false) : svE r l = 140 := by unfold svE; rw [if_neg (by simp [h])]

set_option maxHeartbeats 400000 in
theorem scheck_any (r l : Int) (w : World) :
    Calls Try.prog 30 #[.agg #[.int .i64 r, .int .i64 l]] w fun e w' => e = .returned (.int .i64 (svE r l)) ∧ Bl w w' := by
  by_cases h1 : r < 1
  · go_enter Try.func30, Try.ntmps30
    go_wp2
    go_ret
    exact ⟨ret_int (svE_f (svB_not.2 (by omega))).symm, (Bl.refl _).alloc _⟩
  · by_cases h2 : 2097152 < r
    · go_enter Try.func30, Try.ntmps30
      go_wp2
      go_ret
      exact ⟨ret_int (svE_f (svB_not.2 (by omega))).symm, (Bl.refl _).alloc _⟩
    · by_cases h3 : l < 0
      · go_enter Try.func30, Try.ntmps30
        go_wp2
        go_ret
        exact ⟨ret_int (svE_f (svB_not.2 (by omega))).symm, (Bl.refl _).alloc _⟩
      · by_cases h4 : 268435456 < l
        · go_enter Try.func30, Try.ntmps30
          go_wp2
          go_ret
          exact ⟨ret_int (svE_f (svB_not.2 (by omega))).symm, (Bl.refl _).alloc _⟩
        · go_enter Try.func30, Try.ntmps30
          go_wp2
          go_ret
          exact ⟨ret_int (svE_t (svB_iff.2 (by omega))).symm, (Bl.refl _).alloc _⟩
theorem scheck_v {r l v : Int} (h : svE r l = v) (w : World) :
    Calls Try.prog 30 #[.agg #[.int .i64 r, .int .i64 l]] w fun e w' => e = .returned (.int .i64 v) ∧ Bl w w' := by
  have := scheck_any r l w; rw [h] at this; exact this

set_option maxHeartbeats 400000 in
theorem sright_any (r l : Int) (w : World) :
    Calls Try.prog 55 #[.agg #[.int .i64 r, .int .i64 l]] w fun e w' => e = .returned (.bool (svB r l)) ∧ Bl w w' := by
  by_cases h1 : 1 ≤ r
  · by_cases h2 : r ≤ 2097152
    · by_cases h3 : 0 ≤ l
      · by_cases h4 : l ≤ 268435456
        · go_enter Try.func55, Try.ntmps55
          go_wp2
          go_ret
          exact ⟨ret_bool (svB_iff.2 ⟨⟨h1, h2⟩, h3, h4⟩).symm, (Bl.refl _).alloc _⟩
        · go_enter Try.func55, Try.ntmps55
          go_wp2
          go_ret
          exact ⟨ret_bool (svB_not.2 (by omega)).symm, (Bl.refl _).alloc _⟩
      · go_enter Try.func55, Try.ntmps55
        go_wp2
        go_ret
        exact ⟨ret_bool (svB_not.2 (by omega)).symm, (Bl.refl _).alloc _⟩
    · go_enter Try.func55, Try.ntmps55
      go_wp2
      go_ret
      exact ⟨ret_bool (svB_not.2 (by omega)).symm, (Bl.refl _).alloc _⟩
  · go_enter Try.func55, Try.ntmps55
    go_wp2
    go_ret
    exact ⟨ret_bool (svB_not.2 (by omega)).symm, (Bl.refl _).alloc _⟩
theorem sright_v {r l : Int} {c : Bool} (h : svB r l = c) (w : World) :
    Calls Try.prog 55 #[.agg #[.int .i64 r, .int .i64 l]] w fun e w' => e = .returned (.bool c) ∧ Bl w w' := by
  have := sright_any r l w; rw [h] at this; exact this

set_option maxHeartbeats 400000 in
theorem srcheck_any (r l : Int) (w : World) :
    Calls Try.prog 31 #[.agg #[.int .i64 r, .int .i64 l]] w fun e w' => e = .returned (.int .i64 (svE r l)) ∧ Bl w w' := by
  rcases bcase (svB r l) with h1 | h1
  · have E := Lib.hid (svE_t h1)
    have K1 := Lib.hid (fun w => sright_v h1 w)
    clear h1
    go_enter Try.func31, Try.ntmps31
    go_wp2_with fail
    refine (K1.out _).mono ?_; rintro e w1 ⟨rfl, gr⟩
    have G := Lib.hid (((Bl.refl w).alloc _).trans gr); clear gr
    go_wp2_with fail
    go_ret
    exact ⟨ret_int E.out.symm, G.out⟩
  · have E := Lib.hid (svE_f h1)
    have K1 := Lib.hid (fun w => sright_v h1 w)
    clear h1
    go_enter Try.func31, Try.ntmps31
    go_wp2_with fail
    refine (K1.out _).mono ?_; rintro e w1 ⟨rfl, gr⟩
    have G := Lib.hid (((Bl.refl w).alloc _).trans gr); clear gr
    go_wp2_with fail
    go_ret
    exact ⟨ret_int E.out.symm, G.out⟩
theorem srcheck_v {r l v : Int} (h : svE r l = v) (w : World) :
    Calls Try.prog 31 #[.agg #[.int .i64 r, .int .i64 l]] w fun e w' => e = .returned (.int .i64 v) ∧ Bl w w' := by
  have := srcheck_any r l w; rw [h] at this; exact this

theorem unless_any (c : Bool) (v : Int) (w : World) :
    Calls Try.prog 76 #[.bool c, .int .i64 v] w fun e w' => e = .returned (.int .i64 (if c then 0 else v)) ∧ w = w' := by
  cases c
  · go_enter Try.func76, Try.ntmps76
    go_wp2
    go_ret
    exact ⟨rfl, rfl⟩
  · go_enter Try.func76, Try.ntmps76
    go_wp2
    go_ret
    exact ⟨rfl, rfl⟩

end Go.Proofs.Ytgbbglnbolihfaa
