/-
  WireOrder: encodings of the same length compare like their integers.
-/
import Derived.Test.YtjbjmnlckgiolaaWj
namespace Go.Proofs.Ytjbjmnlckgiolaa
open Go.RowKit

set_option maxRecDepth 20000 in
set_option maxHeartbeats 1000000 in
theorem order_law (x y t : Int) (ht : 0 ≤ t ∧ t ≤ 255) (w : World) :
    Calls Try.prog 6 #[.agg #[.int .i64 x, .int .i64 y], .int .u8 t] w fun e w' => e = .returned (.bool true) ∧ Bl w w' := by
  have KW := Lib.hid (fun w => wworks_any w)
  obtain ⟨j, hk7, hk⟩ : ∃ j : Nat, j ≤ 6 ∧ t % 7 = (j : Int) := ⟨(t % 7).toNat, by omega, by omega⟩
  go_enter Try.func6, Try.ntmps6
  go_wp2_with fail
  refine (KW.out _).mono ?_; rintro e w1 ⟨rfl, gr⟩
  have k0 := (gr.cell (p := ⟨w.heap.size, 0, none⟩) (by simp <;> omega)).trans (show _ = some (Value.int .i64 x) by simp [go_sem])
  have k1 := (gr.cell (p := ⟨w.heap.size, 1, none⟩) (by simp <;> omega)).trans (show _ = some (Value.int .i64 y) by simp [go_sem])
  have G := Lib.hid (Bl.trans ((Bl.refl w).alloc _) gr); clear gr
  generalize w.heap.size = a at *
  go_wp2_with fail
  obtain ⟨k, hk⟩ : ∃ k : Nat, k = j + 1 := ⟨_, rfl⟩
  rw [show 1 + (j : Int) = (k : Int) by omega]
  have hk1 : 1 ≤ (k : Int) := by omega
  have hk8 : (k : Int) ≤ 7 := by omega
  have h8 : IntKind.i64.wrap (8 * (k : Int)) = 8 * (k : Int) := IntWalk.i64_in _ (by omega)
  have hsh := shl_pw k (by omega)
  have hp := pw_pos k
  clear hk ht
  go_quiet (fail)
  rw [md_in x k (by omega), md_in y k (by omega)]
  have ea := be_less x y k
  have eb := be_eq x y k
  have px : x % pw k % pw k = x % pw k := Int.emod_emod_of_dvd _ (Int.dvd_refl _)
  have py : y % pw k % pw k = y % pw k := Int.emod_emod_of_dvd _ (Int.dvd_refl _)
  have x0 := Int.emod_nonneg x (show pw k ≠ 0 by omega)
  have x1 := Int.emod_lt_of_pos x hp
  have y0 := Int.emod_nonneg y (show pw k ≠ 0 by omega)
  have y1 := Int.emod_lt_of_pos y hp
  have hq : pw k ≤ 72057594037927936 := pw_mono (b := 7) (by omega)
  have EL := Lib.hid (by have := be_less (x % pw k) (y % pw k) k; rw [px, py] at this; exact this)
  have EQ := Lib.hid (by have := be_eq (x % pw k) (y % pw k) k; rw [px, py] at this; exact this)
  have KX := Lib.hid (fun (W : World) => put_v (s := ⟨#[]⟩) (n := x % pw k) (k := (k : Int)) (puS_be (by omega) (by omega) x0 x1).1 (puS_be (s := ⟨#[]⟩) (by omega) (by omega) x0 x1).2 (by decide) (by omega) W)
  have KY := Lib.hid (fun (W : World) => put_v (s := ⟨#[]⟩) (n := y % pw k) (k := (k : Int)) (puS_be (by omega) (by omega) y0 y1).1 (puS_be (s := ⟨#[]⟩) (by omega) (by omega) y0 y1).2 (by decide) (by omega) W)
  rw [no_app] at KX KY
  clear ea eb px py hsh
  rw [← ByteArray.toList_eq, ← ByteArray.toList_eq] at EL EQ
  generalize be (x % pw k) k = bx at *
  generalize be (y % pw k) k = by' at *
  generalize x % pw k = m at *
  generalize y % pw k = n at *
  go_wp2_with fail
  refine (KX.out _).mono ?_; rintro e w2 ⟨rfl, gr⟩
  have G2 := Lib.hid (Bl.trans (G.out.drewN nq) gr); clear gr
  go_wp2_with fail
  refine (KY.out _).mono ?_; rintro e w3 ⟨rfl, gr⟩
  have G3 := Lib.hid (G2.out.trans gr); clear gr
  have el := EL.out
  have eq := EQ.out
  go_wp2_with fail
  go_ret
  exact ⟨ret_bool (by by_cases h : m = n <;> simp [h]), G3.out⟩

end Go.Proofs.Ytjbjmnlckgiolaa
