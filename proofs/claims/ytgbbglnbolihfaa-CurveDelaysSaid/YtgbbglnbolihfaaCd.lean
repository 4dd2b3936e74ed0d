/-
  What crossing of package curve returns, and what its iterator distances yields.
-/
import Derived.Test.YtgbbglnbolihfaaCc
namespace Go.Proofs.Ytgbbglnbolihfaa
open Go.RowKit Go.Shelf

attribute [local go_sem] Oper.semAt_some

/-- Where the limits of a fast bucket (u, R) and a slow one (v, S) cross. -/
def cr (u R v S r : Int) : Int := cl (((R - r) * v + (r - S) * u) * 1048576) (r * (R - S))
/-- What the fast buckets among the first j add to the slow bucket k. -/
def crs (xs : List (Int × Int)) (r : Int) (k : Nat) : Nat → List Int
  | 0 => []
  | j + 1 => crs xs r k j ++ (if r < sn xs j ∧ fs xs j < fs xs k then [cr (fs xs j) (sn xs j) (fs xs k) (sn xs k) r] else [])
def dsb (xs : List (Int × Int)) (r : Int) (k : Nat) : List Int := if sn xs k ≤ r then cl (fs xs k * 1048576) r :: crs xs r k xs.length else []
def dsp (xs : List (Int × Int)) (r : Int) : Nat → List Int
  | 0 => []
  | k + 1 => dsp xs r k ++ dsb xs r k
/-- The numbers of which the clearing time is the least. -/
def dis (xs : List (Int × Int)) (r : Int) : List Int := dsp xs r xs.length
theorem crs_length (xs : List (Int × Int)) (r : Int) (k j : Nat) : (crs xs r k j).length ≤ j := by
  induction j with
  | zero => exact Nat.le_refl 0
  | succ j ih =>
    show (crs xs r k j ++ _).length ≤ j + 1
    rw [List.length_append]
    by_cases h : r < sn xs j ∧ fs xs j < fs xs k
    · rw [if_pos h]; simp; exact ih
    · rw [if_neg h]; simp; omega
theorem dsb_length (xs : List (Int × Int)) (r : Int) (k : Nat) : (dsb xs r k).length ≤ xs.length + 1 := by
  unfold dsb
  by_cases h : sn xs k ≤ r
  · rw [if_pos h]; simp; exact crs_length _ _ _ _
  · rw [if_neg h]; simp
theorem dsp_length (xs : List (Int × Int)) (r : Int) (k : Nat) : (dsp xs r k).length ≤ k * (xs.length + 1) := by
  induction k with
  | zero => exact Nat.zero_le _
  | succ k ih =>
    show (dsp xs r k ++ dsb xs r k).length ≤ (k + 1) * (xs.length + 1)
    rw [List.length_append, Nat.succ_mul]
    have := dsb_length xs r k
    omega
theorem dsp_room {xs : List (Int × Int)} {r : Int} {k m : Nat} (hk : k < xs.length) (hm : m ≤ xs.length) : (dsp xs r k).length + m < xs.length * (xs.length + 1) := by
  have h1 := dsp_length xs r k
  have h2 : (k + 1) * (xs.length + 1) ≤ xs.length * (xs.length + 1) := Nat.mul_le_mul_right _ hk
  rw [Nat.succ_mul] at h2
  omega

theorem mul_bd {x y X Y : Int} (hx : 0 ≤ x ∧ x ≤ X) (hy : 0 ≤ y ∧ y ≤ Y) : 0 ≤ x * y ∧ x * y ≤ X * Y := by
  refine ⟨Int.mul_nonneg hx.1 hy.1, ?_⟩
  have h1 := Int.mul_le_mul_of_nonneg_right hx.2 hy.1
  have h2 := Int.mul_le_mul_of_nonneg_left hy.2 (show 0 ≤ X by omega)
  omega

set_option maxHeartbeats 1000000 in
theorem crossing_any (u R v S r : Int) (hu : 1 ≤ u ∧ u ≤ 1048576) (hv : 1 ≤ v ∧ v ≤ 1048576) (hR : R ≤ 2097152) (hS : 1 ≤ S) (hr : 1 ≤ r) (h1 : S ≤ r) (h2 : r < R) (w : World) :
    Calls Try.prog 88 #[.agg #[.int .i64 u, .int .i64 R], .agg #[.int .i64 v, .int .i64 S], .int .i64 r] w fun e w' => e = .returned (.int .i64 (cr u R v S r)) ∧ Bl w w' := by
  obtain ⟨p1l, p1h⟩ := mul_bd (x := R - r) (y := v) (X := R - r) (Y := 1048576) (by omega) (by omega)
  obtain ⟨p2l, p2h⟩ := mul_bd (x := r - S) (y := u) (X := r - S) (Y := 1048576) (by omega) (by omega)
  obtain ⟨ml, mh⟩ := mul_bd (x := r) (y := R - S) (X := 2097152) (Y := 2097152) (by omega) (by omega)
  have mlow : R - S ≤ r * (R - S) := by
    have := Int.mul_le_mul_of_nonneg_right hr (show 0 ≤ R - S by omega)
    omega
  have e0 : (R - r) + (r - S) = R - S := by omega
  have hq : cr u R v S r ≤ 1099511627776 := by
    unfold cr
    refine (cl_le (by omega)).2 ?_
    have : (R - r) * v + (r - S) * u ≤ 1048576 * (R - S) := by omega
    omega
  obtain ⟨q, hq0⟩ : ∃ q, cr u R v S r = q := ⟨_, rfl⟩
  rw [hq0] at hq ⊢
  unfold cr at hq0
  have w1 : IntKind.i64.wrap (R - r) = R - r := IntWalk.i64_in _ (by omega)
  have w2 : IntKind.i64.wrap (r - S) = r - S := IntWalk.i64_in _ (by omega)
  have w3 : IntKind.i64.wrap ((R - r) * v) = (R - r) * v := IntWalk.i64_in _ (by omega)
  have w4 : IntKind.i64.wrap ((r - S) * u) = (r - S) * u := IntWalk.i64_in _ (by omega)
  have w5 : IntKind.i64.wrap ((R - r) * v + (r - S) * u) = (R - r) * v + (r - S) * u := IntWalk.i64_in _ (by omega)
  have w6 : IntKind.i64.wrap ((R - r) + (r - S)) = R - S := by rw [e0]; exact IntWalk.i64_in _ (by omega)
  have w7 : IntKind.i64.wrap (r * (R - S)) = r * (R - S) := IntWalk.i64_in _ (by omega)
  have K := Lib.hid (fun w => ceil_v hq0 (by omega) (by omega) (by omega) (by omega) w)
  clear hq0 hq p1l p1h p2l p2h ml mh mlow e0 hu hv hR hS hr h1 h2
  go_enter Try.func88, Try.ntmps88
  go_wp2_with fail
  go_quiet (fail)
  go_wp2_with fail
  refine (K.out _).mono ?_; rintro e w8 ⟨rfl, gr⟩
  have G := Lib.hid (Bl.trans ((((Bl.refl w).alloc _).alloc _).drewN _) gr)
  clear gr
  go_wp2_with fail
  go_ret
  exact ⟨rfl, G.out⟩

/-- Nothing but the block c has turned, as far as blocks of cells go. -/
structure KpC (c : Nat) (W W' : World) : Prop where
  os : W'.os = W.os
  tape : W'.tape = W.tape
  output : W'.output = W.output
  size : W.heap.size ≤ W'.heap.size
  block : ∀ k o, k ≠ c → W.heap[k]? = some o → o.isCells = true → W'.heap[k]? = some o
theorem KpC.refl (c : Nat) (W : World) : KpC c W W := ⟨rfl, rfl, rfl, Nat.le_refl _, fun _ _ _ h _ => h⟩
theorem KpC.trans {c : Nat} {A B C : World} (h : KpC c A B) (k : KpC c B C) : KpC c A C :=
  ⟨k.os.trans h.os, k.tape.trans h.tape, k.output.trans h.output, Nat.le_trans h.size k.size, fun i o hi ho hc => k.block i o hi (h.block i o hi ho hc) hc⟩
theorem heap_lt {W : World} {k : Nat} {o : Obj} (h : W.heap[k]? = some o) : k < W.heap.size := (Array.getElem?_eq_some_iff.1 h).1
theorem KpC.of_bl {c : Nat} {A B : World} (g : Bl A B) : KpC c A B := ⟨g.os, g.tape, g.output, g.size, fun k _ _ ho _ => (Below.block g k (heap_lt ho)).trans ho⟩
theorem KpC.cell {c k i : Nat} {A B : World} {v : Value} (h : KpC c A B) (hk : k ≠ c) (hc : A.cell? ⟨k, i, none⟩ = some v) : B.cell? ⟨k, i, none⟩ = some v := by
  have hc' := hc
  unfold World.cell? at hc'
  cases ho : A.heap[k]? with
  | none => simp [ho] at hc'
  | some o =>
    have hb : o.isCells = true := by cases o <;> simp [ho] at hc' <;> rfl
    have := h.block k o hk ho hb
    exact (World.cell?_of_block (this.trans ho.symm)).trans hc
theorem KpC.setCell {c i : Nat} {A B : World} (h : KpC c A B) (v : Value) : KpC c A (B.setCell ⟨c, i, none⟩ v) :=
  ⟨h.os, h.tape, h.output, by have := h.size; simpa [World.setCell] using this, fun k o hk ho hc => (Below.heap_setCell B ⟨c, i, none⟩ v k hk).trans (h.block k o hk ho hc)⟩
theorem KpC.putObj {c l : Nat} {W : World} {o o' : Obj} (hl : W.heap[l]? = some o) (hc : o.isCells = false) : KpC c W (W.putObj l o') := by
  have g := grownBy_putObj' W l o'
  refine ⟨g.os, g.tape, g.output, g.size, fun k x _ hx hcx => ?_⟩
  rw [g.block k (heap_lt hx) (fun e => by cases e; rw [hl] at hx; cases hx; rw [hc] at hcx; cases hcx)]
  exact hx

end Go.Proofs.Ytgbbglnbolihfaa
