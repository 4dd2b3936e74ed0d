/-
  What bent of the law's package returns: the trace with one arrival replaced.
-/
import Derived.Test.YtlpbmhiipiaiaaaBv
import Derived.BigRegion
namespace Go.Proofs.Ytlpbmhiipiaiaaa
open Go.RowKit

def bentL (xs : List (Int × Int)) (x y t : Int) : List (Int × Int) := xs.set (t.toNat % xs.length) (x, y)
theorem bentL_len (xs : List (Int × Int)) (x y t : Int) : (bentL xs x y t).length = xs.length := by simp [bentL]
theorem bent_at (xs : List (Int × Int)) (x y t : Int) (j : Nat) (h : j < xs.length) : (j = t.toNat % xs.length ∧ fs (bentL xs x y t) j = x ∧ sn (bentL xs x y t) j = y) ∨ (j ≠ t.toNat % xs.length ∧ fs (bentL xs x y t) j = fs xs j ∧ sn (bentL xs x y t) j = sn xs j) := by
  unfold fs sn bentL
  by_cases e : j = t.toNat % xs.length
  · refine .inl ⟨e, ?_⟩
    rw [← e]
    simp [List.getD_eq_getElem?_getD, h]
  · refine .inr ⟨e, ?_⟩
    simp [List.getD_eq_getElem?_getD, List.getElem?_set_ne (Ne.symm e)]

theorem Tr.set {w : World} {g k : Nat} {xs : List (Int × Int)} {x y t : Int} (h : Tr w (some ⟨g, 0, none⟩) xs) (hk : k < xs.length) (e : k = t.toNat % xs.length) :
    Tr ((w.setCell ⟨g, k * 2, none⟩ (.int .i64 x)).setCell ⟨g, k * 2 + 1, none⟩ (.int .i64 y)).drew (some ⟨g, 0, none⟩) (bentL xs x y t) := fun j hj => by
  rw [bentL_len] at hj
  obtain ⟨b, off, e1, hb, h0, h1⟩ := h j hj
  injection e1 with e1
  injection e1 with e1 e2
  subst e1 e2
  rw [Nat.zero_add] at h0 h1
  obtain ⟨_, _, _, _, q0, q1⟩ := h k hk
  rename_i b' o' e3 _
  injection e3 with e3
  injection e3 with e3 e4
  subst e3 e4
  rw [Nat.zero_add] at q0 q1
  refine ⟨g, 0, rfl, by simpa [World.setCell] using hb, ?_, ?_⟩
  · show ((w.setCell ⟨g, k * 2, none⟩ (.int .i64 x)).setCell ⟨g, k * 2 + 1, none⟩ (.int .i64 y)).cell? _ = _
    rw [Nat.zero_add]
    rcases bent_at xs x y t j hj with ⟨ej, f1, _⟩ | ⟨ej, f1, _⟩
    · rw [← e] at ej
      subst ej
      rw [f1, World.cell?_setCell_other _ _ _ _ (by simp)]
      exact World.cell?_setCell_same _ _ _ q0
    · rw [← e] at ej
      rw [f1, World.cell?_setCell_other _ _ _ _ (by simp <;> omega), World.cell?_setCell_other _ _ _ _ (by simp <;> omega)]
      exact h0
  · show ((w.setCell ⟨g, k * 2, none⟩ (.int .i64 x)).setCell ⟨g, k * 2 + 1, none⟩ (.int .i64 y)).cell? _ = _
    rw [Nat.zero_add]
    rcases bent_at xs x y t j hj with ⟨ej, _, f2⟩ | ⟨ej, _, f2⟩
    · rw [← e] at ej
      subst ej
      rw [f2]
      exact World.cell?_setCell_same _ _ _ ((World.cell?_setCell_other _ _ _ _ (by simp)).trans q1)
    · rw [← e] at ej
      rw [f2, World.cell?_setCell_other _ _ _ _ (by simp <;> omega), World.cell?_setCell_other _ _ _ _ (by simp <;> omega)]
      exact h1
theorem keepX {w1 : World} {a g i j : Nat} {x y u v : Value} (h0 : w1.cell? ⟨a, 0, none⟩ = some x) (h1 : w1.cell? ⟨a, 1, none⟩ = some y) (hne : a < g) :
    ((w1.setCell ⟨g, i, none⟩ u).setCell ⟨g, j, none⟩ v).drew.cell? ⟨a, 0, none⟩ = some x ∧ ((w1.setCell ⟨g, i, none⟩ u).setCell ⟨g, j, none⟩ v).drew.cell? ⟨a, 1, none⟩ = some y := by
  have n : g ≠ a := by omega
  constructor
  · show ((w1.setCell ⟨g, i, none⟩ u).setCell ⟨g, j, none⟩ v).cell? _ = _
    rw [World.cell?_setCell_far _ _ _ _ n, World.cell?_setCell_far _ _ _ _ n]; exact h0
  · show ((w1.setCell ⟨g, i, none⟩ u).setCell ⟨g, j, none⟩ v).cell? _ = _
    rw [World.cell?_setCell_far _ _ _ _ n, World.cell?_setCell_far _ _ _ _ n]; exact h1
theorem lit4 (w : World) (e : TypeId) (o : Obj) : ((w.alloc o).alloc (.cells #[] e)).ownsRow w.heap.size e 2 (.slice (some ⟨w.heap.size + 1, 0, none⟩) 0 0) 0 [] := lit3 w e o

set_option maxRecDepth 100000 in
set_option maxHeartbeats 4000000 in
theorem bent_any (xs : List (Int × Int)) (A : Option Addr) (cap : Nat) (x y t : Int) (w : World) (hl : xs.length ≤ 1000) (ht : 0 ≤ t ∧ t ≤ 255) (hT : Tr w A xs) :
    Calls Try.prog 19 #[.slice A xs.length cap, .agg #[.int .i64 x, .int .i64 y], .int .u8 t] w (TrRes w (bentL xs x y t)) := by
  obtain ⟨i0, hi, hz0, hz1, hz2⟩ := info_parts info_arr
  have HI := Lib.hid hi
  have HZ0 := Lib.hid hz0
  have HZ1 := Lib.hid hz1
  have HZ2 := Lib.hid hz2
  have T0 := Lib.hid hT
  clear hi hz0 hz1 hz2 hT
  obtain ⟨t0, t1⟩ := ht
  obtain ⟨m, hm⟩ : ∃ m, xs.length = m := ⟨_, rfl⟩
  rw [hm] at hl ⊢
  have HM := Lib.hid hm
  clear hm
  go_enter Try.func19, Try.ntmps19
  rcases Nat.eq_zero_or_pos m with h0 | h0
  · have hxs : xs = [] := List.eq_nil_of_length_eq_zero (HM.out.trans h0)
    have m1 : ¬ (0 : Int) < (m : Int) := by omega
    clear h0
    have HXS := Lib.hid hxs
    clear hxs
    go_wp2_with (at_builtin; refine wpList_app _ rfl _ _ _ rfl w.heap.size 30 i0 _ 16 Try.underlying42 HI.out HZ0.out HZ1.out HZ2.out rfl (.slice (some ⟨w.heap.size + 1, 0, none⟩) 0 0) 0 [] rfl (lit4 w _ _) A m cap xs rfl HM.out.symm (T0.out.go (((Bl.refl w).alloc _).alloc _)) (by unfold maxLen; omega) (by omega) (by simp <;> omega) ?_; intro v1 w1 hown1 hgrow hat; clear hat; rw [List.nil_append] at hown1; obtain ⟨hl1, A1, c1, rfl, h11, _, hT1, hf1⟩ := Tr.of_own hown1; have G1 := Lib.hid (Bl.grownBy (((Bl.refl w).alloc _).alloc _) hgrow (own_block_ge (lit4 w 30 (.cells #[.int .i64 x, .int .i64 y] 30)))); have T1 := Lib.hid hT1; have F1 := Lib.hid hf1; clear hown1 hgrow hl1 hT1 hf1 h11)
    go_ret
    have e : bentL xs x y t = [] := by rw [HXS.out]; rfl
    have hm0 : m = 0 := by have := HM.out; rw [HXS.out] at this; exact this.symm
    rw [HXS.out] at T1
    exact ⟨A1, c1, (by show Ending.returned (.slice A1 m c1) = _; rw [e, hm0]; rfl), by rw [e]; exact Nat.zero_le _, by rw [e]; exact T1.out, G1.out, F1.out⟩
  · have hxs : xs ≠ [] := fun e => by have := HM.out; rw [e] at this; simp at this; omega
    have m1 : (0 : Int) < (m : Int) := by omega
    obtain ⟨k, hk⟩ : ∃ k, t.toNat % m = k := ⟨_, rfl⟩
    have hkm : k < m := by rw [← hk]; exact Nat.mod_lt _ h0
    have hkI : t % (m : Int) = (k : Int) := by
      rw [← hk, Int.natCast_emod, Int.toNat_of_nonneg t0]
    have HK := Lib.hid hk
    clear hk
    go_wp2_with (at_builtin; refine wpList_app _ rfl _ _ _ rfl w.heap.size 30 i0 _ 16 Try.underlying42 HI.out HZ0.out HZ1.out HZ2.out rfl (.slice (some ⟨w.heap.size + 1, 0, none⟩) 0 0) 0 [] rfl (lit4 w _ _) A m cap xs rfl HM.out.symm (T0.out.go (((Bl.refl w).alloc _).alloc _)) (by unfold maxLen; omega) (by omega) (by simp <;> omega) ?_; intro v1 w1 hown1 hgrow hat; rw [List.nil_append] at hown1; obtain ⟨g, c1, rfl, hg1, hg2⟩ := hown1.form (by omega); have hgn : w.heap.size < g := (by rcases hat with h | h <;> simp [Value.ownBlock] at h <;> omega); clear hat hg1; have G1 := Lib.hid (Bl.grownBy (((Bl.refl w).alloc _).alloc _) hgrow (own_block_ge (lit4 w 30 (.cells #[.int .i64 x, .int .i64 y] 30)))); have O1 := Lib.hid hown1; have S0 := Lib.hid ((Sl.new w x y 30).go ((Bl.refl _).alloc (.cells #[] 30))); have GR := Lib.hid hgrow; clear hown1 hgrow)
    obtain ⟨_, A2, c2, eA, hle, _, hT2, hf2⟩ := Tr.of_own O1.out
    injection eA with e1 e2 e3
    subst e1 e3
    have T2 := Lib.hid hT2
    obtain ⟨b9, o9, e9, _, p0, p1⟩ := T2.out k (by rw [HM.out]; exact hkm)
    injection e9 with e9
    injection e9 with e9 e10
    subst e9 e10
    rw [Nat.zero_add] at p0 p1
    have F2 := Lib.hid hf2
    have LE := Lib.hid hle
    have sx0 := (GR.out.cell_far ⟨w.heap.size, 0, none⟩ (by simp <;> omega) (by simp [Value.ownBlock])).trans S0.out.c0
    have sx1 := (GR.out.cell_far ⟨w.heap.size, 1, none⟩ (by simp <;> omega) (by simp [Value.ownBlock])).trans S0.out.c1
    have fr0 := O1.out.frozenAt (k * 2)
    have fr1 := O1.out.frozenAt (k * 2 + 1)
    have m2 : ¬ (m : Int) = 0 := by omega
    have m3 : ((m : Int) == 0) = false := beq_false_of_ne m2
    have m4 : (k : Int) < (m : Int) := by omega
    have m5 : (0 : Int) ≤ (k : Int) := by omega
    have m6 : t.tmod (m : Int) = (k : Int) := by rw [Int.tmod_eq_emod_of_nonneg t0]; exact hkI
    have m7 : IntKind.i64.wrap (k : Int) = (k : Int) := IntWalk.i64_in _ (by omega)
    clear hT2 hf2 hle m2 h0 hxs
    go_region
    all_goals go_wp2_with fail
    go_ret
    refine ⟨some ⟨g, 0, none⟩, c1, ?_, by rw [bentL_len, HM.out]; have := LE.out; omega, Tr.set T2.out (by rw [HM.out]; exact hkm) (by rw [HM.out]; exact HK.out.symm), ((G1.out.setCell (by simp <;> omega) _).setCell (by simp <;> omega) _).drew, F2.out⟩
    show Ending.returned (.slice (some ⟨g, 0, none⟩) m c1) = _
    rw [bentL_len, HM.out]

end Go.Proofs.Ytlpbmhiipiaiaaa
