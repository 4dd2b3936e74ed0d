/-
  Slices of structs of two integers as arguments; five parameters.
-/
import Derived.Test.YtajlcagbfebbjaaBw
import Derived.Carry
namespace Go.Proofs.Ytajlcagbfebbjaa
open Go.ChangeShapes Go.WideShapes Go.ChangeAt Go.WideMaps Go.WideElems Go.RowKit Go.Deep

section
variable {H : Type} {enc : TypeId × Value → H} {w : World}
theorem int_of {n : Nat} {t : TypeId} {V : Value} {x : DataW H × List MemPlace} (ht : Try.prog.underlying t = some (.int .i64)) (h : DataW.trod enc Try.prog w 0 (fun _ => true) true n t [V] = some x) : V = .int .i64 (intOf V) := by
  obtain ⟨z, e, _⟩ := DataW.trod_int ht h
  obtain rfl : V = .int .i64 z := by simpa using e
  rfl
set_option maxRecDepth 100000 in
theorem open_pairs {t e : TypeId} {f0 f1 : Field} {r : Reach} {b0 : Nat} {v : Value} {d : DataW H} {p : List MemPlace} (ht : Try.prog.underlying t = some (.slice e)) (he : Try.prog.underlying e = some (.struct #[f0, f1]))
    (ce : Try.prog.cellsOf e = 2) (o0 : f0.offset = 0) (o1 : f1.offset = 1) (c0 : Try.prog.cellsOf f0.type = 1) (c1 : Try.prog.cellsOf f1.type = 1) (i0 : Try.prog.underlying f0.type = some (.int .i64)) (i1 : Try.prog.underlying f1.type = some (.int .i64))
    (hv : Value.okWide Try.prog w r b0 t v) (h : DataW.Trod enc Try.prog w 0 (fun _ => true) true t v d p) :
    ∃ A cap xs, v = .slice A (List.length xs) cap ∧ ((xs.length : Nat) : Int) ≤ 9223372036854775807 ∧ xs.length ≤ cap ∧ Tr w A xs := by
  obtain ⟨a0, len, cap, rfl⟩ := okWide_slice ht hv
  obtain ⟨fuel, hf⟩ := h
  rcases open_slice_pairs ht he ce o0 o1 c0 c1 hf with ⟨e1, _⟩ | ⟨a, len', cap', m, n, V0, V1, _, _, _, _, e1, _, hle, hm, hmm, _, hc⟩
  · simp [Value.cells] at e1
    obtain ⟨rfl, rfl, rfl⟩ := e1
    exact ⟨none, 0, [], rfl, by simp, Nat.le_refl _, Tr.nil⟩
  · simp [Value.cells] at e1
    obtain ⟨rfl, rfl, rfl⟩ := e1
    simp only [if_true] at hmm
    have hlen : ((List.range len).map fun i => (intOf (V0 i), intOf (V1 i))).length = len := by simp
    refine ⟨some a, cap, (List.range len).map fun i => (intOf (V0 i), intOf (V1 i)), by rw [hlen], by rw [hlen]; unfold maxLen at hm; omega, by rw [hlen]; exact hle, fun k hk => ?_⟩
    rw [hlen] at hk
    obtain ⟨q0, _, _, _⟩ := hc 0 (by omega)
    rw [Nat.zero_mul, add_zero' a] at q0
    have ha := cell_spot q0
    obtain ⟨r0, r1, t0, t1⟩ := hc k (by omega)
    obtain ⟨b, o, s⟩ := a
    injection ha with _ _ ha
    subst ha
    rw [addN] at r0 r1
    have g0 : fs ((List.range len).map fun i => (intOf (V0 i), intOf (V1 i))) k = intOf (V0 k) := by unfold fs; simp [List.getD_eq_getElem?_getD, hk]
    have g1 : sn ((List.range len).map fun i => (intOf (V0 i), intOf (V1 i))) k = intOf (V1 k) := by unfold sn; simp [List.getD_eq_getElem?_getD, hk]
    exact ⟨b, o, rfl, World.block_lt_of_cell? w _ q0, by rw [g0, ← int_of i0 t0]; exact r0, by rw [g1, ← int_of i1 t1]; exact r1⟩
theorem trodAll_five {P : Program} {base : Nat} {spare : Nat → Bool} {held : Bool} {t0 t1 t2 t3 t4 : TypeId} {args : Array Value} {ds : List (DataW H)} {ps : List MemPlace} (h : DataW.TrodAll enc P w base spare held [t0, t1, t2, t3, t4] args.toList ds ps) :
    ∃ v0 v1 v2 v3 v4 d0 d1 d2 d3 d4 p0 p1 p2 p3 p4, args = #[v0, v1, v2, v3, v4] ∧ ds = [d0, d1, d2, d3, d4] ∧ ps = p0 ++ (p1 ++ (p2 ++ (p3 ++ p4))) ∧ DataW.Trod enc P w base spare held t0 v0 d0 p0 ∧ DataW.Trod enc P w base spare held t1 v1 d1 p1 ∧ DataW.Trod enc P w base spare held t2 v2 d2 p2 ∧ DataW.Trod enc P w base spare held t3 v3 d3 p3 ∧ DataW.Trod enc P w base spare held t4 v4 d4 p4 := by
  obtain ⟨v0, vs, d0, ds0, p0, q0, hargs, rfl, rfl, h0, r0⟩ := trodAll_cons h
  obtain ⟨v1, vs1, d1, ds1, p1, q1, rfl, rfl, rfl, h1, r1⟩ := trodAll_cons r0
  obtain ⟨v2, vs2, d2, ds2, p2, q2, rfl, rfl, rfl, h2, r2⟩ := trodAll_cons r1
  obtain ⟨v3, vs3, d3, ds3, p3, q3, rfl, rfl, rfl, h3, r3⟩ := trodAll_cons r2
  obtain ⟨v4, vs4, d4, ds4, p4, q4, rfl, rfl, rfl, h4, r4⟩ := trodAll_cons r3
  obtain ⟨rfl, rfl, rfl⟩ := trodAll_nil r4
  exact ⟨v0, v1, v2, v3, v4, d0, d1, d2, d3, d4, p0, p1, p2, p3, p4, by cases args; simp_all, rfl, by simp, h0, h1, h2, h3, h4⟩
end

end Go.Proofs.Ytajlcagbfebbjaa
