/-
  The arguments of the laws of stage 3: a draft, two integers in a struct, and slices of such structs, opened to cells.
-/
import Derived.Test.YtajlcagbfebbjaaBv
import Derived.Test.YtajlcagbfebbjaaSh
import Derived.ProofKit
import Derived.OpenShut
import Derived.DataBytes
import Derived.Deep.SlicePairs
import Derived.ChangeSlices
import Derived.Lib.SmallJoins
namespace Go.Proofs.Ytajlcagbfebbjaa
open Go.ChangeShapes Go.WideShapes Go.ChangeAt Go.WideMaps Go.WideElems Go.RowKit Go.Deep

/-- Fits 64 bits. -/
def fits (n : Int) : Prop := -9223372036854775808 ≤ n ∧ n ≤ 9223372036854775807

section
variable {H : Type} {enc : TypeId × Value → H} {w : World} {held : Bool}
/-- A slice address whose first cell reads has no spot. -/
theorem cell_spot {a : Addr} {v : Value} (h : w.cell? a = some v) : a = ⟨a.block, a.off, none⟩ := by
  obtain ⟨b, o, s⟩ := a
  cases s with
  | none => rfl
  | some s =>
    unfold World.cell? at h
    cases hb : w.heap[b]? with
    | none => simp [hb] at h
    | some x => cases x <;> simp [hb] at h
theorem add_zero' (a : Addr) : a.add 0 = a := by unfold Addr.add; rw [if_pos rfl]
set_option maxRecDepth 100000 in
theorem open_two {t : TypeId} {r : Reach} {b0 base : Nat} {spare : Nat → Bool} {v : Value} {d : DataW H} {p : List MemPlace} {f0 f1 : Field} (hs : Try.prog.underlying t = some (.struct #[f0, f1])) (hone : oneCellFields Try.prog #[f0, f1] = true) (hC : Try.prog.cellsOf t = 2)
    (h0 : Try.prog.underlying f0.type = some (.int .i64)) (h1 : Try.prog.underlying f1.type = some (.int .i64))
    (hv : Value.okWide Try.prog w r b0 t v) (h : DataW.Trod enc Try.prog w base spare held t v d p) :
    ∃ x y : Int, v = .agg #[.int .i64 x, .int .i64 y] ∧ fits x ∧ fits y := by
  obtain ⟨v0, v1, y0, y1, n, rfl, rfl, rfl, t0, t1⟩ := Go.Joins.open_agg2 hs hone hC hv h
  obtain ⟨x, e1, e2, e3⟩ := DataW.trod_int h0 t0
  obtain ⟨y, f1, f2, f3⟩ := DataW.trod_int h1 t1
  obtain rfl : v0 = .int .i64 x := by simpa using e1
  obtain rfl : v1 = .int .i64 y := by simpa using f1
  exact ⟨x, y, rfl, bounds_i64 e3, bounds_i64 f3⟩
theorem open_us {fuel : Nat} {v : Value} {x : DataW H × List MemPlace} (h : DataW.trod enc Try.prog w 0 (fun _ => true) held fuel 23 [v] = some x) :
    ∃ A c zs, v = .slice A (List.length zs) c ∧ Us w A zs ∧ U16 zs ∧ ((zs.length : Nat) : Int) ≤ 9223372036854775807 := by
  rcases open_ints Try.underlying23 Try.underlying61 (by kernel_rfl) h with ⟨e, _⟩ | ⟨a, len, cap, zs, e, _, hle, hm, hl, _, hc, hw⟩
  · exact ⟨none, 0, [], by simpa using e, fun k hk => absurd hk (by simp), fun k hk => absurd hk (by simp), by simp⟩
  · simp only [if_true] at hl
    have hlt : (zs.take len).length = len := by rw [List.length_take]; omega
    have hg : ∀ k, k < len → (zs.take len).getD k 0 = zs.getD k 0 := fun k hk => by simp [List.getD_eq_getElem?_getD, List.getElem?_take_of_lt hk]
    refine ⟨some a, cap, zs.take len, by rw [hlt]; simpa using e, fun k hk => ?_, fun k hk => ?_, by rw [hlt]; unfold maxLen at hm; omega⟩
    · rw [hlt] at hk
      have h0 := hc 0 (by omega)
      rw [add_zero' a] at h0
      have ha := cell_spot h0
      have h1 := hc k (by omega)
      obtain ⟨b, o, sp⟩ := a
      injection ha with _ _ ha
      subst ha
      rw [addN] at h1
      exact ⟨b, o, rfl, World.block_lt_of_cell? w _ h0, by rw [hg k hk]; exact h1⟩
    · rw [hlt] at hk
      rw [hg k hk]
      have hmem : zs.getD k 0 ∈ zs := by
        rw [List.getD_eq_getElem?_getD, List.getElem?_eq_getElem (by omega)]
        exact List.getElem_mem _
      exact bounds_u16 (hw _ hmem)
set_option maxRecDepth 100000 in
theorem open_draft {r : Reach} {b0 : Nat} {v : Value} {d : DataW H} {p : List MemPlace} (hv : Value.okWide Try.prog w r b0 25 v) (h : DataW.Trod enc Try.prog w 0 (fun _ => true) held 25 v d p) :
    ∃ B R gA gc gs sA sc ss, v = drV B R gA (List.length gs) gc sA (List.length ss) sc ∧ (0 ≤ B ∧ B ≤ 4294967295) ∧ (0 ≤ R ∧ R ≤ 4294967295) ∧ Us w gA gs ∧ Us w sA ss ∧ U16 gs ∧ U16 ss ∧ ((ss.length : Nat) : Int) ≤ 9223372036854775807 := by
  obtain ⟨v0, v1, v2, v3, y0, y1, y2, y3, n, rfl, _, _, t0, t1, t2, t3⟩ := Go.Joins.open_agg4 Try.underlying25 (by kernel_rfl) (by kernel_rfl) hv h
  obtain ⟨B, e1, e2, e3⟩ := DataW.trod_int Try.underlying22 t0
  obtain ⟨R, f1, f2, f3⟩ := DataW.trod_int Try.underlying22 t1
  obtain rfl : v0 = .int .u32 B := by simpa using e1
  obtain rfl : v1 = .int .u32 R := by simpa using f1
  obtain ⟨gA, gc, gs, rfl, g1, g2, _⟩ := open_us t2
  obtain ⟨sA, sc, ss, rfl, s1, s2, s3⟩ := open_us t3
  exact ⟨B, R, gA, gc, gs, sA, sc, ss, rfl, bounds_u32 e3, bounds_u32 f3, g1, s1, g2, s2, s3⟩
end
/-- The types of the laws' arguments. -/
def lawTys : List TypeId := [3, 5, 61, 22, 4, 23, 27, 30, 35, 39, 32, 25, 26]
theorem lawTys_good : ∀ t ∈ lawTys, goodTy Try.prog lawTys t = true := List.all_eq_true.1 (by kernel_rfl)

end Go.Proofs.Ytajlcagbfebbjaa
