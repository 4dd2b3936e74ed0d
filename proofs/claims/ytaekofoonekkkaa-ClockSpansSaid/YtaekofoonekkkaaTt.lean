/-
  The types of the arguments of stage 9's laws; a clock, a draft, two drafts as arguments, opened.
-/
import Derived.Test.YtaekofoonekkkaaSh
import Derived.Test.YtaekofoonekkkaaNs
import Derived.ChangeMaps5
import Derived.ProofKit
import Derived.OpenShut
import Derived.Carry
import Derived.DataBytes
import Derived.ChangeSlices
import Derived.Lib.SmallJoins
namespace Go.Proofs.Ytaekofoonekkkaa
open Go.ChangeShapes Go.WideShapes Go.ChangeAt Go.WideMaps Go.WideElems Go.RowKit Go.Deep

def lawTys9 : List TypeId := [3, 2, 21, 23, 25, 35, 44]
theorem lawTys9_good : ∀ t ∈ lawTys9, goodTy Try.prog lawTys9 t = true := List.all_eq_true.1 (by kernel_rfl)

section
variable {H : Type} {enc : TypeId × Value → H} {w : World} {held : Bool}
theorem trodAll_five {P : Program} {base : Nat} {spare : Nat → Bool} {held : Bool} {t0 t1 t2 t3 t4 : TypeId} {args : Array Value} {ds : List (DataW H)} {ps : List MemPlace} (h : DataW.TrodAll enc P w base spare held [t0, t1, t2, t3, t4] args.toList ds ps) :
    ∃ v0 v1 v2 v3 v4 d0 d1 d2 d3 d4 p0 p1 p2 p3 p4, args = #[v0, v1, v2, v3, v4] ∧ ds = [d0, d1, d2, d3, d4] ∧ ps = p0 ++ (p1 ++ (p2 ++ (p3 ++ p4))) ∧ DataW.Trod enc P w base spare held t0 v0 d0 p0 ∧ DataW.Trod enc P w base spare held t1 v1 d1 p1 ∧ DataW.Trod enc P w base spare held t2 v2 d2 p2 ∧ DataW.Trod enc P w base spare held t3 v3 d3 p3 ∧ DataW.Trod enc P w base spare held t4 v4 d4 p4 := by
  obtain ⟨v0, vs, d0, ds0, p0, q0, hargs, rfl, rfl, h0, r0⟩ := trodAll_cons h
  obtain ⟨v1, vs1, d1, ds1, p1, q1, rfl, rfl, rfl, h1, r1⟩ := trodAll_cons r0
  obtain ⟨v2, vs2, d2, ds2, p2, q2, rfl, rfl, rfl, h2, r2⟩ := trodAll_cons r1
  obtain ⟨v3, vs3, d3, ds3, p3, q3, rfl, rfl, rfl, h3, r3⟩ := trodAll_cons r2
  obtain ⟨v4, vs4, d4, ds4, p4, q4, rfl, rfl, rfl, h4, r4⟩ := trodAll_cons r3
  obtain ⟨rfl, rfl, rfl⟩ := trodAll_nil r4
  exact ⟨v0, v1, v2, v3, v4, d0, d1, d2, d3, d4, p0, p1, p2, p3, p4, by cases args; simp_all, rfl, by simp, h0, h1, h2, h3, h4⟩

theorem two_of {cs : Array Value} (h : cs.size = 2) : ∃ a b, cs = #[a, b] := by
  obtain ⟨l⟩ := cs
  match l, h with
  | [a, b], _ => exact ⟨a, b, rfl⟩
theorem four_of {cs : Array Value} (h : cs.size = 4) : ∃ a b c d, cs = #[a, b, c, d] := by
  obtain ⟨l⟩ := cs
  match l, h with
  | [a, b, c, d], _ => exact ⟨a, b, c, d, rfl⟩
set_option maxRecDepth 100000 in
theorem open_clock {r : Reach} {b0 : Nat} {v : Value} {d : DataW H} {p : List MemPlace} (hv : Value.okWide Try.prog w r b0 23 v) (h : DataW.Trod enc Try.prog w 0 (fun _ => true) held 23 v d p) :
    ∃ x y : Int, v = .agg #[.int .i64 x, .int .i64 y] := by
  obtain ⟨v0, v1, y0, y1, n, rfl, rfl, rfl, t0, t1⟩ := Go.Joins.open_agg2 Try.underlying23 (by kernel_rfl) (by kernel_rfl) hv h
  obtain ⟨x, e1, e2, e3⟩ := DataW.trod_int Try.underlying3 t0
  obtain ⟨y, f1, f2, f3⟩ := DataW.trod_int Try.underlying3 t1
  obtain rfl : v0 = .int .i64 x := by simpa using e1
  obtain rfl : v1 = .int .i64 y := by simpa using f1
  exact ⟨x, y, rfl⟩
set_option maxRecDepth 100000 in
theorem draft_of {fuel : Nat} {c0 c1 : Value} {x : DataW H × List MemPlace} (h : DataW.trod enc Try.prog w 0 (fun _ => true) held fuel 25 [c0, c1] = some x) :
    ∃ O P : Int, c0 = .int .i64 O ∧ c1 = .int .i32 P := by
  obtain ⟨y0, y1, n, _, _, t0, t1⟩ := trod_struct2 Try.underlying25 h
  replace t0 : DataW.trod enc Try.prog w 0 (fun _ => true) held n 2 [c0] = some y0 := t0
  replace t1 : DataW.trod enc Try.prog w 0 (fun _ => true) held n 21 [c1] = some y1 := t1
  obtain ⟨x, e1, e2, e3⟩ := DataW.trod_int Try.underlying2 t0
  obtain ⟨y, f1, f2, f3⟩ := DataW.trod_int Try.underlying21 t1
  exact ⟨x, y, by simpa using e1, by simpa using f1⟩
set_option maxRecDepth 100000 in
theorem open_draft {r : Reach} {b0 : Nat} {v : Value} {x : DataW H} {p : List MemPlace} (hv : Value.okWide Try.prog w r b0 25 v) (h : DataW.Trod enc Try.prog w 0 (fun _ => true) held 25 v x p) :
    ∃ O P : Int, v = .agg #[.int .i64 O, .int .i32 P] := by
  obtain ⟨cs, rfl, hsz⟩ := okWide_struct Try.underlying25 hv
  rw [show Try.prog.cellsOf 25 = 2 by kernel_rfl] at hsz
  obtain ⟨c0, c1, rfl⟩ := two_of hsz
  obtain ⟨fuel, hf⟩ := h
  obtain ⟨O, P, rfl, rfl⟩ := draft_of hf
  exact ⟨O, P, rfl⟩
set_option maxRecDepth 100000 in
theorem open_two {r : Reach} {b0 : Nat} {v : Value} {x : DataW H} {p : List MemPlace} (hv : Value.okWide Try.prog w r b0 35 v) (h : DataW.Trod enc Try.prog w 0 (fun _ => true) held 35 v x p) :
    ∃ O P O' P' : Int, v = .agg #[.int .i64 O, .int .i32 P, .int .i64 O', .int .i32 P'] := by
  unfold Value.okWide at hv
  rw [Try.underlying35] at hv
  obtain ⟨cs, rfl, hsz, _⟩ := hv
  rw [show Try.prog.cellsOf 35 = 4 by kernel_rfl] at hsz
  obtain ⟨c0, c1, c2, c3, rfl⟩ := four_of hsz
  obtain ⟨fuel, hf⟩ := h
  obtain ⟨xs, m, _, _, _, hn, hel⟩ := DataW.trod_array Try.underlying35 hf
  have k2 : Try.prog.cellsOf 25 = 2 := by kernel_rfl
  have e0 := hel 0 (by decide)
  have e1 := hel 1 (by decide)
  rw [k2, List.getElem?_eq_getElem (by omega)] at e0 e1
  replace e0 : DataW.trod enc Try.prog w 0 (fun _ => true) held m 25 [c0, c1] = some xs[0] := e0
  replace e1 : DataW.trod enc Try.prog w 0 (fun _ => true) held m 25 [c2, c3] = some xs[1] := e1
  obtain ⟨O, P, rfl, rfl⟩ := draft_of e0
  obtain ⟨O', P', rfl, rfl⟩ := draft_of e1
  exact ⟨O, P, O', P', rfl⟩
theorem open_twoI {r : Reach} {b0 : Nat} {v : Value} {d : DataW H} {p : List MemPlace} (hv : Value.okWide Try.prog w r b0 44 v) (h : DataW.Trod enc Try.prog w 0 (fun _ => true) held 44 v d p) :
    ∃ x y : Int, v = .agg #[.int .i64 x, .int .i64 y] := by
  obtain ⟨zs, hz, rfl, _, _, _⟩ := open_arr Try.underlying44 Try.underlying3 (by kernel_rfl) (by kernel_rfl) hv h
  obtain ⟨za, zb, rfl⟩ := list2 hz
  exact ⟨za, zb, rfl⟩
end

end Go.Proofs.Ytaekofoonekkkaa
