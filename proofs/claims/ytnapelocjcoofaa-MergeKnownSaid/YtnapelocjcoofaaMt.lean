/-
  The types of the arguments of stage 8's laws; drafts, states, pieces and slices as arguments, opened.
-/
import Derived.Test.YtnapelocjcoofaaShw
import Derived.Test.YtnapelocjcoofaaNs
import Derived.Test.YtnapelocjcoofaaEo
import Derived.ShutString
import Derived.ChangeMaps5
import Derived.ProofKit
import Derived.OpenShut
import Derived.Carry
import Derived.DataBytes
import Derived.ChangeSlices
import Derived.Lib.SmallJoins
namespace Go.Proofs.Ytnapelocjcoofaa
open Go.ChangeShapes Go.WideShapes Go.ChangeAt Go.WideMaps Go.WideElems Go.RowKit Go.Deep

def lawTys8 : List TypeId := [3, 5, 22, 51, 27, 4, 9, 26, 23, 43, 45, 25, 46, 59]
theorem lawTys8_good : ∀ t ∈ lawTys8, goodTy Try.prog lawTys8 t = true := List.all_eq_true.1 (by kernel_rfl)
theorem nat_u32 {n : Int} (h : (Lit.int .u32 n).wf = true) : ∃ c : Nat, n = (c : Int) ∧ c < 4294967296 := by
  have h2 := bounds_u32 h
  exact ⟨n.toNat, by omega, by omega⟩
theorem nat_u16 {n : Int} (h : (Lit.int .u16 n).wf = true) : ∃ c : Nat, n = (c : Int) ∧ c < 65536 := by
  have h2 := bounds_u16 h
  exact ⟨n.toNat, by omega, by omega⟩
theorem nat_u8 {n : Int} (h : (Lit.int .u8 n).wf = true) : ∃ c : Nat, n = (c : Int) ∧ c < 256 := by
  have h2 := bounds_u8 h
  exact ⟨n.toNat, by omega, by omega⟩

section
variable {H : Type} {enc : TypeId × Value → H} {w : World} {held : Bool}
theorem cell_spot {a : Addr} {v : Value} (h : w.cell? a = some v) : a = ⟨a.block, a.off, none⟩ := by
  obtain ⟨b, o, s⟩ := a
  cases s with
  | none => rfl
  | some s =>
    unfold World.cell? at h
    cases hb : w.heap[b]? with
    | none => simp [hb] at h
    | some x => cases x <;> simp [hb] at h
theorem add_zero' (a : Addr) : a.add 0 = a := by unfold Addr.add; rw [if_pos rfl]
/-- A slice of octets. -/
theorem open_u8s {fuel : Nat} {v : Value} {x : DataW H × List MemPlace} (h : DataW.trod enc Try.prog w 0 (fun _ => true) held fuel 23 [v] = some x) :
    ∃ A c us, v = .slice A (List.length us) c ∧ Uz w A us ∧ ((us.length : Nat) : Int) ≤ 9223372036854775807 := by
  rcases open_ints Try.underlying23 Try.underlying5 (by kernel_rfl) h with ⟨e, _⟩ | ⟨a, len, cap, zs, e, _, hle, hm, hl, _, hc, hw⟩
  · exact ⟨none, 0, [], by simpa using e, ⟨fun k hk => absurd hk (by simp), fun k => by simp⟩, by simp⟩
  · simp only [if_true] at hl
    have hlt : ((zs.take len).map Int.toNat).length = len := by rw [List.length_map, List.length_take]; omega
    have hb : ∀ k, k < len → ∃ n : Nat, zs.getD k 0 = (n : Int) ∧ n < 256 ∧ ((zs.take len).map Int.toNat).getD k 0 = n := fun k hk => by
      have hmem : zs.getD k 0 ∈ zs := by
        rw [List.getD_eq_getElem?_getD, List.getElem?_eq_getElem (by omega)]
        exact List.getElem_mem _
      obtain ⟨n, e1, e2⟩ := nat_u8 (hw _ hmem)
      refine ⟨n, e1, e2, ?_⟩
      rw [List.getD_eq_getElem?_getD, List.getElem?_map, List.getElem?_take_of_lt hk]
      rw [List.getD_eq_getElem?_getD] at e1
      have hk2 : k < zs.length := by omega
      rw [List.getElem?_eq_getElem hk2] at e1 ⊢
      simp only [Option.getD_some, Option.map_some] at e1 ⊢
      rw [e1]; rfl
    refine ⟨some a, cap, (zs.take len).map Int.toNat, by rw [hlt]; simpa using e, ⟨fun k hk => ?_, fun k => ?_⟩, by rw [hlt]; unfold maxLen at hm; omega⟩
    · rw [hlt] at hk
      have h0 := hc 0 (by omega)
      rw [add_zero' a] at h0
      have ha := cell_spot h0
      have h1 := hc k (by omega)
      obtain ⟨b, o, sp⟩ := a
      injection ha with _ _ ha
      subst ha
      rw [addR] at h1
      obtain ⟨n, e1, e2, e3⟩ := hb k hk
      exact ⟨b, o, rfl, World.block_lt_of_cell? w _ h0, by rw [e3, ← e1]; exact h1⟩
    · by_cases hk : k < len
      · obtain ⟨n, e1, e2, e3⟩ := hb k hk
        rw [e3]; exact e2
      · rw [List.getD_eq_getElem?_getD, List.getElem?_eq_none (by rw [hlt]; omega)]
        decide
/-- A slice of integers. -/
theorem open_i64s {fuel : Nat} {v : Value} {x : DataW H × List MemPlace} (h : DataW.trod enc Try.prog w 0 (fun _ => true) held fuel 26 [v] = some x) :
    ∃ A c cs, v = .slice A (List.length cs) c ∧ Iz w A cs ∧ I64 cs ∧ ((cs.length : Nat) : Int) ≤ 9223372036854775807 ∧ List.length cs ≤ c ∧ c ≤ maxLen := by
  rcases open_ints Try.underlying26 Try.underlying3 (by kernel_rfl) h with ⟨e, _⟩ | ⟨a, len, cap, zs, e, _, hle, hm, hl, _, hc, hw⟩
  · exact ⟨none, 0, [], by simpa using e, Iz.nil, fun k hk => absurd hk (by simp), by simp, by simp, by unfold maxLen; omega⟩
  · simp only [if_true] at hl
    have hlt : (zs.take len).length = len := by rw [List.length_take]; omega
    have hg : ∀ k, k < len → cu (zs.take len) k = zs.getD k 0 := fun k hk => by unfold cu; simp [List.getD_eq_getElem?_getD, List.getElem?_take_of_lt hk]
    refine ⟨some a, cap, zs.take len, by rw [hlt]; simpa using e, fun k hk => ?_, fun k hk => ?_, by rw [hlt]; unfold maxLen at hm; omega, by rw [hlt]; omega, hm⟩
    · rw [hlt] at hk
      have h0 := hc 0 (by omega)
      rw [add_zero' a] at h0
      have ha := cell_spot h0
      have h1 := hc k (by omega)
      obtain ⟨b, o, sp⟩ := a
      injection ha with _ _ ha
      subst ha
      rw [addR] at h1
      exact ⟨b, o, rfl, World.block_lt_of_cell? w _ h0, by rw [hg k hk]; exact h1⟩
    · rw [hlt] at hk
      rw [hg k hk]
      have hmem : zs.getD k 0 ∈ zs := by
        rw [List.getD_eq_getElem?_getD, List.getElem?_eq_getElem (by omega)]
        exact List.getElem_mem _
      exact bounds_i64 (hw _ hmem)
/-- What is known of a draft. -/
def DrOk (w : World) (d : ByteArray) (L N : Nat) (A : Option Addr) (us : List Nat) : Prop := L < 65536 ∧ N < 256 ∧ d.size ≤ maxLen ∧ Uz w A us ∧ ((us.length : Nat) : Int) ≤ 9223372036854775807
set_option maxRecDepth 100000 in
theorem draft_of {fuel : Nat} {c0 c1 c2 c3 : Value} {x : DataW H × List MemPlace} (h : DataW.trod enc Try.prog w 0 (fun _ => true) held fuel 25 [c0, c1, c2, c3] = some x) :
    ∃ d L N A c us, c0 = .string d ∧ c1 = .int .u16 ((L : Nat) : Int) ∧ c2 = .int .u8 ((N : Nat) : Int) ∧ c3 = .slice A (List.length us) c ∧ DrOk w d L N A us := by
  obtain ⟨y0, y1, y2, y3, n, _, _, t0, t1, t2, t3⟩ := Go.Joins.trod_struct4 Try.underlying25 h
  replace t0 : DataW.trod enc Try.prog w 0 (fun _ => true) held n 9 [c0] = some y0 := t0
  replace t1 : DataW.trod enc Try.prog w 0 (fun _ => true) held n 22 [c1] = some y1 := t1
  replace t2 : DataW.trod enc Try.prog w 0 (fun _ => true) held n 5 [c2] = some y2 := t2
  replace t3 : DataW.trod enc Try.prog w 0 (fun _ => true) held n 23 [c3] = some y3 := t3
  obtain ⟨d, e0, _, w0⟩ := DataW.trod_string Try.underlying9 t0
  obtain rfl : c0 = .string d := by simpa using e0
  obtain ⟨z1, e1, _, w1⟩ := DataW.trod_int Try.underlying22 t1
  obtain rfl : c1 = .int .u16 z1 := by simpa using e1
  obtain ⟨L, rfl, b1⟩ := nat_u16 w1
  obtain ⟨z2, e2, _, w2⟩ := DataW.trod_int Try.underlying5 t2
  obtain rfl : c2 = .int .u8 z2 := by simpa using e2
  obtain ⟨N, rfl, b2⟩ := nat_u8 w2
  obtain ⟨A, c, us, rfl, g1, g2⟩ := open_u8s t3
  exact ⟨d, L, N, A, c, us, rfl, rfl, rfl, rfl, b1, b2, w0, g1, g2⟩
theorem four_of {cs : Array Value} (h : cs.size = 4) : ∃ a b c d, cs = #[a, b, c, d] := by
  obtain ⟨l⟩ := cs
  match l, h with
  | [a, b, c, d], _ => exact ⟨a, b, c, d, rfl⟩
theorem eight_of8 {cs : Array Value} (h : cs.size = 8) : ∃ a b c d e f g h, cs = #[a, b, c, d, e, f, g, h] := by
  obtain ⟨l⟩ := cs
  match l, h with
  | [a, b, c, d, e, f, g, h], _ => exact ⟨a, b, c, d, e, f, g, h, rfl⟩
theorem sixteen_of {cs : Array Value} (h : cs.size = 16) : ∃ a b c d e f g h i j k l m n o p, cs = #[a, b, c, d, e, f, g, h, i, j, k, l, m, n, o, p] := by
  obtain ⟨l⟩ := cs
  match l, h with
  | [a, b, c, d, e, f, g, h, i, j, k, l, m, n, o, p], _ => exact ⟨a, b, c, d, e, f, g, h, i, j, k, l, m, n, o, p, rfl⟩
set_option maxRecDepth 100000 in
theorem open_draft {r : Reach} {b0 : Nat} {v : Value} {x : DataW H} {p : List MemPlace} (hv : Value.okWide Try.prog w r b0 25 v) (h : DataW.Trod enc Try.prog w 0 (fun _ => true) held 25 v x p) :
    ∃ d L N A c us, v = drV d L N A (List.length us) c ∧ DrOk w d L N A us := by
  obtain ⟨cs, rfl, hsz⟩ := okWide_struct Try.underlying25 hv
  rw [show Try.prog.cellsOf 25 = 4 by kernel_rfl] at hsz
  obtain ⟨c0, c1, c2, c3, rfl⟩ := four_of hsz
  obtain ⟨fuel, hf⟩ := h
  obtain ⟨d, L, N, A, c, us, rfl, rfl, rfl, rfl, hk⟩ := draft_of hf
  exact ⟨d, L, N, A, c, us, rfl, hk⟩
set_option maxRecDepth 100000 in
theorem open_two {r : Reach} {b0 : Nat} {v : Value} {x : DataW H} {p : List MemPlace} (hv : Value.okWide Try.prog w r b0 46 v) (h : DataW.Trod enc Try.prog w 0 (fun _ => true) held 46 v x p) :
    ∃ d L N A c us d' L' N' A' c' us', v = .agg #[.string d, .int .u16 ((L : Nat) : Int), .int .u8 ((N : Nat) : Int), .slice A (List.length us) c, .string d', .int .u16 ((L' : Nat) : Int), .int .u8 ((N' : Nat) : Int), .slice A' (List.length us') c'] ∧ DrOk w d L N A us ∧ DrOk w d' L' N' A' us' := by
  unfold Value.okWide at hv
  rw [Try.underlying46] at hv
  obtain ⟨cs, rfl, hsz, _⟩ := hv
  rw [show Try.prog.cellsOf 46 = 8 by kernel_rfl] at hsz
  obtain ⟨c0, c1, c2, c3, c4, c5, c6, c7, rfl⟩ := eight_of8 hsz
  obtain ⟨fuel, hf⟩ := h
  obtain ⟨xs, m, _, _, _, hn, hel⟩ := DataW.trod_array Try.underlying46 hf
  have k4 : Try.prog.cellsOf 25 = 4 := by kernel_rfl
  have e0 := hel 0 (by decide)
  have e1 := hel 1 (by decide)
  rw [k4, List.getElem?_eq_getElem (by omega)] at e0 e1
  replace e0 : DataW.trod enc Try.prog w 0 (fun _ => true) held m 25 [c0, c1, c2, c3] = some xs[0] := e0
  replace e1 : DataW.trod enc Try.prog w 0 (fun _ => true) held m 25 [c4, c5, c6, c7] = some xs[1] := e1
  obtain ⟨d, L, N, A, c, us, rfl, rfl, rfl, rfl, r0⟩ := draft_of e0
  obtain ⟨d', L', N', A', c', us', rfl, rfl, rfl, rfl, r1⟩ := draft_of e1
  exact ⟨d, L, N, A, c, us, d', L', N', A', c', us', rfl, r0, r1⟩
set_option maxRecDepth 100000 in
theorem open_four {r : Reach} {b0 : Nat} {v : Value} {x : DataW H} {p : List MemPlace} (hv : Value.okWide Try.prog w r b0 59 v) (h : DataW.Trod enc Try.prog w 0 (fun _ => true) held 59 v x p) :
    ∃ (d : Nat → ByteArray) (L N : Nat → Nat) (A : Nat → Option Addr) (c : Nat → Nat) (us : Nat → List Nat), v = .agg #[.string (d 0), .int .u16 ((L 0 : Nat) : Int), .int .u8 ((N 0 : Nat) : Int), .slice (A 0) (us 0).length (c 0), .string (d 1), .int .u16 ((L 1 : Nat) : Int), .int .u8 ((N 1 : Nat) : Int), .slice (A 1) (us 1).length (c 1), .string (d 2), .int .u16 ((L 2 : Nat) : Int), .int .u8 ((N 2 : Nat) : Int), .slice (A 2) (us 2).length (c 2), .string (d 3), .int .u16 ((L 3 : Nat) : Int), .int .u8 ((N 3 : Nat) : Int), .slice (A 3) (us 3).length (c 3)] ∧ ∀ i, i < 4 → DrOk w (d i) (L i) (N i) (A i) (us i) := by
  unfold Value.okWide at hv
  rw [Try.underlying59] at hv
  obtain ⟨cs, rfl, hsz, _⟩ := hv
  rw [show Try.prog.cellsOf 59 = 16 by kernel_rfl] at hsz
  obtain ⟨c0, c1, c2, c3, c4, c5, c6, c7, c8, c9, ca, cb, cc, cd, ce, cf, rfl⟩ := sixteen_of hsz
  obtain ⟨fuel, hf⟩ := h
  obtain ⟨xs, m, _, _, _, hn, hel⟩ := DataW.trod_array Try.underlying59 hf
  have k4 : Try.prog.cellsOf 25 = 4 := by kernel_rfl
  have e0 := hel 0 (by decide)
  have e1 := hel 1 (by decide)
  have e2 := hel 2 (by decide)
  have e3 := hel 3 (by decide)
  rw [k4, List.getElem?_eq_getElem (by omega)] at e0 e1 e2 e3
  replace e0 : DataW.trod enc Try.prog w 0 (fun _ => true) held m 25 [c0, c1, c2, c3] = some xs[0] := e0
  replace e1 : DataW.trod enc Try.prog w 0 (fun _ => true) held m 25 [c4, c5, c6, c7] = some xs[1] := e1
  replace e2 : DataW.trod enc Try.prog w 0 (fun _ => true) held m 25 [c8, c9, ca, cb] = some xs[2] := e2
  replace e3 : DataW.trod enc Try.prog w 0 (fun _ => true) held m 25 [cc, cd, ce, cf] = some xs[3] := e3
  obtain ⟨d0, L0, N0, A0, x0, u0, rfl, rfl, rfl, rfl, r0⟩ := draft_of e0
  obtain ⟨d1, L1, N1, A1, x1, u1, rfl, rfl, rfl, rfl, r1⟩ := draft_of e1
  obtain ⟨d2, L2, N2, A2, x2, u2, rfl, rfl, rfl, rfl, r2⟩ := draft_of e2
  obtain ⟨d3, L3, N3, A3, x3, u3, rfl, rfl, rfl, rfl, r3⟩ := draft_of e3
  refine ⟨fun i => match i with | 0 => d0 | 1 => d1 | 2 => d2 | _ => d3, fun i => match i with | 0 => L0 | 1 => L1 | 2 => L2 | _ => L3, fun i => match i with | 0 => N0 | 1 => N1 | 2 => N2 | _ => N3, fun i => match i with | 0 => A0 | 1 => A1 | 2 => A2 | _ => A3, fun i => match i with | 0 => x0 | 1 => x1 | 2 => x2 | _ => x3, fun i => match i with | 0 => u0 | 1 => u1 | 2 => u2 | _ => u3, rfl, fun i hi => ?_⟩
  match i, hi with
  | 0, _ => exact r0
  | 1, _ => exact r1
  | 2, _ => exact r2
  | 3, _ => exact r3
set_option maxRecDepth 100000 in
theorem open_merge {r : Reach} {b0 : Nat} {v : Value} {x : DataW H} {p : List MemPlace} (hv : Value.okWide Try.prog w r b0 43 v) (h : DataW.Trod enc Try.prog w 0 (fun _ => true) held 43 v x p) :
    ∃ (o : Bool) (n q : Int) (d : ByteArray), v = .agg #[.bool o, .int .i64 n, .int .i64 q, .string d] ∧ (-9223372036854775808 ≤ n ∧ n ≤ 9223372036854775807) ∧ (-9223372036854775808 ≤ q ∧ q ≤ 9223372036854775807) ∧ d.size ≤ maxLen := by
  obtain ⟨v0, v1, v2, v3, y0, y1, y2, y3, n, rfl, _, _, t0, t1, t2, t3⟩ := Go.Joins.open_agg4 Try.underlying43 (by kernel_rfl) (by kernel_rfl) hv h
  obtain ⟨o, e0, _⟩ := DataW.trod_bool Try.underlying4 t0
  obtain rfl : v0 = .bool o := by simpa using e0
  obtain ⟨a, e1, _, w1⟩ := DataW.trod_int Try.underlying3 t1
  obtain rfl : v1 = .int .i64 a := by simpa using e1
  obtain ⟨b, e2, _, w2⟩ := DataW.trod_int Try.underlying3 t2
  obtain rfl : v2 = .int .i64 b := by simpa using e2
  obtain ⟨d, e3, _, w3⟩ := DataW.trod_string Try.underlying9 t3
  obtain rfl : v3 = .string d := by simpa using e3
  exact ⟨o, a, b, d, rfl, bounds_i64 w1, bounds_i64 w2, w3⟩
set_option maxRecDepth 100000 in
theorem open_piece {r : Reach} {b0 : Nat} {v : Value} {x : DataW H} {p : List MemPlace} (hv : Value.okWide Try.prog w r b0 45 v) (h : DataW.Trod enc Try.prog w 0 (fun _ => true) held 45 v x p) :
    ∃ (o : Bool) (n q : Int) (d : ByteArray), v = .agg #[.bool o, .int .i64 n, .int .i64 q, .string d] ∧ (-9223372036854775808 ≤ n ∧ n ≤ 9223372036854775807) ∧ (-9223372036854775808 ≤ q ∧ q ≤ 9223372036854775807) ∧ d.size ≤ maxLen := by
  obtain ⟨v0, v1, v2, v3, y0, y1, y2, y3, n, rfl, _, _, t0, t1, t2, t3⟩ := Go.Joins.open_agg4 Try.underlying45 (by kernel_rfl) (by kernel_rfl) hv h
  obtain ⟨o, e0, _⟩ := DataW.trod_bool Try.underlying4 t0
  obtain rfl : v0 = .bool o := by simpa using e0
  obtain ⟨a, e1, _, w1⟩ := DataW.trod_int Try.underlying3 t1
  obtain rfl : v1 = .int .i64 a := by simpa using e1
  obtain ⟨b, e2, _, w2⟩ := DataW.trod_int Try.underlying3 t2
  obtain rfl : v2 = .int .i64 b := by simpa using e2
  obtain ⟨d, e3, _, w3⟩ := DataW.trod_string Try.underlying9 t3
  obtain rfl : v3 = .string d := by simpa using e3
  exact ⟨o, a, b, d, rfl, bounds_i64 w1, bounds_i64 w2, w3⟩
end

end Go.Proofs.Ytnapelocjcoofaa
