/-
  Slices of integers of one's own: one entry moved; what Cut of both returns is the same.
-/
import Derived.Test.YtnapelocjcoofaaEo
namespace Go.Proofs.Ytnapelocjcoofaa
open Go.RowKit Go.Proofs.Ytnapelocjcoofaa.Cr

theorem ivs_len (cs : List Int) : (ivs cs).length = cs.length := by unfold ivs; rw [List.length_map]
theorem ivs_at {cs : List Int} {j : Nat} (h : j < cs.length) : (ivs cs).getD j undef = .int .i64 (cu cs j) := by rw [List.getD_eq_getElem?_getD, ivs_get h]; rfl
theorem ivs_set (cs : List Int) (j : Nat) (x : Int) : (ivs cs).set j (.int .i64 x) = ivs (cs.set j x) := by unfold ivs; rw [List.map_set]
theorem cu_set (cs : List Int) (j : Nat) (x : Int) {k : Nat} (hj : j < cs.length) : cu (cs.set j x) k = if k = j then x else cu cs k := by
  unfold cu
  rw [List.getD_eq_getElem?_getD, List.getD_eq_getElem?_getD, List.getElem?_set]
  by_cases e : k = j
  · subst e; rw [if_pos rfl, if_pos hj, if_pos rfl]; rfl
  · rw [if_neg (Ne.symm e), if_neg e]
theorem own_zero (w : World) (e : TypeId) (k : Nat) {b : Nat} (hb : b ≤ w.heap.size) : (w.alloc (.cells #[] e)).ownsRow b e k (.slice (some ⟨w.heap.size, 0, none⟩) 0 0) 0 [] := by
  refine ⟨by simp, .inr ⟨w.heap.size, 0, #[], rfl, hb, World.alloc_heap_new w _, Nat.le_refl _, by unfold maxLen; omega, by simp, by simp⟩⟩
theorem bk_own {w : World} {base n : Nat} {v : Value} {cs : List Int} (h0 : 0 < n) (h : w.ownsRow base 3 1 v n (ivs cs)) : n = cs.length ∧ ∃ g c, v = .slice (some ⟨g, 0, none⟩) n c ∧ base ≤ g ∧ n ≤ c ∧ c ≤ maxLen ∧ Bk w g (ivs cs) := by
  have hl : n = cs.length := by have := h.1; rw [ivs_len] at this; omega
  subst hl
  refine ⟨rfl, ?_⟩
  rcases h.2 with ⟨rfl, h1⟩ | ⟨g, cap, cur, rfl, hb, hg, h1, h2, h3, h4⟩
  · omega
  · refine ⟨g, cap, rfl, hb, h1, h2, heap_lt hg, fun j hj => ⟨?_, ?_⟩⟩
    · rw [ivs_len] at hj
      rw [ivs_at hj]
      have h5 := ivs_get hj
      rw [← h4, List.getElem?_take_of_lt (by omega)] at h5
      rw [cell_of_row w g _ cur _ (0, 0) hg]
      simpa using h5
    · unfold World.frozen?
      rw [hg]
      rfl
theorem iz_bk {w : World} {g : Nat} {cs : List Int} (h : Bk w g (ivs cs)) : Iz w (some ⟨g, 0, none⟩) cs := fun k hk => ⟨g, 0, rfl, h.1, by rw [Nat.zero_add, h.at k (by rw [ivs_len]; exact hk) (ivs_at hk)]⟩
theorem rs_iz {w : World} {A : Option Addr} {cs : List Int} (h : Iz w A cs) : Rs w A 1 (cs.map fun c => [.int .i64 c]) := fun j hj => by
  rw [List.length_map] at hj
  obtain ⟨b, off, rfl, hb, hc⟩ := h j hj
  refine ⟨b, off, rfl, hb, fun i hi => ?_⟩
  obtain rfl : i = 0 := by omega
  rw [Nat.mul_one, Nat.add_zero, hc]
  have e : (cs.map fun c => [Value.int .i64 c])[j]? = some [.int .i64 (cu cs j)] := by
    unfold cu
    rw [List.getD_eq_getElem?_getD, List.getElem?_map, List.getElem?_eq_getElem hj]
    rfl
  have e2 : (cs.map fun c => [Value.int .i64 c]).getD j [] = [.int .i64 (cu cs j)] := by rw [List.getD_eq_getElem?_getD, e]; rfl
  rw [e2]
  rfl
theorem one_flat (cs : List Int) : (cs.map fun c => [Value.int .i64 c]).flatten = ivs cs := by
  unfold ivs
  induction cs with
  | nil => rfl
  | cons c cs ih => simp only [List.map_cons, List.flatten_cons, ih]; rfl
theorem i64_set {cs : List Int} (h : I64 cs) {j : Nat} (hj : j < cs.length) {x : Int} (hx : -9223372036854775808 ≤ x ∧ x ≤ 9223372036854775807) : I64 (cs.set j x) := fun k hk => by
  rw [List.length_set] at hk
  rw [cu_set cs j x hj]
  split
  · exact hx
  · exact h k hk
theorem iz_one (W : World) (x : Int) (t : TypeId) : Iz (W.alloc (.cells #[.int .i64 x] t)) (some ⟨W.heap.size, 0, none⟩) [x] := fun k hk => by
  obtain rfl : k = 0 := by simpa using hk
  exact ⟨W.heap.size, 0, rfl, by simp, by simp [go_sem, cu]⟩
/-- What is known of a list of offsets at a world. -/
def Ls (w : World) (A : Option Addr) (cs : List Int) : Prop := Iz w A cs ∧ I64 cs ∧ cs.length ≤ 30
theorem Ls.go {w w' : World} {A : Option Addr} {cs : List Int} (h : Ls w A cs) (g : Bl w w') : Ls w' A cs := ⟨h.1.go g, h.2⟩
theorem three_strings {a b c : ByteArray} {n : Nat} (ha : a.size ≤ n) (hb : b.size ≤ n) (hc : c.size ≤ n) (k : Nat) (hk : k < 3) :
    ∃ z : ByteArray, z.size ≤ n ∧ ∀ w, (Instr.index 32 (.agg #[.string a, .string b, .string c]) (.int .i64 k)).run Try.prog w = .ok (.string z) w := by
  match k, hk with
  | 0, _ => exact ⟨a, ha, fun _ => by kernel_rfl⟩
  | 1, _ => exact ⟨b, hb, fun _ => by kernel_rfl⟩
  | 2, _ => exact ⟨c, hc, fun _ => by kernel_rfl⟩
theorem five_lists {W : World} {A1 A2 A3 A4 A5 : Option Addr} {l1 l2 l3 l4 l5 : List Int} {c1 c2 c3 c4 c5 n1 n2 n3 n4 n5 : Nat} (h1 : Ls W A1 l1) (h2 : Ls W A2 l2) (h3 : Ls W A3 l3) (h4 : Ls W A4 l4) (h5 : Ls W A5 l5) (e1 : l1.length = n1) (e2 : l2.length = n2) (e3 : l3.length = n3) (e4 : l4.length = n4) (e5 : l5.length = n5) (k : Nat) (hk : k < 5) :
    ∃ A l c, Ls W A l ∧ ∀ w, (Instr.index 33 (.agg #[.slice A1 n1 c1, .slice A2 n2 c2, .slice A3 n3 c3, .slice A4 n4 c4, .slice A5 n5 c5]) (.int .i64 k)).run Try.prog w = .ok (.slice A l.length c) w := by
  subst e1; subst e2; subst e3; subst e4; subst e5
  match k, hk with
  | 0, _ => exact ⟨A1, l1, c1, h1, fun _ => by kernel_rfl⟩
  | 1, _ => exact ⟨A2, l2, c2, h2, fun _ => by kernel_rfl⟩
  | 2, _ => exact ⟨A3, l3, c3, h3, fun _ => by kernel_rfl⟩
  | 3, _ => exact ⟨A4, l4, c4, h4, fun _ => by kernel_rfl⟩
  | 4, _ => exact ⟨A5, l5, c5, h5, fun _ => by kernel_rfl⟩
theorem two_ints {a b : Int} (ha : -9223372036854775808 ≤ a ∧ a ≤ 9223372036854775807) (hb : -9223372036854775808 ≤ b ∧ b ≤ 9223372036854775807) (k : Nat) (hk : k < 2) :
    ∃ z : Int, (-9223372036854775808 ≤ z ∧ z ≤ 9223372036854775807) ∧ ∀ w, (Instr.index 34 (.agg #[.int .i64 a, .int .i64 b]) (.int .i64 k)).run Try.prog w = .ok (.int .i64 z) w := by
  match k, hk with
  | 0, _ => exact ⟨a, ha, fun _ => by kernel_rfl⟩
  | 1, _ => exact ⟨b, hb, fun _ => by kernel_rfl⟩

end Go.Proofs.Ytnapelocjcoofaa
