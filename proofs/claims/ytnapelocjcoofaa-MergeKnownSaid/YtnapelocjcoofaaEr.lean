/-
  MergeDamage: pieces of which the last one has some of its bits changed: the mathematics along the loop.
-/
import Derived.Test.YtnapelocjcoofaaEq
import Derived.Test.YtnapelocjcoofaaVb
namespace Go.Proofs.Ytnapelocjcoofaa
open Go.RowKit Go.Proofs.Ytnapelocjcoofaa.Cr

theorem upto_get {α : Type} (f : Nat → α) (n k : Nat) (z : α) (h : k < n) : (upto f n).getD k z = f k := by
  unfold upto
  rw [List.getD_eq_getElem?_getD, List.getElem?_map, List.getElem?_range h]
  rfl
/-- A piece of a row, and the row with one piece turned. -/
theorem Pr.piece {w : World} {g : Nat} {ps : List Pc} (h : Pr w g ps) {k : Nat} (hk : k < ps.length) {p : Pc} (e : ps.getD k ⟨false, 0, 0, ⟨#[]⟩⟩ = p) :
    w.cell? ⟨g, k * 4, none⟩ = some (.bool p.start) ∧ w.cell? ⟨g, k * 4 + 1, none⟩ = some (.int .i64 p.num) ∧ w.cell? ⟨g, k * 4 + 2, none⟩ = some (.int .i64 p.cnt) ∧ w.cell? ⟨g, k * 4 + 3, none⟩ = some (.string p.data) := by
  subst e
  exact ⟨(h.2 k hk 0 (by omega)).1, (h.2 k hk 1 (by omega)).1, (h.2 k hk 2 (by omega)).1, (h.2 k hk 3 (by omega)).1⟩
theorem Pr.put {w : World} {g : Nat} {ps : List Pc} (h : Pr w g ps) {k : Nat} (hk : k < ps.length) {p : Pc} (e : ps.getD k ⟨false, 0, 0, ⟨#[]⟩⟩ = p) (d : ByteArray) :
    Pr (w.setCell ⟨g, k * 4 + 3, none⟩ (.string d)) g (ps.set k { p with data := d }) := by
  subst e
  refine ⟨by rw [World.size_setCell]; exact h.1, fun j hj i hi => ⟨?_, by rw [World.frozen?_setCell]; exact (h.2 j (by simpa using hj) i hi).2⟩⟩
  have hj' : j < ps.length := by simpa using hj
  by_cases ej : j = k
  · subst ej
    rw [show (ps.set j { ps.getD j ⟨false, 0, 0, ⟨#[]⟩⟩ with data := d }).getD j ⟨false, 0, 0, ⟨#[]⟩⟩ = { ps.getD j ⟨false, 0, 0, ⟨#[]⟩⟩ with data := d } by simp [List.getD_eq_getElem?_getD, hk]]
    by_cases ei : i = 3
    · subst ei
      rw [World.cell?_setCell_same _ _ _ (h.2 j hk 3 (by omega)).1]
      rfl
    · rw [World.cell?_setCell_other _ _ _ _ (by intro h'; injection h' with _ h'; omega), (h.2 j hk i hi).1]
      obtain rfl | rfl | rfl : i = 0 ∨ i = 1 ∨ i = 2 := by omega
      · rfl
      · rfl
      · rfl
  · rw [World.cell?_setCell_other _ _ _ _ (by intro h'; injection h' with _ h'; omega), (h.2 j hj' i hi).1]
    rw [show (ps.set k { ps.getD k ⟨false, 0, 0, ⟨#[]⟩⟩ with data := d }).getD j ⟨false, 0, 0, ⟨#[]⟩⟩ = ps.getD j ⟨false, 0, 0, ⟨#[]⟩⟩ by simp [List.getD_eq_getElem?_getD, List.getElem?_set_ne (Ne.symm ej)]]
theorem Pr.far {w : World} {g : Nat} {ps : List Pc} (h : Pr w g ps) {p : Addr} (hp : p.block ≠ g) (x : Value) : Pr (w.setCell p x) g ps :=
  ⟨by rw [World.size_setCell]; exact h.1, fun j hj i hi => ⟨by rw [World.cell?_setCell_other _ _ _ _ (by intro h'; exact hp (by rw [h']))]; exact (h.2 j hj i hi).1, by rw [World.frozen?_setCell]; exact (h.2 j hj i hi).2⟩⟩
theorem Ms.boxed4 (w : World) (d : ByteArray) (L N : Nat) (A : Option Addr) (n c : Nat) : Bk (w.alloc (.cells #[.string d, .int .u16 (L : Int), .int .u8 (N : Int), .slice A n c] 25)) w.heap.size [.string d, .int .u16 (L : Int), .int .u8 (N : Int), .slice A n c] := Bk.new w [.string d, .int .u16 (L : Int), .int .u8 (N : Int), .slice A n c] _
theorem Ms.zbox (w : World) : Bk (w.alloc (.cells #[.bool false, .int .i64 0, .int .i64 0, .string ⟨#[]⟩] 43)).drew w.heap.size [.bool false, .int .i64 0, .int .i64 0, .string ⟨#[]⟩] := Bk.new w [.bool false, .int .i64 0, .int .i64 0, .string ⟨#[]⟩] _
theorem Bk.fourV {w : World} {b : Nat} {v0 v1 v2 v3 : Value} (h : Bk w b [v0, v1, v2, v3]) (u0 u1 u2 u3 : Value) : Bk ((((w.setCell ⟨b, 0, none⟩ u0).setCell ⟨b, 1, none⟩ u1).setCell ⟨b, 2, none⟩ u2).setCell ⟨b, 3, none⟩ u3) b [u0, u1, u2, u3] :=
  (((h.set (i := 0) (by show 0 < 4; omega) u0 rfl).set (i := 1) (by show 1 < 4; omega) u1 rfl).set (i := 2) (by show 2 < 4; omega) u2 rfl).set (i := 3) (by show 3 < 4; omega) u3 rfl
/-- The state behind k pieces. -/
def mk (s : ByteArray) (num : Int) (cs : List Int) (k : Nat) : Ms := if k = 0 then zM else if k ≤ cs.length then st s num cs k else zM
section
variable {s : ByteArray} {num : Int} {cs : List Int}
theorem mk_zero : mk s num cs 0 = zM := rfl
theorem mk_ok (h64 : 64 ≤ s.size) (hm : s.size ≤ 1522) (hc : okC s.size cs = true) (hn : 0 ≤ num ∧ num ≤ 3) (k : Nat) : okM (mk s num cs k) = true := by
  unfold mk
  split
  · exact okM_zero
  · split
    · rename_i h1 h2; exact st_ok h64 hm hc hn (by omega) h2
    · exact okM_zero
theorem mk_size (hm : s.size ≤ 1522) (k : Nat) : ((mk s num cs k).data.size : Int) ≤ 1522 := by
  unfold mk
  split
  · decide
  · split
    · show ((s.extract 0 (la cs k).toNat).size : Int) ≤ 1522
      rw [ByteArray.size_extract]; omega
    · decide
theorem mk_join (h64 : 64 ≤ s.size) (hm : s.size ≤ 1522) (hg : chk s 0 = true) (hc : okC s.size cs = true) (hn : 0 ≤ num ∧ num ≤ 3) {k : Nat} (hk : k ≤ cs.length) :
    jnA (mk s num cs k) (pcI s num cs k) = ((mk s num cs (k + 1), if k < cs.length then ⟨#[]⟩ else s), 0) := by
  rw [jn_yes (mk_ok h64 hm hc hn k) (pcI_ok h64 hm hc hn hk)]
  rcases Nat.eq_zero_or_pos k with rfl | h0
  · rw [jn_first h64 hm hg hc]
    unfold mk
    split
    · rw [if_neg (by omega), if_pos (by omega)]
    · rw [if_neg (by omega), if_neg (by omega)]
  · have e : mk s num cs k = st s num cs k := by unfold mk; rw [if_neg (by omega), if_pos hk]
    rw [e, jn_next h64 hm hg hc h0 hk]
    unfold mk
    split
    · rw [if_neg (by omega), if_pos (by omega)]
    · rw [if_neg (by omega), if_neg (by omega)]
/-- The changed last piece. -/
theorem mk_bad (h64 : 64 ≤ s.size) (hm : s.size ≤ 1522) (hg : chk s 0 = true) (hc : okC s.size cs = true) (hn : 0 ≤ num ∧ num ≤ 3) {k p : Nat} (hk : k < 8 * (pcD s cs cs.length).size) (hp : p < 4294967296) :
    ∃ r : Ms × ByteArray, jnA (mk s num cs cs.length) (bad (pcI s num cs cs.length) k p) = (r, 0) ∧ (r.2 ≠ ⟨#[]⟩ → fp (pcD s cs cs.length) k p = pcD s cs cs.length) := by
  refine ⟨_, jn_yes (mk_ok h64 hm hc hn _) (bad_ok (pcI_ok h64 hm hc hn (Nat.le_refl _))), fun h => damage h64 hg hc (m := mk s num cs cs.length) (num := num) ?_ hk hp h⟩
  rcases Nat.eq_zero_or_pos cs.length with h0 | h0
  · exact .inr h0
  · refine .inl ?_
    unfold mk
    rw [if_neg (by omega), if_pos (Nat.le_refl _)]
end

end Go.Proofs.Ytnapelocjcoofaa
