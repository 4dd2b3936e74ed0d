/-
  MergeMixed: pieces of four frames with different numbers, in any order, yield no frame but these.
-/
import Derived.Test.YtnapelocjcoofaaEr
import Derived.Deep.CutBlock
namespace Go.Proofs.Ytnapelocjcoofaa
open Go.RowKit Go.Proofs.Ytnapelocjcoofaa.Cr

/-- Four drafts in a block. -/
def Dx (w : World) (b : Nat) (d : Nat → ByteArray) (L N : Nat → Nat) (A : Nat → Option Addr) (us : Nat → List Nat) (c : Nat → Nat) : Prop :=
  b < w.heap.size ∧ ∀ i, i < 4 → (w.cell? ⟨b, i * 4, none⟩ = some (.string (d i)) ∧ w.cell? ⟨b, i * 4 + 1, none⟩ = some (.int .u16 ((L i : Nat) : Int)) ∧ w.cell? ⟨b, i * 4 + 2, none⟩ = some (.int .u8 ((N i : Nat) : Int)) ∧ w.cell? ⟨b, i * 4 + 3, none⟩ = some (.slice (A i) (us i).length (c i))) ∧ w.frozen? ⟨b, i * 4 + 2, none⟩ = false
section
variable {w w' : World} {b : Nat} {d : Nat → ByteArray} {L N : Nat → Nat} {A : Nat → Option Addr} {us : Nat → List Nat} {c : Nat → Nat}
theorem Dx.go (h : Dx w b d L N A us c) (g : Bl w w') : Dx w' b d L N A us c :=
  ⟨Nat.lt_of_lt_of_le h.1 g.size, fun i hi => by
    obtain ⟨⟨h1, h2, h3, h4⟩, h5⟩ := h.2 i hi
    exact ⟨⟨(g.cell (p := ⟨b, _, none⟩) h.1).trans h1, (g.cell (p := ⟨b, _, none⟩) h.1).trans h2, (g.cell (p := ⟨b, _, none⟩) h.1).trans h3, (g.cell (p := ⟨b, _, none⟩) h.1).trans h4⟩, (g.frozen (p := ⟨b, _, none⟩) h.1).trans h5⟩⟩
theorem Dx.grown {row : Option Nat} (h : Dx w b d L N A us c) (g : w.grownBy w' row) (hr : row ≠ some b) : Dx w' b d L N A us c := by
  have hb : w'.heap[b]? = w.heap[b]? := g.block b h.1 (fun e => hr e.symm)
  have hc : ∀ j, w'.cell? ⟨b, j, none⟩ = w.cell? ⟨b, j, none⟩ := fun j => by unfold World.cell?; rw [hb]
  have hf : ∀ j, w'.frozen? ⟨b, j, none⟩ = w.frozen? ⟨b, j, none⟩ := fun j => by unfold World.frozen?; rw [hb]
  refine ⟨Nat.lt_of_lt_of_le h.1 g.size, fun i hi => ?_⟩
  rw [hc, hc, hc, hc, hf]
  exact h.2 i hi
theorem Dx.far (h : Dx w b d L N A us c) {p : Addr} (hp : p.block ≠ b) (x : Value) : Dx (w.setCell p x) b d L N A us c :=
  ⟨by rw [World.size_setCell]; exact h.1, fun i hi => by
    obtain ⟨⟨h1, h2, h3, h4⟩, h5⟩ := h.2 i hi
    have ne : ∀ j, (⟨b, j, none⟩ : Addr) ≠ p := fun j e => hp (by rw [← e])
    exact ⟨⟨by rw [World.cell?_setCell_other _ _ _ _ (ne _).symm]; exact h1, by rw [World.cell?_setCell_other _ _ _ _ (ne _).symm]; exact h2, by rw [World.cell?_setCell_other _ _ _ _ (ne _).symm]; exact h3, by rw [World.cell?_setCell_other _ _ _ _ (ne _).symm]; exact h4⟩, by rw [World.frozen?_setCell]; exact h5⟩⟩
theorem Dx.put (h : Dx w b d L N A us c) {k : Nat} (hk : k < 4) (x : Nat) : Dx (w.setCell ⟨b, k * 4 + 2, none⟩ (.int .u8 (x : Int))) b d L (fun i => if i = k then x else N i) A us c :=
  ⟨by rw [World.size_setCell]; exact h.1, fun i hi => by
    obtain ⟨⟨h1, h2, h3, h4⟩, h5⟩ := h.2 i hi
    have ne : ∀ j, j ≠ k * 4 + 2 → (⟨b, j, none⟩ : Addr) ≠ ⟨b, k * 4 + 2, none⟩ := fun j e e2 => e (by injection e2)
    refine ⟨⟨by rw [World.cell?_setCell_other _ _ _ _ (ne _ (by omega)).symm]; exact h1, by rw [World.cell?_setCell_other _ _ _ _ (ne _ (by omega)).symm]; exact h2, ?_, by rw [World.cell?_setCell_other _ _ _ _ (ne _ (by omega)).symm]; exact h4⟩, by rw [World.frozen?_setCell]; exact h5⟩
    by_cases e : i = k
    · subst e
      rw [World.cell?_setCell_same _ _ _ h3]
      simp
    · rw [World.cell?_setCell_other _ _ _ _ (ne _ (by omega)).symm]; show w.cell? _ = some (.int .u8 ((if i = k then x else N i : Nat) : Int)); rw [if_neg e]; exact h3⟩
theorem Dx.new (w : World) (t : TypeId) (d : Nat → ByteArray) (L N : Nat → Nat) (A : Nat → Option Addr) (us : Nat → List Nat) (c : Nat → Nat) : Dx (w.alloc (.cells #[.string (d 0), .int .u16 ((L 0 : Nat) : Int), .int .u8 ((N 0 : Nat) : Int), .slice (A 0) (us 0).length (c 0), .string (d 1), .int .u16 ((L 1 : Nat) : Int), .int .u8 ((N 1 : Nat) : Int), .slice (A 1) (us 1).length (c 1), .string (d 2), .int .u16 ((L 2 : Nat) : Int), .int .u8 ((N 2 : Nat) : Int), .slice (A 2) (us 2).length (c 2), .string (d 3), .int .u16 ((L 3 : Nat) : Int), .int .u8 ((N 3 : Nat) : Int), .slice (A 3) (us 3).length (c 3)] t)) w.heap.size d L N A us c := by
  refine ⟨by rw [World.size_alloc]; omega, fun i hi => ?_⟩
  have hg := heap_alloc_new w (.cells #[.string (d 0), .int .u16 ((L 0 : Nat) : Int), .int .u8 ((N 0 : Nat) : Int), .slice (A 0) (us 0).length (c 0), .string (d 1), .int .u16 ((L 1 : Nat) : Int), .int .u8 ((N 1 : Nat) : Int), .slice (A 1) (us 1).length (c 1), .string (d 2), .int .u16 ((L 2 : Nat) : Int), .int .u8 ((N 2 : Nat) : Int), .slice (A 2) (us 2).length (c 2), .string (d 3), .int .u16 ((L 3 : Nat) : Int), .int .u8 ((N 3 : Nat) : Int), .slice (A 3) (us 3).length (c 3)] t)
  refine ⟨?_, frozen_of_row _ _ _ _ _ hg⟩
  match i, hi with
  | 0, _ => exact ⟨by rw [cell_of_row _ _ _ _ _ _ hg]; rfl, by rw [cell_of_row _ _ _ _ _ _ hg]; rfl, by rw [cell_of_row _ _ _ _ _ _ hg]; rfl, by rw [cell_of_row _ _ _ _ _ _ hg]; rfl⟩
  | 1, _ => exact ⟨by rw [cell_of_row _ _ _ _ _ _ hg]; rfl, by rw [cell_of_row _ _ _ _ _ _ hg]; rfl, by rw [cell_of_row _ _ _ _ _ _ hg]; rfl, by rw [cell_of_row _ _ _ _ _ _ hg]; rfl⟩
  | 2, _ => exact ⟨by rw [cell_of_row _ _ _ _ _ _ hg]; rfl, by rw [cell_of_row _ _ _ _ _ _ hg]; rfl, by rw [cell_of_row _ _ _ _ _ _ hg]; rfl, by rw [cell_of_row _ _ _ _ _ _ hg]; rfl⟩
  | 3, _ => exact ⟨by rw [cell_of_row _ _ _ _ _ _ hg]; rfl, by rw [cell_of_row _ _ _ _ _ _ hg]; rfl, by rw [cell_of_row _ _ _ _ _ _ hg]; rfl, by rw [cell_of_row _ _ _ _ _ _ hg]; rfl⟩
end
/-- The pieces of the first k frames. -/
def pcsQ (Fq : Nat → ByteArray) (cq : Nat → List Int) (q : Nat) : List Pc := upto (pcI (Fq q) (q : Int) (cq q)) ((cq q).length + 1)
def allQ (Fq : Nat → ByteArray) (cq : Nat → List Int) : Nat → List Pc
  | 0 => []
  | k + 1 => allQ Fq cq k ++ pcsQ Fq cq k
theorem upto_mem {α : Type} {f : Nat → α} {n : Nat} {x : α} (h : x ∈ upto f n) : ∃ i, i < n ∧ x = f i := by
  unfold upto at h
  obtain ⟨i, h1, h2⟩ := List.mem_map.1 h
  exact ⟨i, List.mem_range.1 h1, h2.symm⟩
theorem allQ_mem {Fq : Nat → ByteArray} {cq : Nat → List Int} : ∀ {k : Nat} {p : Pc}, p ∈ allQ Fq cq k → ∃ q i, q < k ∧ i ≤ (cq q).length ∧ p = pcI (Fq q) (q : Int) (cq q) i
  | 0, _, h => absurd h (by simp [allQ])
  | k + 1, p, h => by
    rcases List.mem_append.1 h with h | h
    · obtain ⟨q, i, h1, h2, h3⟩ := allQ_mem h
      exact ⟨q, i, by omega, h2, h3⟩
    · obtain ⟨i, h1, h2⟩ := upto_mem h
      exact ⟨k, i, by omega, by omega, h2⟩
theorem allQ_len {Fq : Nat → ByteArray} {cq : Nat → List Int} (h : ∀ q, q < 4 → (cq q).length ≤ 4) : ∀ k, k ≤ 4 → (allQ Fq cq k).length ≤ 5 * k
  | 0, _ => Nat.le_refl 0
  | k + 1, hk => by
    have h1 := allQ_len (Fq := Fq) h k (by omega)
    have h2 := h k (by omega)
    show (allQ Fq cq k ++ pcsQ Fq cq k).length ≤ _
    unfold pcsQ
    rw [List.length_append, upto_length]
    omega
theorem flP_app (a b : List Pc) : flP (a ++ b) = flP a ++ flP b := by unfold flP; simp
theorem own_far {w : World} {base n : Nat} {e : TypeId} {k : Nat} {v : Value} {xs : List Value} (h : w.ownsRow base e k v n xs) {p : Addr} (hp : p.block < base) (x : Value) : (w.setCell p x).ownsRow base e k v n xs := by
  refine ⟨h.1, ?_⟩
  rcases h.2 with h0 | ⟨g, cap, cur, h1, h2, h3, h4⟩
  · exact .inl h0
  · exact .inr ⟨g, cap, cur, h1, h2, (Below.heap_setCell w p x g (by omega)).trans h3, h4⟩
theorem rows_of {w : World} {base n : Nat} {v : Value} {ps : List Pc} (h : w.ownsRow base 45 4 v n (flP ps)) : n = ps.length ∧ ∃ A c, v = .slice A n c ∧ n ≤ c ∧ c ≤ maxLen ∧ Rs w A 4 (ps.map Pc.l) := by
  obtain ⟨h1, A, c, h2, h3, h4, h5, _⟩ := Rs.of_own (rs := ps.map Pc.l) (by omega) (by intro r hr; obtain ⟨p, _, rfl⟩ := List.mem_map.1 hr; rfl) h
  rw [List.length_map] at h1
  exact ⟨h1, A, c, h2, h3, h4, h5⟩
theorem l_four {ps : List Pc} : ∀ r ∈ ps.map Pc.l, r.length = 4 := by intro r hr; obtain ⟨p, _, rfl⟩ := List.mem_map.1 hr; rfl
theorem l_ones {ps : List Pc} : ∀ r ∈ ps.map Pc.l, ∀ u ∈ r, u.oneCell' = true := by intro r hr; obtain ⟨p, _, rfl⟩ := List.mem_map.1 hr; exact l_one p
theorem flP_rows (a : List Pc) : flP a = (a.map Pc.l).flatten := rfl

end Go.Proofs.Ytnapelocjcoofaa
