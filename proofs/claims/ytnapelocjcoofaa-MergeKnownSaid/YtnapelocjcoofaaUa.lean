/-
  Of no program: a struct of any number of cells in a block; slices of such structs as lists; append of one slice onto a row of the call's own.
-/
import Derived.Test.YtnapelocjcoofaaKj
import Derived.Laws.OwnMore
import Derived.Deep.RegionHeld3
namespace Go.Proofs.Ytnapelocjcoofaa
open Go.RowKit

/-- In block c lie the cells vs. -/
def Bk (w : World) (c : Nat) (vs : List Value) : Prop := c < w.heap.size ∧ ∀ i, i < vs.length → w.cell? ⟨c, i, none⟩ = some (vs.getD i undef) ∧ w.frozen? ⟨c, i, none⟩ = false
theorem Bk.new (w : World) (vs : List Value) (t : TypeId) : Bk (w.alloc (.cells vs.toArray t)) w.heap.size vs := by
  refine ⟨by rw [World.size_alloc]; omega, fun i hi => ?_⟩
  have hg := heap_alloc_new w (.cells vs.toArray t)
  refine ⟨?_, frozen_of_row _ _ _ _ _ hg⟩
  rw [cell_of_row _ _ _ _ _ _ hg]
  simp [hi]
theorem Bk.set {w : World} {c : Nat} {vs us : List Value} (h : Bk w c vs) {i : Nat} (hi : i < vs.length) (x : Value) (e : vs.set i x = us) : Bk (w.setCell ⟨c, i, none⟩ x) c us := by
  subst e
  refine ⟨by rw [World.size_setCell]; exact h.1, fun j hj => ⟨?_, by rw [World.frozen?_setCell]; exact (h.2 j (by simpa using hj)).2⟩⟩
  have hj' : j < vs.length := by simpa using hj
  by_cases e : j = i
  · subst e
    rw [World.cell?_setCell_same _ _ _ (h.2 j hi).1]
    simp [hi]
  · rw [World.cell?_setCell_other _ _ _ _ (by intro h'; injection h' with _ h'; omega)]
    rw [(h.2 j hj').1]
    simp [List.getD_eq_getElem?_getD, List.getElem?_set_ne (Ne.symm e)]
theorem Bk.far {w : World} {c : Nat} {vs : List Value} (h : Bk w c vs) {p : Addr} (hp : p.block ≠ c) (x : Value) : Bk (w.setCell p x) c vs :=
  ⟨by rw [World.size_setCell]; exact h.1, fun j hj => ⟨by rw [World.cell?_setCell_other _ _ _ _ (by intro h'; exact hp (by rw [h']))]; exact (h.2 j hj).1, by rw [World.frozen?_setCell]; exact (h.2 j hj).2⟩⟩
theorem Bk.bl {w w' : World} {c : Nat} {vs : List Value} (h : Bk w c vs) (g : Bl w w') : Bk w' c vs :=
  ⟨Nat.lt_of_lt_of_le h.1 g.size, fun i hi => ⟨(g.cell (p := ⟨c, i, none⟩) h.1).trans (h.2 i hi).1, (g.frozen (p := ⟨c, i, none⟩) h.1).trans (h.2 i hi).2⟩⟩
theorem Bk.alloc {w : World} {c : Nat} {vs : List Value} (h : Bk w c vs) (o : Obj) : Bk (w.alloc o) c vs := h.bl ((Bl.refl w).alloc o)
theorem Bk.drew {w : World} {c : Nat} {vs : List Value} (h : Bk w c vs) : Bk w.drew c vs := h
theorem Bk.at {w : World} {c : Nat} {vs : List Value} (h : Bk w c vs) (i : Nat) (hi : i < vs.length) {v : Value} (e : vs.getD i undef = v) : w.cell? ⟨c, i, none⟩ = some v := by rw [(h.2 i hi).1, e]
theorem Bk.fr {w : World} {c : Nat} {vs : List Value} (h : Bk w c vs) (i : Nat) (hi : i < vs.length) : w.frozen? ⟨c, i, none⟩ = false := (h.2 i hi).2

/-- A slice of structs of k cells as it lies in memory: no address is needed where it is empty. -/
def Rs (w : World) (A : Option Addr) (k : Nat) (rs : List (List Value)) : Prop :=
  ∀ j, j < rs.length → ∃ b off, A = some ⟨b, off, none⟩ ∧ b < w.heap.size ∧ ∀ i, i < k → w.cell? ⟨b, off + j * k + i, none⟩ = some ((rs.getD j []).getD i undef)
theorem Rs.bl {w w' : World} {A : Option Addr} {k : Nat} {rs : List (List Value)} (h : Rs w A k rs) (g : Bl w w') : Rs w' A k rs := fun j hj => by
  obtain ⟨b, off, h1, h2, h3⟩ := h j hj
  exact ⟨b, off, h1, Nat.lt_of_lt_of_le h2 g.size, fun i hi => (g.cell (p := ⟨b, _, none⟩) h2).trans (h3 i hi)⟩
theorem Rs.nil {w : World} {A : Option Addr} {k : Nat} : Rs w A k [] := fun k hk => absurd hk (by simp)
theorem Rs.drew {w : World} {A : Option Addr} {k : Nat} {rs : List (List Value)} (h : Rs w A k rs) : Rs w.drew A k rs := h
theorem Rs.take {w : World} {A : Option Addr} {k : Nat} {rs : List (List Value)} (h : Rs w A k rs) (n : Nat) : Rs w A k (rs.take n) := fun j hj => by
  rw [List.length_take] at hj
  obtain ⟨b, off, h1, h2, h3⟩ := h j (by omega)
  refine ⟨b, off, h1, h2, fun i hi => ?_⟩
  rw [h3 i hi]
  simp [List.getD_eq_getElem?_getD, List.getElem?_take_of_lt (show j < n by omega)]
theorem Rs.drop {w : World} {b off k : Nat} {rs : List (List Value)} (h : Rs w (some ⟨b, off, none⟩) k rs) (n : Nat) : Rs w (some ⟨b, off + n * k, none⟩) k (rs.drop n) := fun j hj => by
  rw [List.length_drop] at hj
  obtain ⟨b', off', h1, h2, h3⟩ := h (n + j) (by omega)
  obtain ⟨rfl, rfl⟩ : b = b' ∧ off = off' := by simpa using h1
  refine ⟨b, off + n * k, rfl, h2, fun i hi => ?_⟩
  have e : off + n * k + j * k + i = off + (n + j) * k + i := by rw [Nat.add_mul]; omega
  rw [e, h3 i hi]
  simp [List.getD_eq_getElem?_getD]
/-- A literal of one struct. -/
theorem Rs.one (w : World) (r : List Value) (t : TypeId) : Rs (w.alloc (.cells r.toArray t)) (some ⟨w.heap.size, 0, none⟩) r.length [r] := fun j hj => by
  obtain rfl : j = 0 := by simpa using hj
  refine ⟨w.heap.size, 0, rfl, by rw [World.size_alloc]; omega, fun i hi => ?_⟩
  rw [Nat.zero_mul, Nat.zero_add]
  exact ((Bk.new w r t).2 i hi).1

theorem flatR_len {k : Nat} : ∀ {rs : List (List Value)}, (∀ r ∈ rs, r.length = k) → rs.flatten.length = rs.length * k
  | [], _ => by simp
  | r :: rs, h => by
    rw [List.flatten_cons, List.length_append, flatR_len (fun r hr => h r (List.mem_cons_of_mem _ hr)), h r (List.mem_cons_self ..), List.length_cons, Nat.add_mul]
    omega
theorem flatR_get {k : Nat} : ∀ {rs : List (List Value)}, (∀ r ∈ rs, r.length = k) → ∀ j i, j < rs.length → i < k → rs.flatten[j * k + i]? = some ((rs.getD j []).getD i undef)
  | [], _, j, i, hj, _ => by simp at hj
  | r :: rs, h, 0, i, _, hi => by
    have hr := h r (List.mem_cons_self ..)
    rw [List.flatten_cons, Nat.zero_mul, Nat.zero_add, List.getElem?_append_left (by omega)]
    simp [hr, hi]
  | r :: rs, h, j + 1, i, hj, hi => by
    have hr := h r (List.mem_cons_self ..)
    rw [List.flatten_cons, List.getElem?_append_right (by rw [hr, Nat.add_mul]; omega), hr, show (j + 1) * k + i - k = j * k + i by rw [Nat.add_mul]; omega]
    rw [flatR_get (fun r hr => h r (List.mem_cons_of_mem _ hr)) j i (by simpa using hj) hi]
    simp
theorem Rs.of_own {w : World} {base k : Nat} {e : TypeId} {v : Value} {n : Nat} {rs : List (List Value)} (hk : 0 < k) (hr : ∀ r ∈ rs, r.length = k) (h : w.ownsRow base e k v n rs.flatten) :
    n = rs.length ∧ ∃ A c, v = .slice A n c ∧ n ≤ c ∧ c ≤ maxLen ∧ Rs w A k rs ∧ ∀ b off, A = some ⟨b, off, none⟩ → base ≤ b := by
  have hl : n = rs.length := by
    have := h.1
    rw [flatR_len hr] at this
    exact (Nat.eq_of_mul_eq_mul_right hk this).symm
  refine ⟨hl, ?_⟩
  rcases h.2 with ⟨rfl, h0⟩ | ⟨g, cap, cur, rfl, hb, hg, h1, h2, h3, h4⟩
  · subst h0
    have : rs = [] := List.eq_nil_of_length_eq_zero hl.symm
    subst this
    exact ⟨none, 0, rfl, Nat.le_refl _, by unfold maxLen; omega, Rs.nil, fun b off h => by cases h⟩
  · refine ⟨_, cap, rfl, h1, h2, fun j hj => ⟨g, 0, rfl, ?_, fun i hi => ?_⟩, fun b off h => by cases h; exact hb⟩
    · rcases Nat.lt_or_ge g w.heap.size with hlt | hge
      · exact hlt
      · rw [Array.getElem?_eq_none hge] at hg; cases hg
    · have h5 := flatR_get hr j i hj hi
      have hb2 : j * k + i < n * k := by
        have h6 : (j + 1) * k ≤ n * k := Nat.mul_le_mul_right k (by omega)
        rw [Nat.add_mul] at h6
        omega
      rw [← h4, List.getElem?_take_of_lt hb2] at h5
      rw [cell_of_row w g _ cur e (0, 0) hg, Nat.zero_add]
      simpa using h5
theorem addR (b off j : Nat) : (⟨b, off, none⟩ : Addr).add j = ⟨b, off + j, none⟩ := by unfold Addr.add; split <;> simp_all
theorem flatR_news {w : World} {k : Nat} {ps : List (List Value)} {b off : Nat} (hk : 0 < k) (hr : ∀ r ∈ ps, r.length = k) (hT : Rs w (some ⟨b, off, none⟩) k ps) : ∀ j u, ps.flatten[j]? = some u → w.cell? ((⟨b, off, none⟩ : Addr).add j) = some u := by
  intro j u hu
  rw [addR]
  have hl : j < ps.flatten.length := (List.getElem?_eq_some_iff.1 hu).1
  rw [flatR_len hr] at hl
  have hj : j / k < ps.length := Nat.div_lt_of_lt_mul (by rw [Nat.mul_comm]; exact hl)
  have hm : j % k < k := Nat.mod_lt _ hk
  have e : j / k * k + j % k = j := by rw [Nat.mul_comm]; exact Nat.div_add_mod j k
  obtain ⟨b', off', e1, _, h3⟩ := hT _ hj
  obtain ⟨rfl, rfl⟩ : b = b' ∧ off = off' := by simpa using e1
  have h4 := h3 _ hm
  rw [show off + j / k * k + j % k = off + j by omega] at h4
  have h5 := flatR_get hr (j / k) (j % k) hj hm
  rw [e, hu] at h5
  rw [h4, ← h5]
theorem oneR {ps : List (List Value)} (h : ∀ r ∈ ps, ∀ u ∈ r, u.oneCell' = true) : ∀ u ∈ ps.flatten, u.oneCell' = true := fun u hu => by
  obtain ⟨r, h1, h2⟩ := List.mem_flatten.1 hu
  exact h r h1 u h2

section
variable {P : Program} (w : World)
theorem run_appR (k : Nat) (hk : 0 < k) (t ty : TypeId) (base : Nat) (e : TypeId) (i : TypeInfo) (z : Value) (bytes : Nat) (ht : P.underlying t = some (.slice e)) (hi : P.info? e = some i) (hz : i.zero = some z)
    (hsize : i.size = k) (hby : i.bytes = bytes) (hzs : z.cells.size = k)
    (v : Value) (n : Nat) (xs : List Value) (hown : w.ownsRow base e k v n xs)
    (A : Option Addr) (m c : Nat) (ps : List (List Value)) (hr : ∀ r ∈ ps, r.length = k) (hone : ∀ r ∈ ps, ∀ u ∈ r, u.oneCell' = true) (hm : m = ps.length) (hT : Rs w A k ps)
    (h63 : n + m ≤ maxLen) (hbytes : (n + m) * bytes ≤ 140737488355328) (hbase : base ≤ w.heap.size) :
    ∃ v' w', (Builtin.append_ #[t, t] ty #[v, .slice A m c]).run P w = .ok v' w' ∧ w'.ownsRow base e k v' (n + m) (xs ++ ps.flatten) ∧ w.grownBy w' v.ownBlock ∧ (v'.ownBlock = v.ownBlock ∨ v'.ownBlock = some w.heap.size) := by
  subst hm
  rcases A with _ | ⟨b, off, sp⟩
  · have h0 : ps = [] := by
      cases ps with
      | nil => rfl
      | cons p ps => obtain ⟨_, _, h, _⟩ := hT 0 (by simp); cases h
    subst h0
    refine ⟨v, w, ?_, by simpa using hown, World.grownBy.refl w _, .inl rfl⟩
    rcases hown.2 with ⟨rfl, rfl⟩ | ⟨g, cap, cur, rfl, _, _, hnc, _⟩
    · simp [Builtin.append_, run_underlying ht, sizeOf, typeInfo, hi, Builtin.lenOf, Builtin.firstCells]
    · simp [Builtin.append_, run_underlying ht, sizeOf, typeInfo, hi, Builtin.lenOf, Builtin.firstCells, hnc, storeCells]
  · have hn : ∀ j u, ps.flatten[j]? = some u → w.cell? ((⟨b, off, sp⟩ : Addr).add j) = some u := by
      cases ps with
      | nil => intro j u hu; simp at hu
      | cons p ps =>
        obtain ⟨b', off', h, _⟩ := hT 0 (by simp)
        injection h with h
        injection h with h1 h2 h3
        subst h3
        exact flatR_news hk hr hT
    obtain ⟨v', w', hr2, h2, h3, _, h5⟩ := run_append_own_at (P := P) w base t ty e i z k bytes ht hi hz hsize hby hzs hk v n xs hown ⟨b, off, sp⟩ ps.length c ps.flatten (flatR_len hr) hn (oneR hone) h63 hbytes hbase
    exact ⟨v', w', hr2, h2, h3, h5⟩
theorem wp_appR {o : Oper} {a : Act} {K : Act → World → Prop} {Q : Exit → Act → World → Prop} (k : Nat) (hk : 0 < k) (s x : Operand) (t : TypeId)
    (ho : o.op = .call { callee := .builtin .append, args := #[s, x], argTypes := #[t, t] })
    (base : Nat) (e : TypeId) (i : TypeInfo) (z : Value) (bytes : Nat) (ht : P.underlying t = some (.slice e)) (hi : P.info? e = some i) (hz : i.zero = some z)
    (hsize : i.size = k) (hby : i.bytes = bytes) (hzs : z.cells.size = k)
    (v : Value) (n : Nat) (xs : List Value) (hs : a.eval s = v) (hown : w.ownsRow base e k v n xs)
    (A : Option Addr) (m c : Nat) (ps : List (List Value)) (hr : ∀ r ∈ ps, r.length = k) (hone : ∀ r ∈ ps, ∀ u ∈ r, u.oneCell' = true) (hx : a.eval x = .slice A m c) (hm : m = ps.length) (hT : Rs w A k ps)
    (h63 : n + m ≤ maxLen) (hbytes : (n + m) * bytes ≤ 140737488355328) (hbase : base ≤ w.heap.size)
    (h : ∀ v' w', w'.ownsRow base e k v' (n + m) (xs ++ ps.flatten) → w.grownBy w' v.ownBlock → (v'.ownBlock = v.ownBlock ∨ v'.ownBlock = some w.heap.size) → K (a.put o.dst v') w') : o.wp P a w K Q := by
  obtain ⟨v', w', hr2, h2, h3, h4⟩ := run_appR (P := P) w k hk t o.type base e i z bytes ht hi hz hsize hby hzs v n xs hown A m c ps hr hone hm hT h63 hbytes hbase
  unfold Oper.wp execOp
  simp only [ho, resolve, invoke, builtin, Sem.run_bind, Sem.run_pure, Result.andThen_ok, List.map_toArray, List.map_cons, List.map_nil, hs, hx, hr2]
  exact h v' w' h2 h3 h4
/-- At a plain region's list. -/
theorem wpList_appR {ops : Array Oper} {rest : List Oper} {o : Oper} {a : Act} {Q : Exit → Act → World → Prop} (hgd : o.guard = none) (k : Nat) (hk : 0 < k) (s x : Operand) (t : TypeId)
    (ho : o.op = .call { callee := .builtin .append, args := #[s, x], argTypes := #[t, t] })
    (base : Nat) (e : TypeId) (i : TypeInfo) (z : Value) (bytes : Nat) (ht : P.underlying t = some (.slice e)) (hi : P.info? e = some i) (hz : i.zero = some z)
    (hsize : i.size = k) (hby : i.bytes = bytes) (hzs : z.cells.size = k)
    (v : Value) (n : Nat) (xs : List Value) (hs : a.eval s = v) (hown : w.ownsRow base e k v n xs)
    (A : Option Addr) (m c : Nat) (ps : List (List Value)) (hr : ∀ r ∈ ps, r.length = k) (hone : ∀ r ∈ ps, ∀ u ∈ r, u.oneCell' = true) (hx : a.eval x = .slice A m c) (hm : m = ps.length) (hT : Rs w A k ps)
    (h63 : n + m ≤ maxLen) (hbytes : (n + m) * bytes ≤ 140737488355328) (hbase : base ≤ w.heap.size)
    (h : ∀ v' w', w'.ownsRow base e k v' (n + m) (xs ++ ps.flatten) → w.grownBy w' v.ownBlock → (v'.ownBlock = v.ownBlock ∨ v'.ownBlock = some w.heap.size) → wpList P ops Q rest (a.put o.dst v') w') : wpList P ops Q (o :: rest) a w :=
  wpList_plain hgd fun _ hK => wp_appR w k hk s x t ho base e i z bytes ht hi hz hsize hby hzs v n xs hs hown A m c ps hr hone hx hm hT h63 hbytes hbase fun v' w' h2 h3 h4 => hK _ _ (h v' w' h2 h3 h4)
/-- At a step of a region that draws its order. -/
theorem step_appR {ops : Array Oper} {o : Oper} {a : Act} {K : Act → World → Prop} {Q : Exit → Act → World → Prop} {E : Prop} (hgd : o.guard = none) (k : Nat) (hk : 0 < k) (s x : Operand) (t : TypeId)
    (ho : o.op = .call { callee := .builtin .append, args := #[s, x], argTypes := #[t, t] })
    (base : Nat) (e : TypeId) (i : TypeInfo) (z : Value) (bytes : Nat) (ht : P.underlying t = some (.slice e)) (hi : P.info? e = some i) (hz : i.zero = some z)
    (hsize : i.size = k) (hby : i.bytes = bytes) (hzs : z.cells.size = k)
    (v : Value) (n : Nat) (xs : List Value) (hs : a.eval s = v) (hown : w.ownsRow base e k v n xs)
    (A : Option Addr) (m c : Nat) (ps : List (List Value)) (hr : ∀ r ∈ ps, r.length = k) (hone : ∀ r ∈ ps, ∀ u ∈ r, u.oneCell' = true) (hx : a.eval x = .slice A m c) (hm : m = ps.length) (hT : Rs w A k ps)
    (h63 : n + m ≤ maxLen) (hbytes : (n + m) * bytes ≤ 140737488355328) (hbase : base ≤ w.heap.size)
    (h : ∀ v' w', w'.ownsRow base e k v' (n + m) (xs ++ ps.flatten) → w.grownBy w' v.ownBlock → (v'.ownBlock = v.ownBlock ∨ v'.ownBlock = some w.heap.size) → K (a.put o.dst v') w') :
    if Region.wanted o (yielded ops a.tmps) = true then Oper.wp P o a w K Q else E := by
  have hw : Region.wanted o (yielded ops a.tmps) = true := by simp [Region.wanted, hgd]
  rw [if_pos hw]
  exact wp_appR w k hk s x t ho base e i z bytes ht hi hz hsize hby hzs v n xs hs hown A m c ps hr hone hx hm hT h63 hbytes hbase h
end

/-- A row of the call's own that grows: from base on nothing else turns. -/
theorem Bl.of_by {w w' : World} {base : Nat} {r : Option Nat} (g : w.grownBy w' r) (hr : ∀ b, r = some b → base ≤ b) (hb : base ≤ w.heap.size) {u : World} (h : Bl u w) (hu : u.heap.size = base) : Bl u w' := by
  subst hu
  refine ⟨g.os.trans h.os, g.tape.trans h.tape, g.output.trans h.output, Nat.le_trans h.size g.size, fun i hi => ?_⟩
  have h1 := h.block i hi
  rw [← h1]
  exact g.block i (Nat.lt_of_lt_of_le hi hb) (fun e => Nat.lt_irrefl _ (Nat.lt_of_lt_of_le hi (hr i e.symm)))

end Go.Proofs.Ytnapelocjcoofaa
