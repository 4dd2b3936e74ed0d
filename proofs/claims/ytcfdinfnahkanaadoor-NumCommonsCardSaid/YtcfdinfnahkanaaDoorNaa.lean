/-
  An append inside a region that draws its order, onto a row that the call owns; and a weaker relation between worlds: what was there is as it was.
-/
import Derived.Test.YtcfdinfnahkanaaDoorNj
import Derived.Deep.RegionHeld3
import Derived.Deep.RegionLaw
import Derived.Deep.AppendLies
namespace Go.Proofs.YtcfdinfnahkanaaDoor
open Go.RowKit

/-- What lay in the heap is as it was; there may be new blocks. -/
def Gr (w w' : World) : Prop := w.keptBut w' (fun _ => False) ∧ w.heap.size ≤ w'.heap.size
theorem gr_of_grown {w w' : World} (h : Grown w w') : Gr w w' := ⟨h.1, h.2.2⟩
theorem gr_refl (w : World) : Gr w w := gr_of_grown (Grown.refl w)
theorem gr_trans {a b c : World} (h : Gr a b) (k : Gr b c) : Gr a c := ⟨World.keptBut_trans h.1 k.1, Nat.le_trans h.2 k.2⟩
theorem gr_alloc {a b : World} (h : Gr a b) (c : Array Value) (t : TypeId) : Gr a (b.alloc (.cells c t)) := gr_trans h (gr_of_grown ((Grown.refl b).alloc c t))
theorem gr_old {a b : World} (h : Gr a b) {p : Addr} (hp : p.block < a.heap.size) : b.heap[p.block]? = a.heap[p.block]? := h.1.block hp (fun _ f => f.elim)
theorem gr_cell {a b : World} (h : Gr a b) {p : Addr} (hp : p.block < a.heap.size) : b.cell? p = a.cell? p := World.cell?_of_block (gr_old h hp)
theorem Tab.gr {w w' : World} (h : Tab w) (g : Gr w w') : Tab w' := ⟨Nat.lt_of_lt_of_le h.old g.2, fun j hj => (gr_cell g h.old).trans (h.at_ j hj)⟩
theorem Row.gr {w w' : World} {a : Option Addr} {zs : List Int} (h : Row w a zs) (g : Gr w w') : Row w' a zs :=
  ⟨h.len, fun k hk => by
    obtain ⟨b, off, h1, h2, h3⟩ := h.at_ k hk
    exact ⟨b, off, h1, Nat.lt_of_lt_of_le h2 g.2, (gr_cell g h2).trans h3⟩⟩
theorem gr_of_blocks {w w1 w2 : World} (h : Gr w w1) {row : Option Nat} (g : w1.grownBy w2 row) (hr : ∀ k, row = some k → w.heap.size ≤ k) : Gr w w2 := by
  have hb : Below w.heap.size w1 w2 := ⟨g.os, g.tape, g.output, g.size, fun k hk => g.block k (Nat.lt_of_lt_of_le hk h.2) (fun e => by have := hr k e.symm; omega)⟩
  refine ⟨?_, Nat.le_trans h.2 g.size⟩
  refine ⟨hb.os.trans h.1.1, hb.output.trans h.1.2.1, fun i hi => ?_⟩
  rw [hb.block i hi]
  exact h.1.2.2 i hi

section
variable {P : Program} {w : World}
/-- Append onto an owned row, at a step of a region that draws. -/
theorem step_app {ops : Array Oper} {o : Oper} {a : Act} {K : Act → World → Prop} {Q : Exit → Act → World → Prop} {E : Prop} (hgd : o.guard = none) (s x : Operand) (t : TypeId)
    (ho : o.op = .call { callee := .builtin .append, args := #[s, x], argTypes := #[t, t] })
    (base : Nat) (e : TypeId) (i : TypeInfo) (z : Value) (bytes : Nat) (ht : P.underlying t = some (.slice e)) (hi : P.info? e = some i) (hz : i.zero = some z)
    (hsize : i.size = 1) (hby : i.bytes = bytes) (hzs : z.cells.size = 1)
    (v : Value) (n : Nat) (xs : List Value) (hs : a.eval s = v) (hown : w.ownsRow base e 1 v n xs)
    (ad : Addr) (m c : Nat) (news : List Value) (hx : a.eval x = .slice (some ad) m c) (hl : news.length = m) (hnews : ∀ j u, news[j]? = some u → w.cell? (ad.add j) = some u) (h1 : ∀ u ∈ news, u.oneCell' = true)
    (h63 : n + m ≤ maxLen) (hbytes : (n + m) * bytes ≤ 140737488355328) (hbase : base ≤ w.heap.size)
    (h : ∀ v' w', w'.ownsRow base e 1 v' (n + m) (xs ++ news) → w.grownBy w' v.ownBlock → (∀ k, v.ownBlock = some k → base ≤ k) → K (a.put o.dst v') w') :
    if Region.wanted o (yielded ops a.tmps) = true then Oper.wp P o a w K Q else E := by
  have hw : Region.wanted o (yielded ops a.tmps) = true := by simp [Region.wanted, hgd]
  rw [if_pos hw]
  exact wp_append_own w s x t ho base e i z 1 bytes ht hi hz hsize hby hzs (by omega) v n xs hs hown ad m c news hx (by omega) hnews h1 h63 hbytes hbase
    (fun v' w' h2 h3 _ => h v' w' h2 h3 (fun k hk => (hown.lt k hk).1))
/-- The same where something is appended: the new value written out. -/
theorem step_app1 {ops : Array Oper} {o : Oper} {a : Act} {K : Act → World → Prop} {Q : Exit → Act → World → Prop} {E : Prop} (hgd : o.guard = none) (s x : Operand) (t : TypeId)
    (ho : o.op = .call { callee := .builtin .append, args := #[s, x], argTypes := #[t, t] })
    (base : Nat) (e : TypeId) (i : TypeInfo) (z : Value) (bytes : Nat) (ht : P.underlying t = some (.slice e)) (hi : P.info? e = some i) (hz : i.zero = some z)
    (hsize : i.size = 1) (hby : i.bytes = bytes) (hzs : z.cells.size = 1)
    (v : Value) (n : Nat) (xs : List Value) (hs : a.eval s = v) (hown : w.ownsRow base e 1 v n xs)
    (ad : Addr) (m c : Nat) (news : List Value) (hx : a.eval x = .slice (some ad) m c) (hl : news.length = m) (hnews : ∀ j u, news[j]? = some u → w.cell? (ad.add j) = some u) (h1 : ∀ u ∈ news, u.oneCell' = true)
    (hm : 0 < m) (h63 : n + m ≤ maxLen) (hbytes : (n + m) * bytes ≤ 140737488355328) (hbase : base ≤ w.heap.size)
    (h : ∀ g cap w', w'.ownsRow base e 1 (.slice (some ⟨g, 0, none⟩) (n + m) cap) (n + m) (xs ++ news) → w.grownBy w' v.ownBlock → (∀ k, v.ownBlock = some k → base ≤ k) → K (a.put o.dst (.slice (some ⟨g, 0, none⟩) (n + m) cap)) w') :
    if Region.wanted o (yielded ops a.tmps) = true then Oper.wp P o a w K Q else E :=
  step_append_lies w hgd s x t ho base e i z 1 bytes ht hi hz hsize hby hzs (by omega) v n xs hs hown ad m c news hx (by omega) hnews h1 hm h63 hbytes hbase w.heap.size rfl
    (fun g cap w' h2 h3 _ _ => h g cap w' h2 h3 (fun k hk => (hown.lt k hk).1))
/-- The same, the new length under a name. -/
theorem step_app2 {ops : Array Oper} {o : Oper} {a : Act} {K : Act → World → Prop} {Q : Exit → Act → World → Prop} {E : Prop} (hgd : o.guard = none) (s x : Operand) (t : TypeId)
    (ho : o.op = .call { callee := .builtin .append, args := #[s, x], argTypes := #[t, t] })
    (base : Nat) (e : TypeId) (i : TypeInfo) (z : Value) (bytes : Nat) (ht : P.underlying t = some (.slice e)) (hi : P.info? e = some i) (hz : i.zero = some z)
    (hsize : i.size = 1) (hby : i.bytes = bytes) (hzs : z.cells.size = 1)
    (v : Value) (n : Nat) (xs : List Value) (hs : a.eval s = v) (hown : w.ownsRow base e 1 v n xs)
    (ad : Addr) (m c : Nat) (news : List Value) (hx : a.eval x = .slice (some ad) m c) (hl : news.length = m) (hnews : ∀ j u, news[j]? = some u → w.cell? (ad.add j) = some u) (h1 : ∀ u ∈ news, u.oneCell' = true)
    (hm : 0 < m) (h63 : n + m ≤ maxLen) (hbytes : (n + m) * bytes ≤ 140737488355328) (hbase : base ≤ w.heap.size)
    (N : Nat) (hN : n + m = N) (h : ∀ g cap w', w'.ownsRow base e 1 (.slice (some ⟨g, 0, none⟩) N cap) N (xs ++ news) → w.grownBy w' v.ownBlock → (∀ k, v.ownBlock = some k → base ≤ k) → K (a.put o.dst (.slice (some ⟨g, 0, none⟩) N cap)) w') :
    if Region.wanted o (yielded ops a.tmps) = true then Oper.wp P o a w K Q else E := by
  subst hN
  exact step_app1 hgd s x t ho base e i z bytes ht hi hz hsize hby hzs v n xs hs hown ad m c news hx hl hnews h1 hm h63 hbytes hbase h
end

theorem own_empty (w : World) (base : Nat) (e : TypeId) (hb : base ≤ w.heap.size) : (w.alloc (.cells #[] e)).ownsRow base e 1 (.slice (some ⟨w.heap.size, 0, none⟩) 0 0) 0 [] := by
  have := World.ownsRow_made (e := e) (size := 1) (base := base) w #[] 0 hb (by unfold maxLen; omega) (by simp)
  simpa using this

theorem own_empty2 (w : World) (o : Obj) (e : TypeId) : ((w.alloc o).alloc (.cells #[] e)).ownsRow w.heap.size e 1 (.slice (some ⟨w.heap.size + 1, 0, none⟩) 0 0) 0 [] := by
  have h := own_empty (w.alloc o) w.heap.size e (by simp)
  have hs : (w.alloc o).heap.size = w.heap.size + 1 := by simp
  rw [hs] at h
  exact h

/-- A row of the call's own, read as a slice of integers. -/
theorem row_of_own {w : World} {base : Nat} {e : TypeId} {v : Value} {zs : List Int} (h : w.ownsRow base e 1 v zs.length (zs.map (Value.int .i64))) (hz : 0 < zs.length) (hl : zs.length ≤ 9223372036854775807) :
    ∃ a cap, v = .slice a zs.length cap ∧ Row w a zs := by
  rcases h.2 with ⟨_, h0⟩ | ⟨g, cap, cur, hv, hb, hg, hn, _, hc, ht⟩
  · omega
  · refine ⟨some ⟨g, 0, none⟩, cap, hv, hl, fun k hk => ⟨g, 0, rfl, ?_, ?_⟩⟩
    · rcases Nat.lt_or_ge g w.heap.size with hlt | hge
      · exact hlt
      · rw [Array.getElem?_eq_none hge] at hg; cases hg
    · have e1 : (zs.map (Value.int .i64))[k]? = some (.int .i64 (zs.getD k 0)) := by simp [hk]
      rw [← ht, List.getElem?_take, if_pos (by omega)] at e1
      simp only [World.cell?, hg, Nat.zero_add]
      simpa using e1

/-- What the region of the two appends keeps. -/
def St (w0 : World) (B : Nat) (xs : List Int) (w' : World) : Prop := (∀ k, k < xs.length → w'.cell? ⟨B, k, none⟩ = some (.int .i64 (xs.getD k 0))) ∧ Gr w0 w'
theorem st_first {w0 : World} {A : Addr} {v : Value} {B : Nat} {xs : List Int} (hc : w0.cell? A = some v) (hr : ∀ k, k < xs.length → w0.cell? ⟨B, k, none⟩ = some (.int .i64 (xs.getD k 0))) :
    w0.drew.cell? A = some v ∧ St w0 B xs w0.drew := ⟨hc, hr, gr_of_grown (Grown.refl w0).drew⟩
theorem st_alloc {w0 w1 : World} {A : Addr} {v : Value} {B : Nat} {xs : List Int} (h : w1.cell? A = some v ∧ St w0 B xs w1) (hA : Hid (A.block < w0.heap.size)) (hB : Hid (B < w0.heap.size)) (c : Array Value) (t : TypeId) :
    (w1.alloc (.cells c t)).cell? A = some v ∧ St w0 B xs (w1.alloc (.cells c t)) := by
  have g : Gr w1 (w1.alloc (.cells c t)) := gr_alloc (gr_refl w1) c t
  exact ⟨(gr_cell g (Nat.lt_of_lt_of_le hA.out h.2.2.2)).trans h.1, fun k hk => (gr_cell g (p := ⟨B, k, none⟩) (Nat.lt_of_lt_of_le hB.out h.2.2.2)).trans (h.2.1 k hk), gr_trans h.2.2 g⟩
theorem st_grow {w0 w1 w2 : World} {A : Addr} {v : Value} {B : Nat} {xs : List Int} (h : w1.cell? A = some v ∧ St w0 B xs w1) (hA : Hid (A.block < w0.heap.size)) (hB : Hid (B < w0.heap.size)) {row : Option Nat} (g : w1.grownBy w2 row) (hr : ∀ k, row = some k → w0.heap.size ≤ k) :
    w2.cell? A = some v ∧ St w0 B xs w2 := by
  have far : ∀ p : Addr, p.block < w0.heap.size → w2.cell? p = w1.cell? p := fun p hp => g.cell_far p (Nat.lt_of_lt_of_le hp h.2.2.2) (fun e => by have := hr _ e.symm; omega)
  exact ⟨(far A hA.out).trans h.1, fun k hk => (far ⟨B, k, none⟩ hB.out).trans (h.2.1 k hk), gr_of_blocks h.2.2 g hr⟩
theorem st_news {w0 w' : World} {B : Nat} {xs : List Int} (h : St w0 B xs w') : ∀ j u, (xs.map (Value.int .i64))[j]? = some u → w'.cell? ((⟨B, 0, none⟩ : Addr).add j) = some u := by
  intro j u hu
  rw [Go.WideShapes.add_plain, Nat.zero_add]
  by_cases hj : j < xs.length
  · rw [h.1 j hj]
    simpa [hj] using hu
  · rw [List.getElem?_eq_none (by simp; omega)] at hu
    cases hu
theorem one_news {w : World} {b : Nat} {v : Value} (h : w.cell? ⟨b, 0, none⟩ = some v) : ∀ j u, [v][j]? = some u → w.cell? ((⟨b, 0, none⟩ : Addr).add j) = some u := by
  intro j u hu
  rw [Go.WideShapes.add_plain, Nat.zero_add]
  match j, hu with
  | 0, hu => simpa [h] using hu

end Go.Proofs.YtcfdinfnahkanaaDoor
