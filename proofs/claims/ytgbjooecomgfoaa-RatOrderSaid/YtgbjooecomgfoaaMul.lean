/-
  Of no program: a region 'a, b, c := f(..), f(..), f(..)' into three new variables that are structs of two integers: three calls in a row, three allocs that may come up at any time, three stores at the end. One walk a kind of operation, not one an order.
-/
import Derived.Test.YtgbjooecomgfoaaRr
import Derived.Deep.RegionHeld3
namespace Go.Proofs.Ytgbjooecomgfoaa
open Go.RowKit

/-- Put, if c. -/
def pif (c : Bool) (a : Act) (d : Tmp) (v : Value) : Act := if c then a.put (some d) v else a
theorem pif_put {c : Bool} {a : Act} {d d' : Tmp} {v v' : Value} (h : d ≠ d') : (pif c a d v).put (some d') v' = pif c (a.put (some d') v') d v := by
  cases c
  · rfl
  · exact Act.put_comm a v v' (fun x hx hy => h ((Option.some.inj hx).trans (Option.some.inj hy).symm))
theorem eval_pif {c : Bool} {a : Act} {d t : Tmp} {v : Value} (h : d ≠ t) : (pif c a d v).eval (.tmp t) = a.eval (.tmp t) := by
  cases c
  · rfl
  · exact Act.eval_put (fun x hx hy => h ((Option.some.inj hx).trans (Operand.tmp.inj hy).symm))
theorem eval_put_same {a : Act} {d : Tmp} {v : Value} (h : d < a.tmps.size) : (a.put (some d) v).eval (.tmp d) = v := by
  simp [Act.put, Act.eval, h]
theorem size_pif {c : Bool} {a : Act} {d : Tmp} {v : Value} : (pif c a d v).tmps.size = a.tmps.size := by
  cases c <;> simp [pif, Act.put]

/-- Two integers at B, in a block that may be written. -/
structure AtB (B : Nat) (x y : Int) (w : World) : Prop where
  lt : B < w.heap.size
  c0 : w.cell? ⟨B, 0, none⟩ = some (.int .i64 x)
  c1 : w.cell? ⟨B, 1, none⟩ = some (.int .i64 y)
  f0 : w.frozen? ⟨B, 0, none⟩ = false
  f1 : w.frozen? ⟨B, 1, none⟩ = false
theorem AtB.go {B : Nat} {x y : Int} {w w' : World} (h : AtB B x y w) (g : Grown w w') : AtB B x y w' :=
  ⟨Nat.lt_of_lt_of_le h.lt g.2.2, (grown_cell g (p := ⟨B, 0, none⟩) h.lt).trans h.c0, (grown_cell g (p := ⟨B, 1, none⟩) h.lt).trans h.c1, (g.2.1 _).trans h.f0, (g.2.1 _).trans h.f1⟩
theorem AtB.fresh (w : World) (T : TypeId) : AtB w.heap.size 0 0 (w.alloc (.cells #[.int .i64 0, .int .i64 0] T)) := ⟨by simp, by simp [go_sem], by simp [go_sem], by simp [go_sem], by simp [go_sem]⟩
/-- The two stores. -/
def setTwo (w : World) (B : Nat) (x y : Int) : World := (w.setCell ⟨B, 0, none⟩ (.int .i64 x)).setCell ⟨B, 1, none⟩ (.int .i64 y)
theorem AtB.same {B : Nat} {x y u v : Int} {w : World} (h : AtB B x y w) : AtB B u v (setTwo w B u v) := by
  have h1 : (w.setCell ⟨B, 0, none⟩ (.int .i64 u)).cell? ⟨B, 1, none⟩ = some (.int .i64 y) := by
    rw [World.cell?_setCell_other _ _ _ _ (by simp)]; exact h.c1
  refine ⟨?_, ?_, ?_, ?_, ?_⟩
  · simpa [setTwo, World.setCell] using h.lt
  · unfold setTwo; rw [World.cell?_setCell_other _ _ _ _ (by simp)]; exact World.cell?_setCell_same _ _ _ h.c0
  · exact World.cell?_setCell_same _ _ _ h1
  · unfold setTwo; rw [World.frozen?_setCell, World.frozen?_setCell]; exact h.f0
  · unfold setTwo; rw [World.frozen?_setCell, World.frozen?_setCell]; exact h.f1
theorem AtB.far {B C : Nat} {x y u v : Int} {w : World} (h : AtB B x y w) (hne : C ≠ B) : AtB B x y (setTwo w C u v) := by
  refine ⟨?_, ?_, ?_, ?_, ?_⟩
  · simpa [setTwo, World.setCell] using h.lt
  · unfold setTwo; rw [World.cell?_setCell_far _ _ _ _ hne, World.cell?_setCell_far _ _ _ _ hne]; exact h.c0
  · unfold setTwo; rw [World.cell?_setCell_far _ _ _ _ hne, World.cell?_setCell_far _ _ _ _ hne]; exact h.c1
  · unfold setTwo; rw [World.frozen?_setCell, World.frozen?_setCell]; exact h.f0
  · unfold setTwo; rw [World.frozen?_setCell, World.frozen?_setCell]; exact h.f1

/-- Which operations have come up. -/
def Lst (x s : Nat) (b1 b2 b3 : Bool) : Array Bool := #[true, true, true, true, decide (1 ≤ x), true, true, true, true, decide (2 ≤ x), true, true, true, true, decide (3 ≤ x), b1, b2, b3, decide (1 ≤ s), decide (2 ≤ s), decide (3 ≤ s)]
/-- What may come up in a state. -/
def mayCome (x s : Nat) (b1 b2 b3 : Bool) (i : Nat) : Bool :=
  (i == 4 && x == 0) || (i == 9 && x == 1) || (i == 14 && x == 2) || (i == 15 && !b1) || (i == 16 && !b2) || (i == 17 && !b3) ||
  (i == 18 && x == 3 && b1 && b2 && b3 && s == 0) || (i == 19 && x == 3 && b1 && b2 && b3 && s == 1) || (i == 20 && x == 3 && b1 && b2 && b3 && s == 2)
def okState (ops : Array Oper) (x s : Nat) (b1 b2 b3 : Bool) : Bool :=
  (Region.ready .any ops (Lst x s b1 b2 b3)).all (mayCome x s b1 b2 b3) && (!(Region.ready .any ops (Lst x s b1 b2 b3)).isEmpty || (x == 3 && s == 3 && b1 && b2 && b3))
def okReady (ops : Array Oper) : Bool :=
  [0, 1, 2, 3].all fun x => [true, false].all fun b1 => [true, false].all fun b2 => [true, false].all fun b3 => okState ops x 0 b1 b2 b3 && (!(x == 3 && b1 && b2 && b3) || (okState ops 3 1 true true true && okState ops 3 2 true true true && okState ops 3 3 true true true))
theorem okReady_spec {ops : Array Oper} (h : okReady ops = true) (x s : Nat) (b1 b2 b3 : Bool) (hx : x ≤ 3) (hs : s = 0 ∨ (s ≤ 3 ∧ x = 3 ∧ b1 = true ∧ b2 = true ∧ b3 = true)) : okState ops x s b1 b2 b3 = true := by
  unfold okReady at h
  simp only [List.all_cons, List.all_nil, Bool.and_true, Bool.and_eq_true] at h
  rcases hs with rfl | ⟨hs, rfl, rfl, rfl, rfl⟩
  · rcases (by omega : x = 0 ∨ x = 1 ∨ x = 2 ∨ x = 3) with rfl | rfl | rfl | rfl <;> cases b1 <;> cases b2 <;> cases b3 <;> simp_all
  · rcases (by omega : s = 0 ∨ s = 1 ∨ s = 2 ∨ s = 3) with rfl | rfl | rfl | rfl <;> simp_all

section
variable {P : Program} {ops : Array Oper} {Q : Exit → Act → World → Prop} {S : World → Prop} {W : World} {a0 : Act} {d1 d2 d3 e1 e2 e3 : Tmp} {x1 y1 x2 y2 x3 y3 : Int} {T : TypeId}

def ptrB (B : Nat) : Value := .pointer (some ⟨B, 0, none⟩)
def pairV (x y : Int) : Value := .agg #[.int .i64 x, .int .i64 y]
/-- The frame in a state. -/
def actM (a0 : Act) (d1 d2 d3 e1 e2 e3 : Tmp) (V1 V2 V3 : Value) (x : Nat) (b1 b2 b3 : Bool) (B1 B2 B3 : Nat) : Act :=
  pif b3 (pif b2 (pif b1 (pif (decide (3 ≤ x)) (pif (decide (2 ≤ x)) (pif (decide (1 ≤ x)) a0 d1 V1) d2 V2) d3 V3) e1 (ptrB B1)) e2 (ptrB B2)) e3 (ptrB B3)

/-- A state of the region. -/
structure St (W : World) (a0 : Act) (d1 d2 d3 e1 e2 e3 : Tmp) (x1 y1 x2 y2 x3 y3 : Int) (x s : Nat) (b1 b2 b3 : Bool) (B1 B2 B3 : Nat) (a : Act) (w : World) : Prop where
  act : a = actM a0 d1 d2 d3 e1 e2 e3 (pairV x1 y1) (pairV x2 y2) (pairV x3 y3) x b1 b2 b3 B1 B2 B3
  g : Grown W w
  n1 : b1 = true → W.heap.size ≤ B1 ∧ AtB B1 (if 1 ≤ s then x1 else 0) (if 1 ≤ s then y1 else 0) w
  n2 : b2 = true → W.heap.size ≤ B2 ∧ AtB B2 (if 2 ≤ s then x2 else 0) (if 2 ≤ s then y2 else 0) w
  n3 : b3 = true → W.heap.size ≤ B3 ∧ AtB B3 (if 3 ≤ s then x3 else 0) (if 3 ≤ s then y3 else 0) w
  d12 : b1 = true → b2 = true → B1 ≠ B2
  d13 : b1 = true → b3 = true → B1 ≠ B3
  d23 : b2 = true → b3 = true → B2 ≠ B3

set_option maxHeartbeats 8000000 in
theorem multi3 (hr : okReady ops = true) (hS : ∀ w, Grown W w → S w)
    (hd : d1 ≠ d2 ∧ d1 ≠ d3 ∧ d1 ≠ e1 ∧ d1 ≠ e2 ∧ d1 ≠ e3 ∧ d2 ≠ d3 ∧ d2 ≠ e1 ∧ d2 ≠ e2 ∧ d2 ≠ e3 ∧ d3 ≠ e1 ∧ d3 ≠ e2 ∧ d3 ≠ e3 ∧ e1 ≠ e2 ∧ e1 ≠ e3 ∧ e2 ≠ e3)
    (hz : d1 < a0.tmps.size ∧ d2 < a0.tmps.size ∧ d3 < a0.tmps.size ∧ e1 < a0.tmps.size ∧ e2 < a0.tmps.size ∧ e3 < a0.tmps.size)
    (hc1 : ∀ (K : Act → World → Prop) (a : Act) (w : World), (∀ t, d1 ≠ t → d2 ≠ t → d3 ≠ t → e1 ≠ t → e2 ≠ t → e3 ≠ t → a.eval (.tmp t) = a0.eval (.tmp t)) → (∀ w', Grown w w' → K (a.put (some d1) (pairV x1 y1)) w') → wpOp P ops Q 4 K a w)
    (hc2 : ∀ (K : Act → World → Prop) (a : Act) (w : World), (∀ t, d1 ≠ t → d2 ≠ t → d3 ≠ t → e1 ≠ t → e2 ≠ t → e3 ≠ t → a.eval (.tmp t) = a0.eval (.tmp t)) → (∀ w', Grown w w' → K (a.put (some d2) (pairV x2 y2)) w') → wpOp P ops Q 9 K a w)
    (hc3 : ∀ (K : Act → World → Prop) (a : Act) (w : World), (∀ t, d1 ≠ t → d2 ≠ t → d3 ≠ t → e1 ≠ t → e2 ≠ t → e3 ≠ t → a.eval (.tmp t) = a0.eval (.tmp t)) → (∀ w', Grown w w' → K (a.put (some d3) (pairV x3 y3)) w') → wpOp P ops Q 14 K a w)
    (ha1 : ∀ (K : Act → World → Prop) (a : Act) (w : World), K (a.put (some e1) (ptrB w.heap.size)) (w.alloc (.cells #[.int .i64 0, .int .i64 0] T)) → wpOp P ops Q 15 K a w)
    (ha2 : ∀ (K : Act → World → Prop) (a : Act) (w : World), K (a.put (some e2) (ptrB w.heap.size)) (w.alloc (.cells #[.int .i64 0, .int .i64 0] T)) → wpOp P ops Q 16 K a w)
    (ha3 : ∀ (K : Act → World → Prop) (a : Act) (w : World), K (a.put (some e3) (ptrB w.heap.size)) (w.alloc (.cells #[.int .i64 0, .int .i64 0] T)) → wpOp P ops Q 17 K a w)
    (hs1 : ∀ (K : Act → World → Prop) (a : Act) (w : World) (B : Nat), a.eval (.tmp e1) = ptrB B → a.eval (.tmp d1) = pairV x1 y1 → AtB B 0 0 w → K a (setTwo w B x1 y1) → wpOp P ops Q 18 K a w)
    (hs2 : ∀ (K : Act → World → Prop) (a : Act) (w : World) (B : Nat), a.eval (.tmp e2) = ptrB B → a.eval (.tmp d2) = pairV x2 y2 → AtB B 0 0 w → K a (setTwo w B x2 y2) → wpOp P ops Q 19 K a w)
    (hs3 : ∀ (K : Act → World → Prop) (a : Act) (w : World) (B : Nat), a.eval (.tmp e3) = ptrB B → a.eval (.tmp d3) = pairV x3 y3 → AtB B 0 0 w → K a (setTwo w B x3 y3) → wpOp P ops Q 20 K a w)
    (hend : ∀ (B1 B2 B3 : Nat) (w : World), Grown W w → AtB B1 x1 y1 w → AtB B2 x2 y2 w → AtB B3 x3 y3 w → Q .normal (actM a0 d1 d2 d3 e1 e2 e3 (pairV x1 y1) (pairV x2 y2) (pairV x3 y3) 3 true true true B1 B2 B3) w) :
    ∀ (fuel x s : Nat) (b1 b2 b3 : Bool) (B1 B2 B3 : Nat) (a : Act) (w : World), x ≤ 3 → (s = 0 ∨ (s ≤ 3 ∧ x = 3 ∧ b1 = true ∧ b2 = true ∧ b3 = true)) →
      St W a0 d1 d2 d3 e1 e2 e3 x1 y1 x2 y2 x3 y3 x s b1 b2 b3 B1 B2 B3 a w → (3 - x) + (3 - s) + (!b1).toNat + (!b2).toNat + (!b3).toNat ≤ fuel →
      wpAnyH P .any ops Q S fuel (Lst x s b1 b2 b3) a w := by
  intro fuel
  have hfin : ∀ (x s : Nat) (b1 b2 b3 : Bool) (B1 B2 B3 : Nat) (a : Act) (w : World), St W a0 d1 d2 d3 e1 e2 e3 x1 y1 x2 y2 x3 y3 x s b1 b2 b3 B1 B2 B3 a w → (x == 3 && s == 3 && b1 && b2 && b3) = true → Q .normal a w := by
    intro x s b1 b2 b3 B1 B2 B3 a w h hb
    simp only [Bool.and_eq_true, beq_iff_eq] at hb
    obtain ⟨⟨⟨⟨rfl, rfl⟩, rfl⟩, rfl⟩, rfl⟩ := hb
    rw [h.act]
    exact hend B1 B2 B3 w h.g (by simpa using (h.n1 rfl).2) (by simpa using (h.n2 rfl).2) (by simpa using (h.n3 rfl).2)
  induction fuel with
  | zero =>
    intro x s b1 b2 b3 B1 B2 B3 a w hx hs h hf
    have hok := okReady_spec hr x s b1 b2 b3 hx hs
    have hx3 : x = 3 := by omega
    have hs3 : s = 3 := by omega
    have hb : b1 = true ∧ b2 = true ∧ b3 = true := by
      cases b1 <;> cases b2 <;> cases b3 <;> simp_all
    obtain ⟨rfl, rfl, rfl⟩ := hb
    subst hx3 hs3
    refine ⟨?_, hfin _ _ _ _ _ _ _ _ _ _ h (by simp)⟩
    simp only [okState, Bool.and_eq_true, List.all_eq_true] at hok
    rcases hl : Region.ready .any ops (Lst 3 3 true true true) with _ | ⟨i, r⟩
    · rfl
    · have := hok.1 i (by rw [hl]; simp)
      simp [mayCome] at this
  | succ fuel ih =>
    intro x s b1 b2 b3 B1 B2 B3 a w hx hs h hf
    have hok := okReady_spec hr x s b1 b2 b3 hx hs
    simp only [okState, Bool.and_eq_true, List.all_eq_true, Bool.or_eq_true] at hok
    obtain ⟨hok1, hok2⟩ := hok
    refine ⟨fun h0 => hfin _ _ _ _ _ _ _ _ _ _ h (by rw [h0] at hok2; simpa using hok2), fun i hi => ?_⟩
    have hm := hok1 i hi
    clear hok1 hok2 hi
    simp only [mayCome, Bool.or_eq_true, Bool.and_eq_true, beq_iff_eq, Bool.not_eq_true'] at hm
    obtain ⟨n12, n13, n14, n15, n16, n23, n24, n25, n26, n34, n35, n36, n45, n46, n56⟩ := hd
    obtain ⟨z1, z2, z3, z4, z5, z6⟩ := hz
    have hev : ∀ t, d1 ≠ t → d2 ≠ t → d3 ≠ t → e1 ≠ t → e2 ≠ t → e3 ≠ t → a.eval (.tmp t) = a0.eval (.tmp t) := by
      intro t k1 k2 k3 k4 k5 k6
      rw [h.act]; unfold actM
      rw [eval_pif k6, eval_pif k5, eval_pif k4, eval_pif k3, eval_pif k2, eval_pif k1]
    obtain ⟨hact, hg, hn1, hn2, hn3, hd12, hd13, hd23⟩ := h
    rcases hm with (((((((⟨rfl, rfl⟩ | ⟨rfl, rfl⟩) | ⟨rfl, rfl⟩) | ⟨rfl, rfl⟩) | ⟨rfl, rfl⟩) | ⟨rfl, rfl⟩) | ⟨⟨⟨⟨⟨rfl, rfl⟩, rfl⟩, rfl⟩, rfl⟩, rfl⟩) | ⟨⟨⟨⟨⟨rfl, rfl⟩, rfl⟩, rfl⟩, rfl⟩, rfl⟩) | ⟨⟨⟨⟨⟨rfl, rfl⟩, rfl⟩, rfl⟩, rfl⟩, rfl⟩
    · have hs0 : s = 0 := by rcases hs with h | ⟨_, h, _⟩ <;> omega
      refine hc1 _ a w hev (fun w' gw => ⟨hS _ (grown_trans hg gw), ?_⟩)
      refine ih 1 s b1 b2 b3 B1 B2 B3 _ w' (by omega) (.inl hs0) ⟨?_, grown_trans hg gw, fun hb => ⟨(hn1 hb).1, (hn1 hb).2.go gw⟩, fun hb => ⟨(hn2 hb).1, (hn2 hb).2.go gw⟩, fun hb => ⟨(hn3 hb).1, (hn3 hb).2.go gw⟩, hd12, hd13, hd23⟩ (by omega)
      rw [hact]; unfold actM
      rw [pif_put (Ne.symm n16), pif_put (Ne.symm n15), pif_put (Ne.symm n14), pif_put (Ne.symm n13), pif_put (Ne.symm n12)]
      rfl
    · have hs0 : s = 0 := by rcases hs with h | ⟨_, h, _⟩ <;> omega
      refine hc2 _ a w hev (fun w' gw => ⟨hS _ (grown_trans hg gw), ?_⟩)
      refine ih 2 s b1 b2 b3 B1 B2 B3 _ w' (by omega) (.inl hs0) ⟨?_, grown_trans hg gw, fun hb => ⟨(hn1 hb).1, (hn1 hb).2.go gw⟩, fun hb => ⟨(hn2 hb).1, (hn2 hb).2.go gw⟩, fun hb => ⟨(hn3 hb).1, (hn3 hb).2.go gw⟩, hd12, hd13, hd23⟩ (by omega)
      rw [hact]; unfold actM
      rw [pif_put (Ne.symm n26), pif_put (Ne.symm n25), pif_put (Ne.symm n24), pif_put (Ne.symm n23)]
      rfl
    · have hs0 : s = 0 := by rcases hs with h | ⟨_, h, _⟩ <;> omega
      refine hc3 _ a w hev (fun w' gw => ⟨hS _ (grown_trans hg gw), ?_⟩)
      refine ih 3 s b1 b2 b3 B1 B2 B3 _ w' (by omega) (.inl hs0) ⟨?_, grown_trans hg gw, fun hb => ⟨(hn1 hb).1, (hn1 hb).2.go gw⟩, fun hb => ⟨(hn2 hb).1, (hn2 hb).2.go gw⟩, fun hb => ⟨(hn3 hb).1, (hn3 hb).2.go gw⟩, hd12, hd13, hd23⟩ (by omega)
      rw [hact]; unfold actM
      rw [pif_put (Ne.symm n36), pif_put (Ne.symm n35), pif_put (Ne.symm n34)]
      rfl
    · have hs0 : s = 0 := by
        rcases hs with h | ⟨_, _, h1, h2, h3⟩
        · exact h
        · cases h1
      subst hs0
      have ga : Grown w (w.alloc (.cells #[.int .i64 0, .int .i64 0] T)) := (Grown.refl w).alloc _ _
      refine ha1 _ a w ⟨hS _ (grown_trans hg ga), ?_⟩
      refine ih x 0 true b2 b3 w.heap.size B2 B3 _ _ hx (.inl rfl) ⟨?_, grown_trans hg ga, fun _ => ⟨hg.2.2, by simpa using AtB.fresh w T⟩, fun hb => ⟨(hn2 hb).1, (hn2 hb).2.go ga⟩, fun hb => ⟨(hn3 hb).1, (hn3 hb).2.go ga⟩, fun _ hb => Nat.ne_of_gt (hn2 hb).2.lt, fun _ hb => Nat.ne_of_gt (hn3 hb).2.lt, hd23⟩ (by simp at hf ⊢; omega)
      rw [hact]; unfold actM
      rw [pif_put (Ne.symm n46), pif_put (Ne.symm n45)]
      rfl
    · have hs0 : s = 0 := by
        rcases hs with h | ⟨_, _, h1, h2, h3⟩
        · exact h
        · cases h2
      subst hs0
      have ga : Grown w (w.alloc (.cells #[.int .i64 0, .int .i64 0] T)) := (Grown.refl w).alloc _ _
      refine ha2 _ a w ⟨hS _ (grown_trans hg ga), ?_⟩
      refine ih x 0 b1 true b3 B1 w.heap.size B3 _ _ hx (.inl rfl) ⟨?_, grown_trans hg ga, fun hb => ⟨(hn1 hb).1, (hn1 hb).2.go ga⟩, fun _ => ⟨hg.2.2, by simpa using AtB.fresh w T⟩, fun hb => ⟨(hn3 hb).1, (hn3 hb).2.go ga⟩, fun hb _ => Nat.ne_of_lt (hn1 hb).2.lt, hd13, fun _ hb => Nat.ne_of_gt (hn3 hb).2.lt⟩ (by simp at hf ⊢; omega)
      rw [hact]; unfold actM
      rw [pif_put (Ne.symm n56)]
      rfl
    · have hs0 : s = 0 := by
        rcases hs with h | ⟨_, _, h1, h2, h3⟩
        · exact h
        · cases h3
      subst hs0
      have ga : Grown w (w.alloc (.cells #[.int .i64 0, .int .i64 0] T)) := (Grown.refl w).alloc _ _
      refine ha3 _ a w ⟨hS _ (grown_trans hg ga), ?_⟩
      refine ih x 0 b1 b2 true B1 B2 w.heap.size _ _ hx (.inl rfl) ⟨?_, grown_trans hg ga, fun hb => ⟨(hn1 hb).1, (hn1 hb).2.go ga⟩, fun hb => ⟨(hn2 hb).1, (hn2 hb).2.go ga⟩, fun _ => ⟨hg.2.2, by simpa using AtB.fresh w T⟩, hd12, fun hb _ => Nat.ne_of_lt (hn1 hb).2.lt, fun hb _ => Nat.ne_of_lt (hn2 hb).2.lt⟩ (by simp at hf ⊢; omega)
      rw [hact]; unfold actM
      rfl
    · have gs : Grown W (setTwo w B1 x1 y1) := (hg.setCell (hn1 rfl).1 _).setCell (hn1 rfl).1 _
      refine hs1 _ a w B1 ?_ ?_ (by simpa using (hn1 rfl).2) ⟨hS _ gs, ?_⟩
      · rw [hact]; unfold actM; rw [eval_pif (Ne.symm n46), eval_pif (Ne.symm n45)]
        exact eval_put_same (by (try simp only [size_pif]); exact z4)
      · rw [hact]; unfold actM; rw [eval_pif (Ne.symm n16), eval_pif (Ne.symm n15), eval_pif (Ne.symm n14), eval_pif (Ne.symm n13), eval_pif (Ne.symm n12)]
        exact eval_put_same (by (try simp only [size_pif]); exact z1)
      exact ih 3 1 true true true B1 B2 B3 _ _ (by omega) (.inr ⟨by omega, rfl, rfl, rfl, rfl⟩) ⟨hact, gs, fun _ => ⟨(hn1 rfl).1, by simpa using (hn1 rfl).2.same⟩, fun _ => ⟨(hn2 rfl).1, by simpa using (hn2 rfl).2.far (x := _) (hd12 rfl rfl)⟩, fun _ => ⟨(hn3 rfl).1, by simpa using (hn3 rfl).2.far (x := _) (hd13 rfl rfl)⟩, hd12, hd13, hd23⟩ (by omega)
    · have gs : Grown W (setTwo w B2 x2 y2) := (hg.setCell (hn2 rfl).1 _).setCell (hn2 rfl).1 _
      refine hs2 _ a w B2 ?_ ?_ (by simpa using (hn2 rfl).2) ⟨hS _ gs, ?_⟩
      · rw [hact]; unfold actM; rw [eval_pif (Ne.symm n56)]
        exact eval_put_same (by (try simp only [size_pif]); exact z5)
      · rw [hact]; unfold actM; rw [eval_pif (Ne.symm n26), eval_pif (Ne.symm n25), eval_pif (Ne.symm n24), eval_pif (Ne.symm n23)]
        exact eval_put_same (by (try simp only [size_pif]); exact z2)
      exact ih 3 2 true true true B1 B2 B3 _ _ (by omega) (.inr ⟨by omega, rfl, rfl, rfl, rfl⟩) ⟨hact, gs, fun _ => ⟨(hn1 rfl).1, by simpa using (hn1 rfl).2.far (x := _) (Ne.symm (hd12 rfl rfl))⟩, fun _ => ⟨(hn2 rfl).1, by simpa using (hn2 rfl).2.same⟩, fun _ => ⟨(hn3 rfl).1, by simpa using (hn3 rfl).2.far (x := _) (hd23 rfl rfl)⟩, hd12, hd13, hd23⟩ (by omega)
    · have gs : Grown W (setTwo w B3 x3 y3) := (hg.setCell (hn3 rfl).1 _).setCell (hn3 rfl).1 _
      refine hs3 _ a w B3 ?_ ?_ (by simpa using (hn3 rfl).2) ⟨hS _ gs, ?_⟩
      · rw [hact]; unfold actM
        exact eval_put_same (by (try simp only [size_pif]); exact z6)
      · rw [hact]; unfold actM; rw [eval_pif (Ne.symm n36), eval_pif (Ne.symm n35), eval_pif (Ne.symm n34)]
        exact eval_put_same (by (try simp only [size_pif]); exact z3)
      exact ih 3 3 true true true B1 B2 B3 _ _ (by omega) (.inr ⟨by omega, rfl, rfl, rfl, rfl⟩) ⟨hact, gs, fun _ => ⟨(hn1 rfl).1, by simpa using (hn1 rfl).2.far (x := _) (Ne.symm (hd13 rfl rfl))⟩, fun _ => ⟨(hn2 rfl).1, by simpa using (hn2 rfl).2.far (x := _) (Ne.symm (hd23 rfl rfl))⟩, fun _ => ⟨(hn3 rfl).1, by simpa using (hn3 rfl).2.same⟩, hd12, hd13, hd23⟩ (by omega)

end

end Go.Proofs.Ytgbjooecomgfoaa
