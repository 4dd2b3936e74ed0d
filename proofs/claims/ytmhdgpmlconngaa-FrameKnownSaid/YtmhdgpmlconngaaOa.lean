/-
  Twelve frames in a block; frames that are not valid; strings that are not decoded.
-/
import Derived.Test.YtmhdgpmlconngaaGb
namespace Go.Proofs.Ytmhdgpmlconngaa
open Go.RowKit Go.Proofs.Ytmhdgpmlconngaa.Cr

/-- Twelve rows of nine cells in block c. -/
def Tv (w : World) (c : Nat) (V : Nat → Nat → Value) : Prop := c < w.heap.size ∧ ∀ j, j < 12 → ∀ i, i < 9 → w.cell? ⟨c, j * 9 + i, none⟩ = some (V j i) ∧ w.frozen? ⟨c, j * 9 + i, none⟩ = false
theorem Tv.set {w : World} {c : Nat} {V : Nat → Nat → Value} (h : Tv w c V) {j i : Nat} (hj : j < 12) (hi : i < 9) (x : Value) : Tv (w.setCell ⟨c, j * 9 + i, none⟩ x) c (fun m n => if m = j ∧ n = i then x else V m n) := by
  refine ⟨by rw [World.size_setCell]; exact h.1, fun m hm n hn => ⟨?_, by rw [World.frozen?_setCell]; exact (h.2 m hm n hn).2⟩⟩
  by_cases e : m = j ∧ n = i
  · obtain ⟨rfl, rfl⟩ := e
    rw [World.cell?_setCell_same _ _ _ (h.2 m hm n hn).1]; exact congrArg some (if_pos ⟨rfl, rfl⟩).symm
  · rw [World.cell?_setCell_other _ _ _ _ (by intro h'; injection h' with _ h'; exact e ⟨by omega, by omega⟩)]
    exact (h.2 m hm n hn).1.trans (congrArg some (if_neg e).symm)
theorem Tv.congr {w : World} {c : Nat} {V U : Nat → Nat → Value} (h : Tv w c V) (e : ∀ j, j < 12 → ∀ i, i < 9 → V j i = U j i) : Tv w c U := ⟨h.1, fun j hj i hi => ⟨(h.2 j hj i hi).1.trans (congrArg some (e j hj i hi)), (h.2 j hj i hi).2⟩⟩
theorem Tv.bl {w w' : World} {c : Nat} {V : Nat → Nat → Value} (h : Tv w c V) (g : Bl w w') : Tv w' c V :=
  ⟨Nat.lt_of_lt_of_le h.1 g.size, fun j hj i hi => ⟨(g.cell (p := ⟨c, j * 9 + i, none⟩) h.1).trans (h.2 j hj i hi).1, (g.frozen (p := ⟨c, j * 9 + i, none⟩) h.1).trans (h.2 j hj i hi).2⟩⟩
theorem Tv.new (w : World) (cs : Array Value) (t : TypeId) (hs : cs.size = 108) : ∃ V, Tv (w.alloc (.cells cs t)) w.heap.size V := by
  refine ⟨fun j i => cs.getD (j * 9 + i) undef, by rw [World.size_alloc]; omega, fun j hj i hi => ?_⟩
  have hg := heap_alloc_new w (.cells cs t)
  have hl : j * 9 + i < cs.size := by omega
  refine ⟨?_, frozen_of_row _ _ _ _ _ hg⟩
  rw [cell_of_row _ _ _ _ _ _ hg]
  simp [hl]
/-- A frame and twelve rows, each in a block of its own. -/
structure Kw (U w : World) (a c : Nat) (f : Fr) (V : Nat → Nat → Value) : Prop where
  own : Fb w a f
  row : Tv w c V
  bl : Bl U w
theorem Kw.set {U w : World} {a c : Nat} {f : Fr} {V : Nat → Nat → Value} (h : Kw U w a c f V) (hac : c ≠ a) (hu : U.heap.size ≤ c) {j i : Nat} (hj : j < 12) (hi : i < 9) (x : Value) : Kw U (w.setCell ⟨c, j * 9 + i, none⟩ x) a c f (fun m n => if m = j ∧ n = i then x else V m n) :=
  ⟨h.own.far (p := ⟨c, j * 9 + i, none⟩) hac x, h.row.set hj hi x, h.bl.setCell (p := ⟨c, j * 9 + i, none⟩) hu x⟩
theorem Kw.congr {U w : World} {a c : Nat} {f : Fr} {V V' : Nat → Nat → Value} (h : Kw U w a c f V) (e : ∀ j, j < 12 → ∀ i, i < 9 → V j i = V' j i) : Kw U w a c f V' := ⟨h.own, h.row.congr e, h.bl⟩
theorem Kw.step {U w w' : World} {a c : Nat} {f : Fr} {V : Nat → Nat → Value} (h : Kw U w a c f V) (g : Bl w w') : Kw U w' a c f V := ⟨h.own.bl g, h.row.bl g, Bl.trans h.bl g⟩
/-- The first k rows are a frame. -/
def firstV (k : Nat) (f : Fr) (V : Nat → Nat → Value) (m n : Nat) : Value := if m < k then frC f n else V m n
def fw9 (w : World) (c o : Nat) (f : Fr) : World := ((((((((w.setCell ⟨c, o, none⟩ (.int .i64 f.dst)).setCell ⟨c, o + 1, none⟩ (.int .i64 f.src)).setCell ⟨c, o + 2, none⟩ (.bool f.tag)).setCell ⟨c, o + 3, none⟩ (.int .i64 f.prio)).setCell ⟨c, o + 4, none⟩ (.int .i64 f.vid)).setCell ⟨c, o + 5, none⟩ (.bool f.red)).setCell ⟨c, o + 6, none⟩ (.int .i64 f.seq)).setCell ⟨c, o + 7, none⟩ (.int .i64 f.typ)).setCell ⟨c, o + 8, none⟩ (.string f.data)
theorem Kw.row9 {U w : World} {a c : Nat} {f g : Fr} {V : Nat → Nat → Value} {k : Nat} (h : Kw U w a c g (firstV k f V)) (hac : c ≠ a) (hu : U.heap.size ≤ c) (hk : k < 12) : Kw U (fw9 w c (k * 9) f) a c g (firstV (k + 1) f V) := by
  refine Kw.congr (((((((((h.set hac hu hk (i := 0) (by decide) (.int .i64 f.dst)).set hac hu hk (i := 1) (by decide) (.int .i64 f.src)).set hac hu hk (i := 2) (by decide) (.bool f.tag)).set hac hu hk (i := 3) (by decide) (.int .i64 f.prio)).set hac hu hk (i := 4) (by decide) (.int .i64 f.vid)).set hac hu hk (i := 5) (by decide) (.bool f.red)).set hac hu hk (i := 6) (by decide) (.int .i64 f.seq)).set hac hu hk (i := 7) (by decide) (.int .i64 f.typ)).set hac hu hk (i := 8) (by decide) (.string f.data)) ?_
  intro m hm
  by_cases e : m = k
  · subst e
    exact nine_cases (by simp [firstV, frC]) (by simp [firstV, frC]) (by simp [firstV, frC]) (by simp [firstV, frC]) (by simp [firstV, frC]) (by simp [firstV, frC]) (by simp [firstV, frC]) (by simp [firstV, frC]) (by simp [firstV, frC])
  · intro n hn
    have e1 : (m < k + 1) = (m < k) := by apply propext; omega
    simp [firstV, e, e1]
theorem Tv.cells {w : World} {c : Nat} {V : Nat → Nat → Value} (h : Tv w c V) {j : Nat} (hj : j < 12) : w.cell? ⟨c, j * 9, none⟩ = some (V j 0) ∧ w.cell? ⟨c, j * 9 + 1, none⟩ = some (V j 1) ∧ w.cell? ⟨c, j * 9 + 2, none⟩ = some (V j 2) ∧ w.cell? ⟨c, j * 9 + 3, none⟩ = some (V j 3) ∧ w.cell? ⟨c, j * 9 + 4, none⟩ = some (V j 4) ∧ w.cell? ⟨c, j * 9 + 5, none⟩ = some (V j 5) ∧ w.cell? ⟨c, j * 9 + 6, none⟩ = some (V j 6) ∧ w.cell? ⟨c, j * 9 + 7, none⟩ = some (V j 7) ∧ w.cell? ⟨c, j * 9 + 8, none⟩ = some (V j 8) :=
  ⟨(h.2 j hj 0 (by decide)).1, (h.2 j hj 1 (by decide)).1, (h.2 j hj 2 (by decide)).1, (h.2 j hj 3 (by decide)).1, (h.2 j hj 4 (by decide)).1, (h.2 j hj 5 (by decide)).1, (h.2 j hj 6 (by decide)).1, (h.2 j hj 7 (by decide)).1, (h.2 j hj 8 (by decide)).1⟩
theorem Tv.frozen {w : World} {c : Nat} {V : Nat → Nat → Value} (h : Tv w c V) {j : Nat} (hj : j < 12) : w.frozen? ⟨c, j * 9, none⟩ = false ∧ w.frozen? ⟨c, j * 9 + 1, none⟩ = false ∧ w.frozen? ⟨c, j * 9 + 2, none⟩ = false ∧ w.frozen? ⟨c, j * 9 + 3, none⟩ = false ∧ w.frozen? ⟨c, j * 9 + 4, none⟩ = false ∧ w.frozen? ⟨c, j * 9 + 5, none⟩ = false ∧ w.frozen? ⟨c, j * 9 + 6, none⟩ = false ∧ w.frozen? ⟨c, j * 9 + 7, none⟩ = false ∧ w.frozen? ⟨c, j * 9 + 8, none⟩ = false :=
  ⟨(h.2 j hj 0 (by decide)).2, (h.2 j hj 1 (by decide)).2, (h.2 j hj 2 (by decide)).2, (h.2 j hj 3 (by decide)).2, (h.2 j hj 4 (by decide)).2, (h.2 j hj 5 (by decide)).2, (h.2 j hj 6 (by decide)).2, (h.2 j hj 7 (by decide)).2, (h.2 j hj 8 (by decide)).2⟩

/-- The frames that are not valid. -/
def badF : Nat → Fr
  | 0 => { helF with dst := -1 }
  | 1 => { helF with dst := 281474976710656 }
  | 2 => { helF with src := 281474976710656 }
  | 3 => { helF with typ := 65536 }
  | 4 => { helF with tag := true, prio := 8 }
  | 5 => { helF with tag := true, vid := 4095 }
  | 6 => { helF with prio := 1 }
  | 7 => { helF with seq := 1 }
  | 8 => { helF with red := true, seq := 65536 }
  | 9 => { helF with typ := 61889 }
  | 10 => { helF with data := cop 120 1501 }
  | _ => { helF with red := true, data := cop 120 1495 }
theorem badF_no (k : Nat) (hk : k < 12) : okB (badF k) = false := by
  match k, hk with
  | 0, _ => decide
  | 1, _ => decide
  | 2, _ => decide
  | 3, _ => decide
  | 4, _ => decide
  | 5, _ => decide
  | 6, _ => decide
  | 7, _ => decide
  | 8, _ => decide
  | 9, _ => decide
  | 10, _ => exact ok_5 (f := badF 10) (by show ¬ ((cop 120 1501).size : Int) ≤ rm false; rw [cop_size]; decide)
  | 11, _ => exact ok_5 (f := badF 11) (by show ¬ ((cop 120 1495).size : Int) ≤ rm true; rw [cop_size]; decide)

theorem bad_cells {w : World} {c : Nat} (h : Tv w c (fun j i => frC (badF j) i)) {j : Nat} (hj : j < 12) {f : Fr} (e : badF j = f) : w.cell? ⟨c, j * 9, none⟩ = some (.int .i64 f.dst) ∧ w.cell? ⟨c, j * 9 + 1, none⟩ = some (.int .i64 f.src) ∧ w.cell? ⟨c, j * 9 + 2, none⟩ = some (.bool f.tag) ∧ w.cell? ⟨c, j * 9 + 3, none⟩ = some (.int .i64 f.prio) ∧ w.cell? ⟨c, j * 9 + 4, none⟩ = some (.int .i64 f.vid) ∧ w.cell? ⟨c, j * 9 + 5, none⟩ = some (.bool f.red) ∧ w.cell? ⟨c, j * 9 + 6, none⟩ = some (.int .i64 f.seq) ∧ w.cell? ⟨c, j * 9 + 7, none⟩ = some (.int .i64 f.typ) ∧ w.cell? ⟨c, j * 9 + 8, none⟩ = some (.string f.data) := by
  subst e
  exact h.cells hj

/-- Octets that no valid frame has. -/
def noB (s : ByteArray) : Bool := match prs s with
  | none => true
  | some f => !okB f || !decide (bod f = s)
theorem noB_dec {s : ByteArray} (h : noB s = true) : dec (sealB s 0) = none := by
  unfold dec
  rw [bef_seal']
  unfold noB at h
  split
  · cases hp : prs s with
    | none => rfl
    | some f =>
      rw [hp] at h
      simp only [Bool.or_eq_true, Bool.not_eq_true'] at h
      rcases h with h | h
      · simp [h]
      · have hne : ¬ bod f = s := of_decide_eq_false h
        simp [hne]
  · rfl
def hed : ByteArray := ⟨#[0, 0, 0, 0, 0, 1, 0, 0, 0, 0, 0, 2]⟩
def bent (h : ByteArray) : ByteArray := (hed ++ h ++ cop 0 60).extract 0 60
theorem bent_1 : noB (bent ⟨#[5, 221]⟩) = true := by decide +kernel
theorem bent_2 : noB (bent ⟨#[5, 255]⟩) = true := by decide +kernel
theorem bent_3 : noB (bent ⟨#[0, 0, 1]⟩) = true := by decide +kernel
theorem bent_4 : noB (bent ⟨#[129, 0, 15, 255, 8, 0]⟩) = true := by decide +kernel
theorem bent_5 : noB (bent ⟨#[129, 0, 16, 0, 8, 0]⟩) = true := by decide +kernel
theorem bent_6 : noB (bent ⟨#[241, 193, 0, 1, 0, 0, 8, 0]⟩) = true := by decide +kernel
theorem bent_7 : noB (bent ⟨#[129, 0, 0, 1, 129, 0]⟩) = true := by decide +kernel
theorem long_1 : noB (hed ++ ⟨#[0, 0]⟩ ++ cop 0 60) = true := by decide +kernel
def lonS : ByteArray := hed ++ ⟨#[8, 0]⟩ ++ cop 120 1501
theorem lonS_size : lonS.size = 1515 := by unfold lonS; rw [ByteArray.size_append, ByteArray.size_append, cop_size]; rfl
theorem lonS_list : lonS.data.toList = hed.data.toList ++ ((be 2048 2).data.toList ++ (cop 120 1501).data.toList) := by
  have h : (be 2048 2) = ⟨#[8, 0]⟩ := by decide
  rw [h]
  unfold lonS
  rw [app_list, app_list, List.append_assoc]
theorem long_2 : dec (sealB lonS 0) = none := dec_none fun f hf => by
  obtain ⟨h1, h2, h3⟩ := hf
  have hb : bod f = lonS := by
    have h := congrArg bef h3
    unfold enc at h
    rw [bef_seal', bef_seal'] at h
    exact h
  have hs : lonS.data.toList = (bod f).data.toList ++ [] := by rw [hb, List.append_nil]
  have hr : rd lonS 12 2 = 2048 := rd_at (n := 2048) lonS_list rfl (by decide) (by decide)
  have ht : f.tag = false := by
    rcases bcase f.tag with h | h
    · exfalso
      have := rd_tag h hs
      omega
    · exact h
  have hd : f.red = false := by
    rcases bcase f.red with h | h
    · exfalso
      have h4 := rd_red h hs
      rw [ht] at h4
      have h5 : rd lonS 12 2 = 61889 := h4
      omega
    · exact h
  have hy := rd_typ h1 hs
  have ha : tyA f = 12 := by unfold tyA; rw [ht, hd]; rfl
  rw [ha, hr] at hy
  have hsz := bod_size f
  have hh : hdr f = 14 := by unfold hdr; rw [ht, hd]; rfl
  rw [hb, lonS_size, hh] at hsz
  have hds := h1.size
  unfold tl at hy
  split at hy <;> omega
theorem seven_heads (k : Nat) (hk : k < 7) :
    ∃ z : ByteArray, (z.size ≤ 8 ∧ 2 ≤ z.size) ∧ noB (bent z) = true ∧ ∀ w, (Instr.index 55 (.agg #[.string ⟨#[5, 221]⟩, .string ⟨#[5, 255]⟩, .string ⟨#[0, 0, 1]⟩, .string ⟨#[129, 0, 15, 255, 8, 0]⟩, .string ⟨#[129, 0, 16, 0, 8, 0]⟩, .string ⟨#[241, 193, 0, 1, 0, 0, 8, 0]⟩, .string ⟨#[129, 0, 0, 1, 129, 0]⟩]) (.int .i64 k)).run Try.prog w = .ok (.string z) w := by
  match k, hk with
  | 0, _ => exact ⟨_, by decide, bent_1, fun _ => by kernel_rfl⟩
  | 1, _ => exact ⟨_, by decide, bent_2, fun _ => by kernel_rfl⟩
  | 2, _ => exact ⟨_, by decide, bent_3, fun _ => by kernel_rfl⟩
  | 3, _ => exact ⟨_, by decide, bent_4, fun _ => by kernel_rfl⟩
  | 4, _ => exact ⟨_, by decide, bent_5, fun _ => by kernel_rfl⟩
  | 5, _ => exact ⟨_, by decide, bent_6, fun _ => by kernel_rfl⟩
  | 6, _ => exact ⟨_, by decide, bent_7, fun _ => by kernel_rfl⟩

/-- The greatest frame. -/
def fulF : Fr := ⟨281474976710655, 281474976710655, true, 7, 4094, true, 65535, 65535, cop 121 1494⟩
theorem ful_ok : Ok fulF := ⟨by decide, by decide, by decide, by decide, by decide, by decide, by show ((cop 121 1494).size : Int) ≤ 1494; rw [cop_size]; decide⟩
theorem ful_pad : pad fulF = fulF := by
  unfold pad
  rw [if_neg (by decide), show 60 - (hdr fulF + fulF.data.size) = 0 by rw [show hdr fulF = 24 from rfl, show fulF.data.size = 1494 from cop_size _ _]]
  have h : fulF.data ++ cop 0 0 = fulF.data := by
    apply bytes_ext
    rw [app_list, cop_zero, List.append_nil]
  rw [h]
theorem ful_size : (1542 : Int) = ((bod fulF).size : Int) + 24 := by
  rw [bod_size, show hdr fulF = 24 from rfl, show fulF.data.size = 1494 from cop_size _ _]; decide
theorem zo_ok : Ok zoF := ok_iff.1 (by decide)
theorem zo_pad : pad zoF = zoF := by unfold pad; rw [if_pos (by decide)]
theorem zo_size : (84 : Int) = ((bod zoF).size : Int) + 24 := by rw [bod_size]; decide

end Go.Proofs.Ytmhdgpmlconngaa
