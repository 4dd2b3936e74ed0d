/-
  What Drain of package curve returns.
-/
import Derived.Test.YtgbbglnbolihfaaCi
import Derived.Test.YtgbbglnbolihfaaBp
import Derived.OwnWalk
namespace Go.Proofs.Ytgbbglnbolihfaa
open Go.RowKit Go.Shelf

theorem drain1_any (b : Nat) (A : Option Addr) (xs : List (Int × Int)) (cap : Nat) (w : World) (hn : (xs.length : Int) ≤ 9223372036854775807) (hT : Tr w A xs) (k0 : w.cell? ⟨b, 0, none⟩ = some (.slice A xs.length cap)) :
    Calls Try.prog 63 #[.pointer (some ⟨b, 0, none⟩)] w fun e w' => e = .returned (.int .i64 (rtE xs)) ∧ Bl w w' := by
  have K := Lib.hid (checkTrace_any xs A cap w hn hT)
  clear hT
  go_enter Try.func63, Try.ntmps63
  go_wp2_with fail
  refine K.out.mono ?_; rintro e w1 ⟨rfl, gr⟩
  have G := Lib.hid gr; clear gr
  go_wp2_with fail
  go_ret
  exact ⟨rfl, G.out⟩
theorem drain2_any (b : Nat) (r l : Int) (w : World) (k0 : w.cell? ⟨b, 0, none⟩ = some (.int .i64 r)) (k1 : w.cell? ⟨b, 1, none⟩ = some (.int .i64 l)) :
    Calls Try.prog 64 #[.pointer (some ⟨b, 0, none⟩)] w fun e w' => e = .returned (.int .i64 (svE r l)) ∧ Bl w w' := by
  have K := Lib.hid (scheck_any r l w)
  go_enter Try.func64, Try.ntmps64
  go_wp2_with fail
  refine K.out.mono ?_; rintro e w1 ⟨rfl, gr⟩
  have G := Lib.hid gr; clear gr
  go_wp2_with fail
  go_ret
  exact ⟨rfl, G.out⟩

/-- The busy time before arrival k. -/
def bz (xs : List (Int × Int)) (r : Int) : Nat → Int × Int
  | 0 => (0, 0)
  | k + 1 => (thS (bz xs r k).1 (bz xs r k).2 r (fs xs k), thO (bz xs r k).1 (bz xs r k).2 r (fs xs k) (sn xs k))
/-- The latest departure of arrival k. -/
def dep (xs : List (Int × Int)) (r l : Int) (k : Nat) : Int := bnd (bz xs r (k + 1)).1 (bz xs r (k + 1)).2 r + l
theorem bz_bd {xs : List (Int × Int)} {r : Int} {k : Nat} (h : ∀ j, j < k → okAt xs j) : (0 ≤ (bz xs r k).1 ∧ (bz xs r k).1 ≤ 1099511627776) ∧ 0 ≤ (bz xs r k).2 ∧ (bz xs r k).2 ≤ (k : Int) * 1048576 := by
  induction k with
  | zero =>
    have e1 : (bz xs r 0).1 = 0 := rfl
    have e2 : (bz xs r 0).2 = 0 := rfl
    rw [e1, e2]; omega
  | succ k ih =>
    have h1 := ih (fun j hj => h j (by omega))
    have h2 := h k (by omega)
    unfold okAt at h2
    have h3 := prev_bd (xs := xs) (k := k) (fun j hj => h j (by omega))
    show (0 ≤ thS _ _ _ _ ∧ thS _ _ _ _ ≤ _) ∧ 0 ≤ thO _ _ _ _ _ ∧ thO _ _ _ _ _ ≤ _
    unfold thS thO
    by_cases hc : bnd (bz xs r k).1 (bz xs r k).2 r ≤ fs xs k
    · rw [if_pos hc, if_pos hc]; omega
    · rw [if_neg hc, if_neg hc]; omega
def drE (xs : List (Int × Int)) (r l : Int) : Int := if rtB xs then svE r l else 131
theorem drE_eq (xs : List (Int × Int)) (r l : Int) : (if rtE xs = 0 then svE r l else rtE xs) = drE xs r l := by
  unfold drE rtE
  rcases bcase (rtB xs) with h | h <;> simp [h]
theorem drE_ok {xs : List (Int × Int)} {r l : Int} : drE xs r l = 0 ↔ rtB xs = true ∧ svB r l = true := by
  unfold drE svE
  rcases bcase (rtB xs) with h | h
  · rcases bcase (svB r l) with h' | h' <;> simp [h, h']
  · simp [h]
/-- What Drain's first result is. -/
def DrV (base : Nat) (xs : List (Int × Int)) (r l : Int) (w' : World) (v : Value) : Prop :=
  (drE xs r l ≠ 0 ∧ v = .slice none 0 0) ∨ (drE xs r l = 0 ∧ ∃ b, v = .slice (some ⟨b, 0, none⟩) xs.length xs.length ∧ base ≤ b ∧ Iv w' (some ⟨b, 0, none⟩) xs.length (dep xs r l))

/-- A block of n integers of one's own, of which k are as wanted. -/
structure Ow (b n k : Nat) (f : Nat → Int) (w : World) : Prop where
  lt : b < w.heap.size
  there : ∀ j, j < n → ∃ v, w.cell? ⟨b, j, none⟩ = some v
  fr : ∀ j, j < n → w.frozen? ⟨b, j, none⟩ = false
  cell : ∀ j, j < k → w.cell? ⟨b, j, none⟩ = some (.int .i64 (f j))
theorem Ow.go {b n k : Nat} {f : Nat → Int} {w w' : World} (h : Ow b n k f w) (g : Bl w w') : Ow b n k f w' :=
  ⟨Nat.lt_of_lt_of_le h.lt g.size, fun j hj => (g.cell (p := ⟨b, j, none⟩) h.lt).symm ▸ h.there j hj, fun j hj => (g.frozen (p := ⟨b, j, none⟩) h.lt).trans (h.fr j hj), fun j hj => (g.cell (p := ⟨b, j, none⟩) h.lt).trans (h.cell j hj)⟩
theorem Ow.far {b c n k : Nat} {f : Nat → Int} {w : World} (h : Ow b n k f w) (hne : b ≠ c) (i : Nat) (v : Value) : Ow b n k f (w.setCell ⟨c, i, none⟩ v) := by
  have hb := Below.heap_setCell w ⟨c, i, none⟩ v b hne
  exact ⟨by simpa [World.setCell] using h.lt, fun j hj => (by obtain ⟨u, hv⟩ := h.there j hj; exact ⟨u, (World.cell?_of_block (a := ⟨b, j, none⟩) hb).trans hv⟩), fun j hj => (World.frozen?_of_block (a := ⟨b, j, none⟩) hb).trans (h.fr j hj), fun j hj => (World.cell?_of_block (a := ⟨b, j, none⟩) hb).trans (h.cell j hj)⟩
theorem Ow.put {b n k : Nat} {f : Nat → Int} {w : World} (h : Ow b n k f w) (hk : k < n) : Ow b n (k + 1) f (w.setCell ⟨b, k, none⟩ (.int .i64 (f k))) := by
  have hs : (w.cell? ⟨b, k, none⟩).isSome = true := by obtain ⟨v, hv⟩ := h.there k hk; rw [hv]; rfl
  refine ⟨by simpa [World.setCell] using h.lt, fun j hj => ?_, fun j hj => ?_, fun j hj => ?_⟩
  · by_cases e : j = k
    · subst e; exact ⟨_, World.cell?_setCell_same' _ _ _ hs⟩
    · obtain ⟨v, hv⟩ := h.there j hj
      exact ⟨v, by simp [go_sem, hv]; try omega⟩
  · have := h.fr j hj
    simp [go_sem, this]
  · by_cases e : j = k
    · subst e; exact World.cell?_setCell_same' _ _ _ hs
    · have hv := h.cell j (by omega)
      simp [go_sem, hv]; try omega

theorem info_int : (Try.prog.info? 3).map (fun i => (i.zero, i.size, i.bytes)) = some (some (.int .i64 0), 1, 8) := by kernel_rfl
theorem ow_new {w w' : World} {b n : Nat} {f : Nat → Int} (h : w'.ownsRow b 3 1 (.slice (some ⟨b, 0, none⟩) n n) n (madeCells (Value.int .i64 0).cells (n * 1)).toList) (hg : w.grownBy w' none) : Ow b n 0 f w' ∧ Bl w w' := by
  have hbl : Bl w w' := ⟨hg.os, hg.tape, hg.output, hg.size, fun k hk => hg.block k hk (by simp)⟩
  rcases h.2 with ⟨e, _⟩ | ⟨g, cap, cur, e, _, hheap, hn, _, hsz, htake⟩
  · cases e
  · cases e
    have hc : ∀ j, j < n → ∃ v, w'.cell? ⟨b, j, none⟩ = some v := fun j hj => by
      have hj' : j < cur.size := by omega
      exact ⟨cur[j], by unfold World.cell?; simp [hheap, hj']⟩
    refine ⟨⟨heap_lt hheap, hc, fun j hj => ?_, fun j hj => absurd hj (by omega)⟩, hbl⟩
    unfold World.frozen?
    simp [hheap]

set_option maxRecDepth 100000 in
set_option maxHeartbeats 4000000 in
theorem drain_any (xs : List (Int × Int)) (A : Option Addr) (cap : Nat) (r l : Int) (w : World) (hn : (xs.length : Int) ≤ 9223372036854775807) (hT : Tr w A xs) :
    Calls Try.prog 40 #[.slice A xs.length cap, .agg #[.int .i64 r, .int .i64 l]] w fun e w' => ∃ v, e = .returned (.tuple #[v, .int .i64 (drE xs r l)]) ∧ DrV w.heap.size xs r l w' v ∧ Bl w w' := by
  have HT := Lib.hid hT; clear hT
  obtain ⟨i0, hi, hz0, hz1, hz2⟩ := info_parts info_int
  have HI := Lib.hid (And.intro hi (And.intro hz0 (And.intro hz1 hz2)))
  clear hi hz0 hz1 hz2
  have KF := Lib.hid (fun (bl bs c : Nat) (W : World) (g : Bl w W) (hc : c < W.heap.size) (k0 : W.cell? ⟨bl, 0, none⟩ = some (.slice A xs.length cap)) (k1 : W.cell? ⟨bs, 0, none⟩ = some (.int .i64 r)) (k2 : W.cell? ⟨bs, 1, none⟩ = some (.int .i64 l))
      (h0 : W.cell? ⟨c, 0, none⟩ = some (.func (.func 63) #[] #[.pointer (some ⟨bl, 0, none⟩)])) (h1 : W.cell? ⟨c, 1, none⟩ = some (.func (.func 64) #[] #[.pointer (some ⟨bs, 0, none⟩)])) =>
    (by
      have h := first2 (cap := 2) hc h0 h1 (enters_of Try.func63 (by kernel_rfl) rfl) (enters_of Try.func64 (by kernel_rfl) rfl)
        (fun w' g' => drain1_any bl A xs cap w' hn ((HT.out.go g).go g') ((g'.cell (p := ⟨bl, 0, none⟩) (cell_lt k0)).trans k0))
        (fun w' g' => drain2_any bs r l w' ((g'.cell (p := ⟨bs, 0, none⟩) (cell_lt k1)).trans k1) ((g'.cell (p := ⟨bs, 1, none⟩) (cell_lt k2)).trans k2))
      rw [drE_eq] at h; exact h : Calls Try.prog 52 #[.slice (some ⟨c, 0, none⟩) 2 2] W fun e w' => e = .returned (.int .i64 (drE xs r l)) ∧ Bl W w'))
  obtain ⟨E, hE⟩ : ∃ E, drE xs r l = E := ⟨_, rfl⟩
  rw [hE] at KF ⊢
  have HE := Lib.hid hE
  clear hE
  obtain ⟨base, hbase⟩ : ∃ base, w.heap.size = base := ⟨_, rfl⟩
  rw [hbase]
  have HBS := Lib.hid hbase
  clear hbase
  go_enter Try.func40, Try.ntmps40
  go_wp2_with fail
  refine Calls.mono (KF.out w.heap.size (w.heap.size + 1) _ _ ?_ ?_ ?_ ?_ ?_ ?_ ?_) ?_
  · repeat (first | exact Bl.refl _ | with_reducible refine Bl.alloc ?_ _)
  · simp <;> omega
  iterate 5 (· simp [go_sem])
  rintro e w1 ⟨rfl, gr⟩
  have G := Lib.hid (Bl.trans ((((Bl.refl w).alloc _).alloc _).alloc _) gr)
  have k0 := (gr.cell (p := ⟨w.heap.size, 0, none⟩) (by simp <;> omega)).trans (show _ = some (Value.slice A xs.length cap) by simp [go_sem])
  have k1 := (gr.cell (p := ⟨w.heap.size + 1, 0, none⟩) (by simp <;> omega)).trans (show _ = some (Value.int .i64 r) by simp [go_sem])
  have k2 := (gr.cell (p := ⟨w.heap.size + 1, 1, none⟩) (by simp <;> omega)).trans (show _ = some (Value.int .i64 l) by simp [go_sem])
  have T1 := Lib.hid (HT.out.go G.out)
  have HB := Lib.hid (show w.heap.size ≤ w1.heap.size from G.out.size)
  clear gr KF HT
  by_cases h0 : E = 0
  · subst h0
    obtain ⟨hv, hs⟩ := drE_ok.1 HE.out
    obtain ⟨hlen, hok⟩ := rtB_iff.1 hv
    obtain ⟨⟨r1, r2⟩, l1, l2⟩ := svB_iff.1 hs
    have OK := Lib.hid hok
    have HW := Lib.hid (show ∀ wr, Bl w1 wr → wr.cell? ⟨w.heap.size, 0, none⟩ = some (.slice A xs.length cap) ∧ wr.cell? ⟨w.heap.size + 1, 0, none⟩ = some (.int .i64 r) ∧ wr.cell? ⟨w.heap.size + 1, 1, none⟩ = some (.int .i64 l) from fun wr g => ⟨(g.cell (p := ⟨w.heap.size, 0, none⟩) (cell_lt k0)).trans k0, (g.cell (p := ⟨w.heap.size + 1, 0, none⟩) (cell_lt k1)).trans k1, (g.cell (p := ⟨w.heap.size + 1, 1, none⟩) (cell_lt k2)).trans k2⟩)
    have fin := Lib.hid (fun (b : Nat) (w' : World) (hb : w1.heap.size ≤ b) (hI : Iv w' (some ⟨b, 0, none⟩) xs.length (dep xs r l)) => (show DrV base xs r l w' (.slice (some ⟨b, 0, none⟩) xs.length xs.length) from .inr ⟨HE.out, b, rfl, HBS.out ▸ Nat.le_trans HB.out hb, hI⟩))
    clear hv hs hok HE HB HBS
    have hx1 : ((xs.length : Nat) : Int) ≤ 200 := by omega
    generalize w.heap.size = a at *
    go_wp2_with (at_make; refine wpList_make_full _ rfl _ _ _ rfl w1.heap.size 3 i0 (.int .i64 0) 1 Try.underlying74 HI.out.1 HI.out.2.1 HI.out.2.2.1 _ _ _ _ xs.length rfl rfl rfl rfl (by rw [HI.out.2.2.2]; omega) (by unfold maxLen; omega) (Nat.le_refl _) ?_; intro w2 hown hgrow; have OW := Lib.hid (ow_new (f := dep xs r l) hown hgrow); clear hown hgrow; obtain ⟨k0, k1, k2⟩ := HW.out w2 OW.out.2; have hsz := cell_lt k1; have hsz0 : a < w2.heap.size := by omega)
    have hA := (Sl.new w2 0 0 107)
    have hO := OW.out.1.go ((Bl.refl w2).alloc (.cells #[.int .i64 0, .int .i64 0] 107))
    have hB := OW.out.2.alloc (.cells #[.int .i64 0, .int .i64 0] 107)
    have hlo : w1.heap.size < w2.heap.size := OW.out.1.lt
    generalize (w2.alloc (.cells #[.int .i64 0, .int .i64 0] 107)) = W3 at *
    have PS := Lib.hid (fun (wx : World) (g : Bl w1 wx) (i : Nat) (v : Value) => g.setCell (p := ⟨w2.heap.size, i, none⟩) (Nat.le_of_lt hlo) v)
    have PO := Lib.hid (fun (wx : World) (g : Bl w1 wx) (i : Nat) (v : Value) => g.setCell (p := ⟨w1.heap.size, i, none⟩) (Nat.le_refl _) v)
    have hne : w2.heap.size ≠ w1.heap.size := by omega
    have hob : w1.heap.size ≤ w1.heap.size := Nat.le_refl _
    have FIN := Lib.hid (fun (w' : World) (h : Ow w1.heap.size xs.length xs.length (dep xs r l) w') => fin.out w1.heap.size w' hob (fun k hk => ⟨w1.heap.size, 0, rfl, by have := h.cell k hk; rw [Nat.zero_add]; exact this⟩))
    clear k0 k1 k2 hsz hsz0 OW fin hob hlo
    generalize w2.heap.size = bb at *
    generalize w1.heap.size = ob at *
    go_loopw [23] (fun iv wr => ∃ k : Nat, k ≤ xs.length ∧ iv = .int .i64 k ∧ Hid (Sl bb (bz xs r k).1 (bz xs r k).2 wr) ∧ Hid (Ow ob xs.length k (dep xs r l) wr) ∧ Hid (Bl w1 wr)) (fun iv _ => xs.length - (intOf iv).toNat)
    case atStart => exact ⟨0, by omega, rfl, hA, hO, hB⟩
    case round =>
      clear hA hO hB
      obtain ⟨k, hk, rfl, hA, hO, hw⟩ := hrel
      by_cases hlt : k < xs.length
      · obtain ⟨b, off, rfl, _, c0, c1⟩ := (T1.out.go hw.out) k hlt
        obtain ⟨_, k1, k2⟩ := HW.out wr hw.out
        have bd := bz_bd (xs := xs) (r := r) (k := k) (fun j hj => OK.out j (by omega))
        have bd2 := bz_bd (xs := xs) (r := r) (k := k + 1) (fun j hj => OK.out j (by omega))
        have ok := OK.out k hlt
        unfold okAt at ok
        obtain ⟨X, hX⟩ : ∃ X, (bz xs r (k + 1)).1 = X := ⟨_, rfl⟩
        obtain ⟨Y, hY⟩ : ∃ Y, (bz xs r (k + 1)).2 = Y := ⟨_, rfl⟩
        have hX2 : thS (bz xs r k).1 (bz xs r k).2 r (fs xs k) = X := hX
        have hY2 : thO (bz xs r k).1 (bz xs r k).2 r (fs xs k) (sn xs k) = Y := hY
        obtain ⟨q, hq⟩ : ∃ q, bnd X Y r = q := ⟨_, rfl⟩
        have hdep : dep xs r l k = q + l := by unfold dep; rw [hX, hY, hq]
        rw [hX, hY] at bd2
        generalize (bz xs r k).1 = s at *
        generalize (bz xs r k).2 = o at *
        obtain ⟨t, ht⟩ : ∃ t, fs xs k = t := ⟨_, rfl⟩
        obtain ⟨z, hz⟩ : ∃ z, sn xs k = z := ⟨_, rfl⟩
        rw [ht] at c0 hX2 hY2
        rw [hz] at c1 hY2
        have hz2 : 1 ≤ z ∧ z ≤ 1048576 := by rw [← hz]; exact ok.2
        have kb : (k : Int) ≤ 199 := by omega
        have KT := Lib.hid (fun (c : Nat) (w : World) h0 h1 => then_v (c := c) hX2 hY2 bd.1 ⟨bd.2.1, by omega⟩ ⟨r1, r2⟩ hz2 w h0 h1)
        have KE := Lib.hid (fun (w : World) => end_v hq bd2.1 ⟨bd2.2.1, by omega⟩ ⟨r1, r2⟩ w)
        have wl : IntKind.i64.wrap (q + l) = q + l := IntWalk.i64_in _ (by have := bnd_q (o := Y) (r := r) ⟨bd2.2.1, by omega⟩ r1; unfold bnd at hq; omega)
        have XY := Lib.hid (And.intro hX (And.intro hY hdep))
        have s0 := hA.out.c0
        have s1 := hA.out.c1
        have sz0 : bb < wr.heap.size := hA.out.lt
        have sz1 := cell_lt k1
        clear bd bd2 ok hX hY hX2 hY2 hq hdep ht hz hz2 kb
        go_wp2_with fail
        refine (KT.out _ _ (by simp [go_sem]) (by simp [go_sem])).mono ?_; rintro e w4 ⟨rfl, gr⟩
        have G4 := Lib.hid (Bl.trans (((Bl.refl wr).alloc _).alloc _) gr)
        have SA := hA.out.go G4.out
        have f0 := SA.f0
        have f1 := SA.f1
        have g0 := SA.c0
        have g1 := SA.c1
        have SA5 := Lib.hid ((SA.set0 X).set1 Y)
        have OW5 := Lib.hid (((hO.out.go G4.out).far (Ne.symm hne) 0 (.int .i64 X)).far (Ne.symm hne) 1 (.int .i64 Y))
        have BL5 := Lib.hid (PS.out _ (PS.out _ (hw.out.trans G4.out) 0 (.int .i64 X)) 1 (.int .i64 Y))
        clear gr G4 SA s0 s1 sz0 sz1 c0 c1 k1 k2 hA hO hw
        go_upto_region 10 with fail
        clear g0 g1
        generalize ((w4.setCell ⟨bb, 0, none⟩ (.int .i64 X)).setCell ⟨bb, 1, none⟩ (.int .i64 Y)) = w5 at *
        have HD := Lib.hid (show ∀ w', Bl w5 w' → ∃ v, (w'.cell? ⟨bb, 0, none⟩ = some (.int .i64 X) ∧ w'.cell? ⟨bb, 1, none⟩ = some (.int .i64 Y) ∧ w'.cell? ⟨a + 1, 0, none⟩ = some (.int .i64 r) ∧ w'.cell? ⟨a + 1, 1, none⟩ = some (.int .i64 l) ∧ w'.cell? ⟨ob, k, none⟩ = some v ∧ w'.frozen? ⟨ob, k, none⟩ = false ∧ Hid (Bl w5 w')) from
          fun w' g => by
            obtain ⟨v, hv⟩ := (OW5.out.go g).there k hlt
            exact ⟨v, (SA5.out.go g).c0, (SA5.out.go g).c1, (HW.out w' (BL5.out.trans g)).2.1, (HW.out w' (BL5.out.trans g)).2.2, hv, (OW5.out.go g).fr k hlt, g⟩)
        obtain ⟨v0, y0, y1, y2, y3, y4, y5, _⟩ := HD.out w5 (Bl.refl _)
        go_region_with (go_at_call 66; (with_reducible refine (KE.out _).mono ?_); rintro e w2 ⟨rfl, hgr⟩; obtain ⟨v1, x0, x1, x2, x3, x4, x5, x6⟩ := HD.out w2 (Bl.trans (by (repeat (first | exact Bl.refl _ | with_reducible refine Bl.drew ?_))) hgr))
        all_goals go_wp2_with fail
        all_goals go_roundw
        all_goals first
          | (simp [intOf]; omega)
          | exact ⟨k + 1, by omega, by go_num, Lib.hid (by rw [XY.out.1, XY.out.2.1]; exact (SA5.out.go x6.out).far hne _ _), Lib.hid (by have := (OW5.out.go x6.out).put hlt; rw [XY.out.2.2] at this; exact this), Lib.hid (PO.out _ (BL5.out.trans x6.out) _ _)⟩
      · obtain rfl : k = xs.length := by omega
        go_wp2_with fail
        go_ret2
        exact ⟨_, rfl, FIN.out _ hO.out, G.out.trans hw.out⟩
  · have HV := Lib.hid (show DrV base xs r l w1 (.slice none 0 0) from .inl ⟨by rw [HE.out]; exact h0, rfl⟩)
    clear HE HB T1 k0 k1 k2 HBS
    go_wp2_with fail
    go_ret2
    exact ⟨_, rfl, HV.out, G.out⟩

end Go.Proofs.Ytgbbglnbolihfaa
