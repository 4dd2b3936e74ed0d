/-
  BucketMerges: two conforming traces, merged by time, conform to the sum of their buckets; a part of a conforming trace conforms. (Under way: the walk up to region 4.)
-/
import Derived.Test.YtajlcagbfebbjaaBw
import Derived.Test.YtajlcagbfebbjaaBza
import Derived.Test.YtajlcagbfebbjaaBr
import Derived.Test.YtajlcagbfebbjaaBt
import Derived.Test.YtajlcagbfebbjaaBv
import Derived.Test.YtajlcagbfebbjaaBq
namespace Go.Proofs.Ytajlcagbfebbjaa
open Go.ChangeShapes Go.WideShapes Go.ChangeAt Go.WideMaps Go.WideElems Go.RowKit

theorem heap_ltB {w : World} {b : Nat} {o : Obj} (h : w.heap[b]? = some o) : b < w.heap.size := by
  rcases Nat.lt_or_ge b w.heap.size with h1 | h1
  · exact h1
  · rw [Array.getElem?_eq_none h1] at h; cases h
theorem own_wend {w w' : World} {base : Nat} {e : TypeId} {size : Nat} {v : Value} {n : Nat} {xs : List Value} (h : w.ownsRow base e size v n xs) (g : Bl w w') : w'.ownsRow base e size v n xs := by
  refine ⟨h.1, ?_⟩
  rcases h.2 with h0 | ⟨b, cap, cur, h1, h2, h3, h4⟩
  · exact .inl h0
  · exact .inr ⟨b, cap, cur, h1, h2, (Below.block g b (heap_ltB h3)).trans h3, h4⟩
theorem tr_nw (w : World) (x y : Int) (e : TypeId) : Tr (w.alloc (.cells #[.int .i64 x, .int .i64 y] e)) (some ⟨w.heap.size, 0, none⟩) [(x, y)] := fun k hk => by
  obtain rfl : k = 0 := by simp at hk; omega
  exact ⟨w.heap.size, 0, rfl, by simp, by simp [go_sem, fs], by simp [go_sem, sn]⟩
theorem Sl.newP2 {w w' : World} {x y x' y' : Int} {t t' : TypeId} (g : Bl ((w.alloc (.cells #[.int .i64 x, .int .i64 y] t)).alloc (.cells #[.int .i64 x', .int .i64 y'] t')) w') : Sl w.heap.size x y w' ∧ Sl (w.heap.size + 1) x' y' w' := by
  have h := Sl.new (w.alloc (.cells #[.int .i64 x, .int .i64 y] t)) x' y' t'
  rw [World.size_alloc] at h
  exact ⟨((Sl.new w x y t).go ((Bl.refl _).alloc _)).go g, h.go g⟩
theorem Sl.newD2 {w w' : World} {x y x' y' : Int} {t t' : TypeId} (g : Bl ((w.alloc (.cells #[.int .i64 x, .int .i64 y] t)).alloc (.cells #[.int .i64 x', .int .i64 y'] t')).drew w') : Sl w.heap.size x y w' ∧ Sl (w.heap.size + 1) x' y' w' := Sl.newP2 (t := t) (t' := t') (Bl.trans (Bl.drew (Bl.refl _)) g)
/-- What 'a, b := d[0].Bucket(), d[1].Bucket()' leaves. -/
def MadeAB (W : World) (u R v Q : Int) (s5 s6 : Value) (wx : World) : Prop :=
  ∃ b c, s5 = .pointer (some ⟨b, 0, none⟩) ∧ s6 = .pointer (some ⟨c, 0, none⟩) ∧ b ≠ c ∧ Sl b u R wx ∧ Sl c v Q wx ∧ W.heap.size ≤ b ∧ W.heap.size ≤ c ∧ Bl W wx
theorem made_aft {W wb : World} {u R v Q : Int} {t t' : TypeId} (g : Hid (Bl W wb)) : Hid (MadeAB W u R v Q (.pointer (some ⟨wb.heap.size, 0, none⟩)) (.pointer (some ⟨wb.heap.size + 1, 0, none⟩)) ((wb.alloc (.cells #[.int .i64 u, .int .i64 R] t)).alloc (.cells #[.int .i64 v, .int .i64 Q] t'))) := by
  have h := Sl.newP2 (Bl.refl ((wb.alloc (.cells #[.int .i64 u, .int .i64 R] t)).alloc (.cells #[.int .i64 v, .int .i64 Q] t')))
  have hs := g.out.size
  exact ⟨_, _, rfl, rfl, by omega, h.1, h.2, hs, by omega, (g.out.alloc _).alloc _⟩
theorem made_aft' {W wb : World} {u R v Q : Int} {t t' : TypeId} (g : Hid (Bl W wb)) : Hid (MadeAB W u R v Q (.pointer (some ⟨wb.heap.size + 1, 0, none⟩)) (.pointer (some ⟨wb.heap.size, 0, none⟩)) ((wb.alloc (.cells #[.int .i64 v, .int .i64 Q] t)).alloc (.cells #[.int .i64 u, .int .i64 R] t'))) := by
  have h := Sl.newP2 (Bl.refl ((wb.alloc (.cells #[.int .i64 v, .int .i64 Q] t)).alloc (.cells #[.int .i64 u, .int .i64 R] t')))
  have hs := g.out.size
  exact ⟨_, _, rfl, rfl, by omega, h.2, h.1, by omega, hs, (g.out.alloc _).alloc _⟩
theorem made_mix {W wb : World} {b : Nat} {x y u R v Q : Int} {t : TypeId} (g : Hid (Bl W wb)) (h : Sl b x y wb) (hb : W.heap.size ≤ b) : Hid (MadeAB W u R v Q (.pointer (some ⟨b, 0, none⟩)) (.pointer (some ⟨wb.heap.size, 0, none⟩)) (((wb.setCell ⟨b, 0, none⟩ (.int .i64 u)).setCell ⟨b, 1, none⟩ (.int .i64 R)).alloc (.cells #[.int .i64 v, .int .i64 Q] t))) := by
  have h2 := (h.set0 u).set1 R
  have hn := Sl.new ((wb.setCell ⟨b, 0, none⟩ (.int .i64 u)).setCell ⟨b, 1, none⟩ (.int .i64 R)) v Q t
  have e : ((wb.setCell ⟨b, 0, none⟩ (.int .i64 u)).setCell ⟨b, 1, none⟩ (.int .i64 R)).heap.size = wb.heap.size := by simp [World.setCell]
  rw [e] at hn
  exact ⟨_, _, rfl, rfl, Nat.ne_of_lt h.lt, h2.go ((Bl.refl _).alloc _), hn, hb, g.out.size, ((g.out.setCell hb _).setCell hb _).alloc _⟩
theorem made_mix' {W wb : World} {b : Nat} {x y u R v Q : Int} {t : TypeId} (g : Hid (Bl W wb)) (h : Sl b x y wb) (hb : W.heap.size ≤ b) : Hid (MadeAB W u R v Q (.pointer (some ⟨wb.heap.size, 0, none⟩)) (.pointer (some ⟨b, 0, none⟩)) (((wb.setCell ⟨b, 0, none⟩ (.int .i64 v)).setCell ⟨b, 1, none⟩ (.int .i64 Q)).alloc (.cells #[.int .i64 u, .int .i64 R] t))) := by
  obtain ⟨b1, c1, e1, e2, h1, h2, h3, h4, h5, h6⟩ := (made_mix (u := v) (R := Q) (v := u) (Q := R) (t := t) g h hb).out
  exact ⟨c1, b1, e2, e1, Ne.symm h1, h3, h2, h5, h4, h6⟩
theorem made_bef {W wb : World} {b c : Nat} {x y x' y' u R v Q : Int} (g : Hid (Bl W wb)) (h : Sl b x y wb) (k : Sl c x' y' wb) (hbc : b ≠ c) (hb : W.heap.size ≤ b) (hc : W.heap.size ≤ c) : Hid (MadeAB W u R v Q (.pointer (some ⟨b, 0, none⟩)) (.pointer (some ⟨c, 0, none⟩)) ((((wb.setCell ⟨b, 0, none⟩ (.int .i64 u)).setCell ⟨b, 1, none⟩ (.int .i64 R)).setCell ⟨c, 0, none⟩ (.int .i64 v)).setCell ⟨c, 1, none⟩ (.int .i64 Q))) :=
  ⟨_, _, rfl, rfl, hbc, ((((h.set0 u).set1 R).far hbc 0 _).far hbc 1 _), ((((k.far (Ne.symm hbc) 0 _).far (Ne.symm hbc) 1 _).set0 v).set1 Q), hb, hc, (((g.out.setCell hb _).setCell hb _).setCell hc _).setCell hc _⟩

theorem set4 {w : World} {a : Nat} {v0 v1 v2 v3 v4 v5 v6 v7 n0 n1 n4 n5 : Value} (h0 : w.cell? ⟨a, 0, none⟩ = some v0) (h1 : w.cell? ⟨a, 1, none⟩ = some v1) (h2 : w.cell? ⟨a, 2, none⟩ = some v2) (h3 : w.cell? ⟨a, 3, none⟩ = some v3) (h4 : w.cell? ⟨a, 4, none⟩ = some v4) (h5 : w.cell? ⟨a, 5, none⟩ = some v5) (h6 : w.cell? ⟨a, 6, none⟩ = some v6) (h7 : w.cell? ⟨a, 7, none⟩ = some v7) :
    (((((w.setCell ⟨a, 0, none⟩ n0).setCell ⟨a, 1, none⟩ n1).setCell ⟨a, 4, none⟩ n4).setCell ⟨a, 5, none⟩ n5).drew.cell? ⟨a, 0, none⟩ = some n0) ∧ (((((w.setCell ⟨a, 0, none⟩ n0).setCell ⟨a, 1, none⟩ n1).setCell ⟨a, 4, none⟩ n4).setCell ⟨a, 5, none⟩ n5).drew.cell? ⟨a, 1, none⟩ = some n1) ∧ (((((w.setCell ⟨a, 0, none⟩ n0).setCell ⟨a, 1, none⟩ n1).setCell ⟨a, 4, none⟩ n4).setCell ⟨a, 5, none⟩ n5).drew.cell? ⟨a, 2, none⟩ = some v2) ∧ (((((w.setCell ⟨a, 0, none⟩ n0).setCell ⟨a, 1, none⟩ n1).setCell ⟨a, 4, none⟩ n4).setCell ⟨a, 5, none⟩ n5).drew.cell? ⟨a, 3, none⟩ = some v3) ∧
    (((((w.setCell ⟨a, 0, none⟩ n0).setCell ⟨a, 1, none⟩ n1).setCell ⟨a, 4, none⟩ n4).setCell ⟨a, 5, none⟩ n5).drew.cell? ⟨a, 4, none⟩ = some n4) ∧ (((((w.setCell ⟨a, 0, none⟩ n0).setCell ⟨a, 1, none⟩ n1).setCell ⟨a, 4, none⟩ n4).setCell ⟨a, 5, none⟩ n5).drew.cell? ⟨a, 5, none⟩ = some n5) ∧ (((((w.setCell ⟨a, 0, none⟩ n0).setCell ⟨a, 1, none⟩ n1).setCell ⟨a, 4, none⟩ n4).setCell ⟨a, 5, none⟩ n5).drew.cell? ⟨a, 6, none⟩ = some v6) ∧ (((((w.setCell ⟨a, 0, none⟩ n0).setCell ⟨a, 1, none⟩ n1).setCell ⟨a, 4, none⟩ n4).setCell ⟨a, 5, none⟩ n5).drew.cell? ⟨a, 7, none⟩ = some v7) := by
  have hd : ∀ (w : World) (p : Addr), w.drew.cell? p = w.cell? p := fun _ _ => rfl
  have ot : ∀ (w : World) (i j : Nat) (v : Value), i ≠ j → (w.setCell ⟨a, i, none⟩ v).cell? ⟨a, j, none⟩ = w.cell? ⟨a, j, none⟩ := fun w i j v h => World.cell?_setCell_other w _ _ v (by intro h'; injection h' with _ h'; exact h h')
  have sm : ∀ (w : World) (i : Nat) (u v : Value), w.cell? ⟨a, i, none⟩ = some u → (w.setCell ⟨a, i, none⟩ v).cell? ⟨a, i, none⟩ = some v := fun w i u v h => World.cell?_setCell_same w _ v h
  simp only [hd]
  refine ⟨?_, ?_, ?_, ?_, ?_, ?_, ?_, ?_⟩
  · rw [ot _ 5 0 _ (by decide), ot _ 4 0 _ (by decide), ot _ 1 0 _ (by decide), sm _ 0 _ _ h0]
  · rw [ot _ 5 1 _ (by decide), ot _ 4 1 _ (by decide), sm _ 1 v1 _ (by rw [ot _ 0 1 _ (by decide), h1])]
  · rw [ot _ 5 2 _ (by decide), ot _ 4 2 _ (by decide), ot _ 1 2 _ (by decide), ot _ 0 2 _ (by decide), h2]
  · rw [ot _ 5 3 _ (by decide), ot _ 4 3 _ (by decide), ot _ 1 3 _ (by decide), ot _ 0 3 _ (by decide), h3]
  · rw [ot _ 5 4 _ (by decide), sm _ 4 v4 _ (by rw [ot _ 1 4 _ (by decide), ot _ 0 4 _ (by decide), h4])]
  · rw [sm _ 5 v5 _ (by rw [ot _ 4 5 _ (by decide), ot _ 1 5 _ (by decide), ot _ 0 5 _ (by decide), h5])]
  · rw [ot _ 5 6 _ (by decide), ot _ 4 6 _ (by decide), ot _ 1 6 _ (by decide), ot _ 0 6 _ (by decide), h6]
  · rw [ot _ 5 7 _ (by decide), ot _ 4 7 _ (by decide), ot _ 1 7 _ (by decide), ot _ 0 7 _ (by decide), h7]

set_option maxRecDepth 100000 in
set_option maxHeartbeats 8000000 in
theorem merges_law (B0 R0 : Int) (gA0 : Option Addr) (gc0 : Nat) (sA0 : Option Addr) (sc0 : Nat) (gs0 ss0 : List Int) (B1 R1 : Int) (gA1 : Option Addr) (gc1 : Nat) (sA1 : Option Addr) (sc1 : Nat) (gs1 ss1 : List Int) (kA : Option Addr) (kc : Nat) (bs : List Bool) (w : World) (hB0 : 0 ≤ B0 ∧ B0 ≤ 4294967295) (hR0 : 0 ≤ R0 ∧ R0 ≤ 4294967295) (hB1 : 0 ≤ B1 ∧ B1 ≤ 4294967295) (hR1 : 0 ≤ R1 ∧ R1 ≤ 4294967295) (hg0 : Us w gA0 gs0) (hs0 : Us w sA0 ss0) (ug0 : U16 gs0) (us0 : U16 ss0) (sl0 : (ss0.length : Int) ≤ 9223372036854775807) (hg1 : Us w gA1 gs1) (hs1 : Us w sA1 ss1) (ug1 : U16 gs1) (us1 : U16 ss1) (sl1 : (ss1.length : Int) ≤ 9223372036854775807) (hkp : Ub w kA bs) (hkl : (bs.length : Int) ≤ 9223372036854775807) :
    Calls Try.prog 3 #[.agg #[.int .u32 B0, .int .u32 R0, .slice gA0 gs0.length gc0, .slice sA0 ss0.length sc0, .int .u32 B1, .int .u32 R1, .slice gA1 gs1.length gc1, .slice sA1 ss1.length sc1], .slice kA bs.length kc] w fun e w' => e = .returned (.bool true) ∧ Bl w w' := by
  have KW := Lib.hid (fun w => works_any w)
  have HK := Lib.hid hkp
  clear hkp
  go_enter Try.func3, Try.ntmps3
  go_wp2_with fail
  have k4 : w.heap.size < (w.alloc (.cells #[.int .u32 B0, .int .u32 R0, .slice gA0 gs0.length gc0, .slice sA0 ss0.length sc0, .int .u32 B1, .int .u32 R1, .slice gA1 gs1.length gc1, .slice sA1 ss1.length sc1] 26)).heap.size := by simp
  have hd : ∀ w', Bl (w.alloc (.cells #[.int .u32 B0, .int .u32 R0, .slice gA0 gs0.length gc0, .slice sA0 ss0.length sc0, .int .u32 B1, .int .u32 R1, .slice gA1 gs1.length gc1, .slice sA1 ss1.length sc1] 26)) w' → (w'.cell? ⟨w.heap.size, 0, none⟩ = some (.int .u32 B0) ∧ w'.cell? ⟨w.heap.size, 1, none⟩ = some (.int .u32 R0) ∧ w'.cell? ⟨w.heap.size, 2, none⟩ = some (.slice gA0 gs0.length gc0) ∧ w'.cell? ⟨w.heap.size, 3, none⟩ = some (.slice sA0 ss0.length sc0) ∧ w'.cell? ⟨w.heap.size, 4, none⟩ = some (.int .u32 B1) ∧ w'.cell? ⟨w.heap.size, 5, none⟩ = some (.int .u32 R1) ∧ w'.cell? ⟨w.heap.size, 6, none⟩ = some (.slice gA1 gs1.length gc1) ∧ w'.cell? ⟨w.heap.size, 7, none⟩ = some (.slice sA1 ss1.length sc1) ∧ Bl (w.alloc (.cells #[.int .u32 B0, .int .u32 R0, .slice gA0 gs0.length gc0, .slice sA0 ss0.length sc0, .int .u32 B1, .int .u32 R1, .slice gA1 gs1.length gc1, .slice sA1 ss1.length sc1] 26)) w') := fun w' g => ⟨(g.cell (p := ⟨w.heap.size, 0, none⟩) k4).trans (by simp [go_sem]), (g.cell (p := ⟨w.heap.size, 1, none⟩) k4).trans (by simp [go_sem]), (g.cell (p := ⟨w.heap.size, 2, none⟩) k4).trans (by simp [go_sem]), (g.cell (p := ⟨w.heap.size, 3, none⟩) k4).trans (by simp [go_sem]), (g.cell (p := ⟨w.heap.size, 4, none⟩) k4).trans (by simp [go_sem]), (g.cell (p := ⟨w.heap.size, 5, none⟩) k4).trans (by simp [go_sem]), (g.cell (p := ⟨w.heap.size, 6, none⟩) k4).trans (by simp [go_sem]), (g.cell (p := ⟨w.heap.size, 7, none⟩) k4).trans (by simp [go_sem]), g⟩
  have hfz : ∀ w', Bl (w.alloc (.cells #[.int .u32 B0, .int .u32 R0, .slice gA0 gs0.length gc0, .slice sA0 ss0.length sc0, .int .u32 B1, .int .u32 R1, .slice gA1 gs1.length gc1, .slice sA1 ss1.length sc1] 26)) w' → w'.frozen? ⟨w.heap.size, 0, none⟩ = false ∧ w'.frozen? ⟨w.heap.size, 1, none⟩ = false ∧ w'.frozen? ⟨w.heap.size, 4, none⟩ = false ∧ w'.frozen? ⟨w.heap.size, 5, none⟩ = false := fun w' g => ⟨(g.frozen (p := ⟨w.heap.size, 0, none⟩) k4).trans (by simp [go_sem]), (g.frozen (p := ⟨w.heap.size, 1, none⟩) k4).trans (by simp [go_sem]), (g.frozen (p := ⟨w.heap.size, 4, none⟩) k4).trans (by simp [go_sem]), (g.frozen (p := ⟨w.heap.size, 5, none⟩) k4).trans (by simp [go_sem])⟩
  have hb0 : Bl w (w.alloc (.cells #[.int .u32 B0, .int .u32 R0, .slice gA0 gs0.length gc0, .slice sA0 ss0.length sc0, .int .u32 B1, .int .u32 R1, .slice gA1 gs1.length gc1, .slice sA1 ss1.length sc1] 26)) := (Bl.refl w).alloc _
  generalize (w.alloc (.cells #[.int .u32 B0, .int .u32 R0, .slice gA0 gs0.length gc0, .slice sA0 ss0.length sc0, .int .u32 B1, .int .u32 R1, .slice gA1 gs1.length gc1, .slice sA1 ss1.length sc1] 26)) = W0 at *
  refine (KW.out _).mono ?_; rintro e W ⟨rfl, gr⟩
  have HD := Lib.hid (show ∀ w', Bl W w' → (w'.cell? ⟨w.heap.size, 0, none⟩ = some (.int .u32 B0) ∧ w'.cell? ⟨w.heap.size, 1, none⟩ = some (.int .u32 R0) ∧ w'.cell? ⟨w.heap.size, 2, none⟩ = some (.slice gA0 gs0.length gc0) ∧ w'.cell? ⟨w.heap.size, 3, none⟩ = some (.slice sA0 ss0.length sc0) ∧ w'.cell? ⟨w.heap.size, 4, none⟩ = some (.int .u32 B1) ∧ w'.cell? ⟨w.heap.size, 5, none⟩ = some (.int .u32 R1) ∧ w'.cell? ⟨w.heap.size, 6, none⟩ = some (.slice gA1 gs1.length gc1) ∧ w'.cell? ⟨w.heap.size, 7, none⟩ = some (.slice sA1 ss1.length sc1) ∧ Hid (Bl W w')) from fun w' g => (fun h => ⟨h.1, h.2.1, h.2.2.1, h.2.2.2.1, h.2.2.2.2.1, h.2.2.2.2.2.1, h.2.2.2.2.2.2.1, h.2.2.2.2.2.2.2.1, g⟩) (hd w' (gr.trans g)))
  have FZ := Lib.hid (show ∀ w', Bl W w' → w'.frozen? ⟨w.heap.size, 0, none⟩ = false ∧ w'.frozen? ⟨w.heap.size, 1, none⟩ = false ∧ w'.frozen? ⟨w.heap.size, 4, none⟩ = false ∧ w'.frozen? ⟨w.heap.size, 5, none⟩ = false from fun w' g => hfz w' (gr.trans g))
  have KA := Lib.hid (show w.heap.size < W.heap.size from Nat.lt_of_lt_of_le k4 gr.size)
  have HB0 := Lib.hid (hb0.trans gr)
  clear hfz k4
  clear hd hb0 gr
  have HL0 := Lib.hid (Nat.le_refl w.heap.size)
  generalize ha0 : w.heap.size = a0 at *
  have HL := Lib.hid (Nat.le_of_eq ha0)
  clear ha0 HL0
  have bu := (bkB_iff.1 (dB_ok B0 R0))
  have bv := (bkB_iff.1 (dB_ok B1 R1))
  have H0 := Lib.hid (fun w' => (by have := dbucket_any B0 R0 gA0 gs0.length gc0 sA0 ss0.length sc0 w' hB0 hR0; unfold drV at this; exact this : Calls Try.prog 6 #[.agg #[.int .u32 B0, .int .u32 R0, .slice gA0 gs0.length gc0, .slice sA0 ss0.length sc0]] w' fun e w'' => e = .returned (.agg #[.int .i64 (dBu B0), .int .i64 (dRa R0)]) ∧ Bl w' w''))
  have H1 := Lib.hid (fun w' => (by have := dbucket_any B1 R1 gA1 gs1.length gc1 sA1 ss1.length sc1 w' hB1 hR1; unfold drV at this; exact this : Calls Try.prog 6 #[.agg #[.int .u32 B1, .int .u32 R1, .slice gA1 gs1.length gc1, .slice sA1 ss1.length sc1]] w' fun e w'' => e = .returned (.agg #[.int .i64 (dBu B1), .int .i64 (dRa R1)]) ∧ Bl w' w''))
  obtain ⟨k0, k1, k2, k3, k5, k6, k7, k8, _⟩ := HD.out W (Bl.refl W)
  generalize dBu B0 = u at *
  generalize dRa R0 = r at *
  generalize dBu B1 = v at *
  generalize dRa R1 = q at *
  go_upto_region 3 with fail
  go_cut [5, 6] (fun s5 s6 wx => Hid (MadeAB W u r v q s5 s6 wx))
  case first =>
    --@F3@
    as_aux_lemma =>
      go_region_held3 (fun w' => w'.cell? ⟨a0, 0, none⟩ = some (.int .u32 B0) ∧ w'.cell? ⟨a0, 1, none⟩ = some (.int .u32 R0) ∧ w'.cell? ⟨a0, 2, none⟩ = some (.slice gA0 gs0.length gc0) ∧ w'.cell? ⟨a0, 3, none⟩ = some (.slice sA0 ss0.length sc0) ∧ w'.cell? ⟨a0, 4, none⟩ = some (.int .u32 B1) ∧ w'.cell? ⟨a0, 5, none⟩ = some (.int .u32 R1) ∧ w'.cell? ⟨a0, 6, none⟩ = some (.slice gA1 gs1.length gc1) ∧ w'.cell? ⟨a0, 7, none⟩ = some (.slice sA1 ss1.length sc1) ∧ Hid (Bl W w')) (first | with_reducible assumption | (refine HD.out _ ?_; (repeat (first | exact BB.out | exact BA.out | exact Bl.refl _ | with_reducible refine Bl.setCell ?_ (by first | exact Nat.le_refl _ | omega | (simp <;> omega)) _ | with_reducible refine Bl.alloc ?_ _ | with_reducible refine Bl.drew ?_)); done) | fail) (first | (go_at_call 6; rename _ ∧ _ ∧ _ ∧ _ ∧ _ ∧ _ ∧ _ ∧ _ ∧ Hid (Bl W _) => hq; ((with_reducible refine (H0.out _).mono ?_); rintro e wa ⟨rfl, hgrwa⟩; have BA := Lib.hid (Bl.trans (Hid.out hq.2.2.2.2.2.2.2.2) hgrwa); have qzwa : W.heap.size ≤ wa.heap.size := BA.out.size; first | (with_reducible have q1 := Sl.newD2 hgrwa) | (with_reducible have q1 := Sl.newD hgrwa) | (have q1 := True.intro))) | (go_at_call 6; rename _ ∧ _ ∧ _ ∧ _ ∧ _ ∧ _ ∧ _ ∧ _ ∧ Hid (Bl W _) => hq; ((with_reducible refine (H1.out _).mono ?_); rintro e wb ⟨rfl, hgrwb⟩; have BB := Lib.hid (Bl.trans (Hid.out hq.2.2.2.2.2.2.2.2) hgrwb); have qzwb : W.heap.size ≤ wb.heap.size := BB.out.size; first | (with_reducible have q2 := And.intro (Sl.go (And.left q1) hgrwb) (Sl.go (And.right q1) hgrwb); obtain ⟨g0, g1, g2, g3, g4⟩ := q2.1; obtain ⟨g5, g6, g7, g8, g9⟩ := q2.2) | (with_reducible have q2 := And.intro (Sl.go q1 (Bl.trans ((Bl.refl wa).alloc _) hgrwb)) (Sl.newP hgrwb); have n1 : ¬ W.heap.size = wa.heap.size := Nat.ne_of_lt q1.lt; have n2 : ¬ wa.heap.size = W.heap.size := Nat.ne_of_gt q1.lt; obtain ⟨g0, g1, g2, g3, g4⟩ := q2.1; obtain ⟨g5, g6, g7, g8, g9⟩ := q2.2) | (with_reducible have q2 := Sl.go q1 hgrwb; have n1 : ¬ W.heap.size = wb.heap.size := Nat.ne_of_lt q2.lt; have n2 : ¬ wb.heap.size = W.heap.size := Nat.ne_of_gt q2.lt; have q3 := q2; obtain ⟨g0, g1, g2, g3, g4⟩ := q3) | (with_reducible have q2 := Sl.newP2 hgrwb; obtain ⟨g0, g1, g2, g3, g4⟩ := q2.1; obtain ⟨g5, g6, g7, g8, g9⟩ := q2.2) | (with_reducible have q2 := Sl.newP hgrwb; have n1 : ¬ wa.heap.size = wb.heap.size := Nat.ne_of_lt q2.lt; have n2 : ¬ wb.heap.size = wa.heap.size := Nat.ne_of_gt q2.lt; have q3 := q2; obtain ⟨g0, g1, g2, g3, g4⟩ := q3) | (have q2 := True.intro))) | fail)
      all_goals go_wp2_with fail
      all_goals go_meet
      all_goals (first | with_reducible exact made_aft BB | with_reducible exact made_aft' BB | with_reducible exact made_mix BB q2 (by first | exact Nat.le_refl _ | assumption | omega) | with_reducible exact made_mix' BB q2 (by first | exact Nat.le_refl _ | assumption | omega) | with_reducible exact made_bef BB q2.1 q2.2 (by first | exact n1 | exact n2 | omega) (by first | exact Nat.le_refl _ | assumption | omega) (by first | exact Nat.le_refl _ | assumption | omega) | with_reducible exact made_bef BB q2.2 q2.1 (by first | exact n1 | exact n2 | omega) (by first | exact Nat.le_refl _ | assumption | omega) (by first | exact Nat.le_refl _ | assumption | omega) | fail)
    --@E3@
  obtain ⟨b, c, rfl, rfl, hbc, hS, hT, hb1, hc1, hB⟩ := hcut.out
  clear hcut k0 k1 k2 k3 k5 k6 k7 k8 H0 H1
  obtain ⟨⟨u1, u2⟩, r1, r2⟩ := bu
  obtain ⟨⟨v1, v2⟩, q1, q2⟩ := bv
  have SA := Lib.hid hS
  have SB := Lib.hid hT
  have BX := Lib.hid hB
  clear hS hT hB
  rename World => wx
  obtain ⟨U, hU⟩ : ∃ x, 1 + u / 2 = x := ⟨_, rfl⟩
  obtain ⟨V, hV⟩ : ∃ x, 1 + v / 2 = x := ⟨_, rfl⟩
  obtain ⟨P, hP⟩ : ∃ x, 1 + r / 4 = x := ⟨_, rfl⟩
  obtain ⟨Q, hQ⟩ : ∃ x, 1 + q / 4 = x := ⟨_, rfl⟩
  have U1 : 1 ≤ U ∧ U ≤ 524289 := by omega
  have V1 : 1 ≤ V ∧ V ≤ 524289 := by omega
  have P1 : 1 ≤ P ∧ P ≤ 524289 := by omega
  have Q1 : 1 ≤ Q ∧ Q ≤ 524289 := by omega
  go_upto_region 4 with fail
  go_cut [24] (fun s24 wx => Hid (s24 = s24 ∧ Sl b U P wx ∧ Sl c V Q wx ∧ Bl W wx))
  case first =>
    --@F4@
    as_aux_lemma =>
      have s0 := SA.out.c0
      have s1 := SA.out.c1
      have f0 := SA.out.f0
      have f1 := SA.out.f1
      have t0 := SB.out.c0
      have t1 := SB.out.c1
      have e0 := SB.out.f0
      have e1 := SB.out.f1
      have hcb : ¬ c = b := fun h => hbc h.symm
      have hbc' : ¬ b = c := hbc
      go_region
      all_goals go_wp2_with fail
      all_goals go_meet
      try rw [hU]
      try rw [hV]
      try rw [hP]
      try rw [hQ]
      exact Lib.hid ⟨by first | trivial | rfl, ((((SA.out.set0 U).far hbc 0 _).set1 P).far hbc 1 _).drew, ((((SB.out.far (Ne.symm hbc) 0 _).set0 V).far (Ne.symm hbc) 1 _).set1 Q).drew, ((((BX.out.setCell hb1 _).setCell hc1 _).setCell hb1 _).setCell hc1 _).drew⟩
    --@E4@
  obtain ⟨_, hS2, hT2, hB2⟩ := hcut.out
  clear hcut hU hV hP hQ u1 u2 v1 v2 r1 r2 q1 q2 SA SB BX
  have SA := Lib.hid hS2
  have SB := Lib.hid hT2
  have BX := Lib.hid hB2
  clear hS2 hT2 hB2
  rename World => wy
  obtain ⟨ab, ac, ab', ac'⟩ : ¬ a0 = b ∧ ¬ a0 = c ∧ ¬ b = a0 ∧ ¬ c = a0 := by have := KA.out; omega
  go_upto_region 5 with fail
  go_cut [44] (fun s44 wx => Hid (s44 = s44 ∧ Sl b U P wx ∧ Sl c V Q wx ∧ (wx.cell? ⟨a0, 0, none⟩ = some (.int .u32 (U - 1)) ∧ wx.cell? ⟨a0, 1, none⟩ = some (.int .u32 (P - 1)) ∧ wx.cell? ⟨a0, 2, none⟩ = some (.slice gA0 gs0.length gc0) ∧ wx.cell? ⟨a0, 3, none⟩ = some (.slice sA0 ss0.length sc0) ∧ wx.cell? ⟨a0, 4, none⟩ = some (.int .u32 (V - 1)) ∧ wx.cell? ⟨a0, 5, none⟩ = some (.int .u32 (Q - 1)) ∧ wx.cell? ⟨a0, 6, none⟩ = some (.slice gA1 gs1.length gc1) ∧ wx.cell? ⟨a0, 7, none⟩ = some (.slice sA1 ss1.length sc1)) ∧ Bl w wx))
  case first =>
    --@F5@
    as_aux_lemma =>
      have s0 := SA.out.c0
      have s1 := SA.out.c1
      have t0 := SB.out.c0
      have t1 := SB.out.c1
      obtain ⟨k0, k1, k2, k3, k5, k6, k7, k8, _⟩ := HD.out wy BX.out
      obtain ⟨z0, z1, z4, z5⟩ := FZ.out wy BX.out
      have xU : IntKind.u32.wrap (U - 1) = U - 1 := by unfold IntKind.wrap; simp [IntKind.signed, IntKind.bits]; omega
      have xV : IntKind.u32.wrap (V - 1) = V - 1 := by unfold IntKind.wrap; simp [IntKind.signed, IntKind.bits]; omega
      have xP : IntKind.u32.wrap (P - 1) = P - 1 := by unfold IntKind.wrap; simp [IntKind.signed, IntKind.bits]; omega
      have xQ : IntKind.u32.wrap (Q - 1) = Q - 1 := by unfold IntKind.wrap; simp [IntKind.signed, IntKind.bits]; omega
      have yU : IntKind.i64.wrap (U - 1) = U - 1 := IntWalk.i64_in _ (by omega)
      have yV : IntKind.i64.wrap (V - 1) = V - 1 := IntWalk.i64_in _ (by omega)
      have yP : IntKind.i64.wrap (P - 1) = P - 1 := IntWalk.i64_in _ (by omega)
      have yQ : IntKind.i64.wrap (Q - 1) = Q - 1 := IntWalk.i64_in _ (by omega)
      go_region
      all_goals go_wp2_with fail
      all_goals go_meet
      refine Lib.hid ⟨by first | trivial | rfl, ?_, ?_, ?_, ?_⟩
      · exact ((((SA.out.far ab' 0 _).far ab' 1 _).far ab' 4 _).far ab' 5 _).drew
      · exact ((((SB.out.far ac' 0 _).far ac' 1 _).far ac' 4 _).far ac' 5 _).drew
      · exact set4 k0 k1 k2 k3 k5 k6 k7 k8
      · exact (((((HB0.out.trans BX.out).setCell HL.out _).setCell HL.out _).setCell HL.out _).setCell HL.out _).drew
    --@E5@
  obtain ⟨_, hS3, hT3, hD3, hB3⟩ := hcut.out
  clear hcut SA SB BX HD FZ
  have SA := Lib.hid hS3
  have SB := Lib.hid hT3
  have ND := Lib.hid hD3
  have BZ := Lib.hid hB3
  clear hS3 hT3 hD3 hB3
  rename World => wz
  obtain ⟨ls, hls⟩ : ∃ ls, cnf U P (dTr gs0 ss0) = ls := ⟨_, rfl⟩
  obtain ⟨ms, hms⟩ : ∃ ms, cnf V Q (dTr gs1 ss1) = ms := ⟨_, rfl⟩
  have HDZ := Lib.hid (show ∀ w', Bl wz w' → (w'.cell? ⟨a0, 0, none⟩ = some (.int .u32 (U - 1)) ∧ w'.cell? ⟨a0, 1, none⟩ = some (.int .u32 (P - 1)) ∧ w'.cell? ⟨a0, 2, none⟩ = some (.slice gA0 gs0.length gc0) ∧ w'.cell? ⟨a0, 3, none⟩ = some (.slice sA0 ss0.length sc0) ∧ w'.cell? ⟨a0, 4, none⟩ = some (.int .u32 (V - 1)) ∧ w'.cell? ⟨a0, 5, none⟩ = some (.int .u32 (Q - 1)) ∧ w'.cell? ⟨a0, 6, none⟩ = some (.slice gA1 gs1.length gc1) ∧ w'.cell? ⟨a0, 7, none⟩ = some (.slice sA1 ss1.length sc1) ∧ Hid (Bl wz w')) from fun w' g => by
    have lt := World.block_lt_of_cell? _ _ ND.out.1
    obtain ⟨d0, d1, d2, d3, d4, d5, d6, d7⟩ := ND.out
    exact ⟨(g.cell (p := ⟨a0, 0, none⟩) lt).trans d0, (g.cell (p := ⟨a0, 1, none⟩) lt).trans d1, (g.cell (p := ⟨a0, 2, none⟩) lt).trans d2, (g.cell (p := ⟨a0, 3, none⟩) lt).trans d3, (g.cell (p := ⟨a0, 4, none⟩) lt).trans d4, (g.cell (p := ⟨a0, 5, none⟩) lt).trans d5, (g.cell (p := ⟨a0, 6, none⟩) lt).trans d6, (g.cell (p := ⟨a0, 7, none⟩) lt).trans d7, Lib.hid g⟩)
  have H0 := Lib.hid (fun w' (g : Bl wz w') => (by have := dconf_any (U - 1) (P - 1) gA0 gc0 sA0 sc0 gs0 ss0 w' (by omega) (by omega) (hg0.go (BZ.out.trans g)) (hs0.go (BZ.out.trans g)) ug0 us0 sl0; unfold drV at this; rw [show dBu (U - 1) = U by unfold dBu; omega, show dRa (P - 1) = P by unfold dRa; omega, hls] at this; exact this : Calls Try.prog 7 #[.agg #[.int .u32 (U - 1), .int .u32 (P - 1), .slice gA0 gs0.length gc0, .slice sA0 ss0.length sc0]] w' (TrRes w' ls)))
  have H1 := Lib.hid (fun w' (g : Bl wz w') => (by have := dconf_any (V - 1) (Q - 1) gA1 gc1 sA1 sc1 gs1 ss1 w' (by omega) (by omega) (hg1.go (BZ.out.trans g)) (hs1.go (BZ.out.trans g)) ug1 us1 sl1; unfold drV at this; rw [show dBu (V - 1) = V by unfold dBu; omega, show dRa (Q - 1) = Q by unfold dRa; omega, hms] at this; exact this : Calls Try.prog 7 #[.agg #[.int .u32 (V - 1), .int .u32 (Q - 1), .slice gA1 gs1.length gc1, .slice sA1 ss1.length sc1]] w' (TrRes w' ms)))
  have hok0 : rtB (dTr gs0 ss0) = true := dT_ok ug0 us0 (by omega)
  have hok1 : rtB (dTr gs1 ss1) = true := dT_ok ug1 us1 (by omega)
  have LS := Lib.hid (show rtB ls = true ∧ fitB ls U P = true ∧ ls.length ≤ 30 from by rw [← hls]; exact ⟨(cnfS_ok (u := U) (R := P) hok0 (dTr gs0 ss0).length (Nat.le_refl _)).1, cnfS_fit (u := U) (R := P) (xs := dTr gs0 ss0) (dTr gs0 ss0).length, Nat.le_trans (cnfS_len U P (dTr gs0 ss0) (dTr gs0 ss0).length) (by unfold dTr; rw [dT_len]; omega)⟩)
  have MS := Lib.hid (show rtB ms = true ∧ fitB ms V Q = true ∧ ms.length ≤ 30 from by rw [← hms]; exact ⟨(cnfS_ok (u := V) (R := Q) hok1 (dTr gs1 ss1).length (Nat.le_refl _)).1, cnfS_fit (u := V) (R := Q) (xs := dTr gs1 ss1) (dTr gs1 ss1).length, Nat.le_trans (cnfS_len V Q (dTr gs1 ss1) (dTr gs1 ss1).length) (by unfold dTr; rw [dT_len]; omega)⟩)
  clear hls hms hok0 hok1
  go_upto_region 6 with fail
  go_cut [7, 8] (fun s7 s8 wx => Hid (∃ A1 c1 A2 c2, s7 = .slice A1 ls.length c1 ∧ s8 = .slice A2 ms.length c2 ∧ Tr wx A1 ls ∧ Tr wx A2 ms ∧ Bl wz wx))
  case first =>
    --@F6@
    as_aux_lemma =>
      obtain ⟨d0, d1, d2, d3, d4, d5, d6, d7⟩ := ND.out
      go_region_held3 (fun w' => w'.cell? ⟨a0, 0, none⟩ = some (.int .u32 (U - 1)) ∧ w'.cell? ⟨a0, 1, none⟩ = some (.int .u32 (P - 1)) ∧ w'.cell? ⟨a0, 2, none⟩ = some (.slice gA0 gs0.length gc0) ∧ w'.cell? ⟨a0, 3, none⟩ = some (.slice sA0 ss0.length sc0) ∧ w'.cell? ⟨a0, 4, none⟩ = some (.int .u32 (V - 1)) ∧ w'.cell? ⟨a0, 5, none⟩ = some (.int .u32 (Q - 1)) ∧ w'.cell? ⟨a0, 6, none⟩ = some (.slice gA1 gs1.length gc1) ∧ w'.cell? ⟨a0, 7, none⟩ = some (.slice sA1 ss1.length sc1) ∧ Hid (Bl wz w')) (first | with_reducible assumption | (refine HDZ.out _ ?_; (repeat (first | exact BB.out | exact BA.out | exact Bl.refl _ | with_reducible refine Bl.drew ?_)); done) | fail) (first | (go_at_call 7; rename _ ∧ _ ∧ _ ∧ _ ∧ _ ∧ _ ∧ _ ∧ _ ∧ Hid (Bl wz _) => hq; ((with_reducible refine (H0.out _ (Hid.out hq.2.2.2.2.2.2.2.2)).mono ?_); rintro e wa ⟨A1, c1, rfl, -, hTA, hgrwa, -⟩; have BA := Lib.hid (Bl.trans (Hid.out hq.2.2.2.2.2.2.2.2) hgrwa); have TA := Lib.hid hTA; clear hTA)) | (go_at_call 7; rename _ ∧ _ ∧ _ ∧ _ ∧ _ ∧ _ ∧ _ ∧ _ ∧ Hid (Bl wz _) => hq; ((with_reducible refine (H1.out _ (Hid.out hq.2.2.2.2.2.2.2.2)).mono ?_); rintro e wb ⟨A2, c2, rfl, -, hTB, hgrwb, -⟩; have BB := Lib.hid (Bl.trans (Hid.out hq.2.2.2.2.2.2.2.2) hgrwb); have TB := Lib.hid hTB; clear hTB)) | fail)
      all_goals go_wp2_with fail
      all_goals go_meet
      all_goals (refine Lib.hid ⟨A1, c1, A2, c2, rfl, rfl, ?_, ?_, ?_⟩ <;> first | exact TA.out | exact TB.out | exact TA.out.go hgrwb | exact TB.out.go hgrwa | exact BA.out | exact BB.out)
    --@E6@
  obtain ⟨A1, c1, A2, c2, rfl, rfl, hTl, hTm, hBq⟩ := hcut.out
  have TL := Lib.hid hTl
  have TM := Lib.hid hTm
  have SAq := Lib.hid (SA.out.go hBq)
  have SBq := Lib.hid (SB.out.go hBq)
  have BQ := Lib.hid (BZ.out.trans hBq)
  clear hcut hTl hTm hBq SA SB ND BZ H0 H1 HDZ
  rename World => wq
  go_wp2_with fail
  obtain ⟨i0, hi, hz0, hz1, hz2⟩ := info_parts info_arr
  have HI := Lib.hid (And.intro hi (And.intro hz0 (And.intro hz1 hz2)))
  clear hi hz0 hz1 hz2
  have OL := Lib.hid (rtB_iff.1 LS.out.1).2
  have OM := Lib.hid (rtB_iff.1 MS.out.1).2
  have l30 := LS.out.2.2
  have m30 := MS.out.2.2
  go_loopw [9, 11, 12] (fun bv iv jv wr => ∃ (i j : Nat) (both : List (Int × Int)) (A3 : Option Addr) (c3 : Nat), i ≤ ls.length ∧ j ≤ ms.length ∧ iv = .int .i64 i ∧ jv = .int .i64 j ∧ bv = .slice A3 (i + j) c3 ∧ Hid (Mg ls ms both i j ∧ wr.ownsRow wq.heap.size 35 2 (.slice A3 (i + j) c3) (i + j) (flat both)) ∧ Hid (Bl wq wr)) (fun _ iv jv _ => ls.length + ms.length - (intOf iv).toNat - (intOf jv).toNat)
  case atStart => exact ⟨0, 0, [], none, 0, by omega, by omega, rfl, rfl, rfl, Lib.hid ⟨Mg.start OL.out OM.out, World.ownsRow_nil _ _ _ _⟩, Bl.refl _⟩
  case round =>
    obtain ⟨i, j, both, A3, c3, hi, hj, rfl, rfl, rfl, hOW, hB⟩ := hrel
    by_cases hil : i < ls.length
    · obtain ⟨bl, ol, e2, _, x0, x1⟩ := (TL.out.go hB.out) i hil
      subst e2
      have hilI : (i : Int) < (ls.length : Int) := by omega
      by_cases hjm : j < ms.length
      · obtain ⟨bm, om, e3, _, y0, y1⟩ := (TM.out.go hB.out) j hjm
        subst e3
        have hjmI : (j : Int) < (ms.length : Int) := by omega
        have hjne : ¬ (j : Int) = (ms.length : Int) := by omega
        by_cases hle : fs ls i ≤ fs ms j
        · have HM := Lib.hid (hOW.out.1.left OL.out hil (fun _ => hle))
          have OWr := Lib.hid hOW.out.2
          clear hOW
          go_wp2_with fail
          go_quiet (fail)
          go_upto_region 11 with fail
          have OW := Lib.hid (own_wend OWr.out ((Bl.refl wr).drewN nq))
          have BD := Lib.hid (hB.out.drewN nq)
          have z0 : (wr.drewN nq).cell? ⟨bl, ol + i * 2, none⟩ = some (.int .i64 (fs ls i)) := x0
          have z1 : (wr.drewN nq).cell? ⟨bl, ol + i * 2 + 1, none⟩ = some (.int .i64 (sn ls i)) := x1
          clear x0 x1 y0 y1 hle
          generalize (wr.drewN nq) = wd at *
          generalize hX : fs ls i = x at *
          generalize hY : sn ls i = y at *
          have OWa := Lib.hid (own_wend OW.out ((Bl.refl wd).alloc (.cells #[.int .i64 x, .int .i64 y] 35)))
          have BA := Lib.hid (BD.out.alloc (.cells #[.int .i64 x, .int .i64 y] 35))
          have hsz : wq.heap.size ≤ (wd.alloc (.cells #[.int .i64 x, .int .i64 y] 35)).heap.size := BA.out.size
          go_wp2_with (at_builtin; refine wpList_app _ rfl _ _ _ rfl wq.heap.size 35 i0 _ 16 Try.underlying32 HI.out.1 HI.out.2.1 HI.out.2.2.1 HI.out.2.2.2 rfl (.slice A3 (i + j) c3) (i + j) (flat both) rfl OWa.out (some ⟨wd.heap.size, 0, none⟩) 1 1 [(x, y)] rfl rfl (tr_nw wd x y _) (by unfold maxLen; omega) (by omega) hsz ?_; intro v1 w4 hown1 hgrow hat; clear hat; rw [← flat_append] at hown1; have G4 := Lib.hid (Bl.grownBy BA.out hgrow (own_block_ge OWa.out)); obtain ⟨-, A4, c4, rfl, -⟩ := Tr.of_own hown1; have OW4 := Lib.hid hown1; clear hown1 hgrow)
          go_roundw
          case rel => exact ⟨i + 1, j, both ++ [(x, y)], A4, c4, by omega, by omega, by go_num, by go_num, by rw [show i + 1 + j = i + j + 1 by omega], Lib.hid ⟨HM.out, by rw [show i + 1 + j = i + j + 1 by omega]; exact OW4.out⟩, G4⟩
          case measure => simp [intOf]; omega
        · have HM := Lib.hid (hOW.out.1.right OM.out hjm (fun _ => by omega))
          have hle' : fs ms j < fs ls i := by omega
          have hdec : decide (fs ls i ≤ fs ms j) = false := decide_eq_false hle
          have OWr := Lib.hid hOW.out.2
          clear hOW
          go_wp2_with fail
          go_quiet (fail)
          go_upto_region 13 with fail
          have OW := Lib.hid (own_wend OWr.out ((Bl.refl wr).drewN nq))
          have BD := Lib.hid (hB.out.drewN nq)
          have z0 : (wr.drewN nq).cell? ⟨bm, om + j * 2, none⟩ = some (.int .i64 (fs ms j)) := y0
          have z1 : (wr.drewN nq).cell? ⟨bm, om + j * 2 + 1, none⟩ = some (.int .i64 (sn ms j)) := y1
          clear x0 x1 y0 y1 hle hle' hdec
          generalize (wr.drewN nq) = wd at *
          generalize hX : fs ms j = x at *
          generalize hY : sn ms j = y at *
          have OWa := Lib.hid (own_wend OW.out ((Bl.refl wd).alloc (.cells #[.int .i64 x, .int .i64 y] 35)))
          have BA := Lib.hid (BD.out.alloc (.cells #[.int .i64 x, .int .i64 y] 35))
          have hsz : wq.heap.size ≤ (wd.alloc (.cells #[.int .i64 x, .int .i64 y] 35)).heap.size := BA.out.size
          go_wp2_with (at_builtin; refine wpList_app _ rfl _ _ _ rfl wq.heap.size 35 i0 _ 16 Try.underlying32 HI.out.1 HI.out.2.1 HI.out.2.2.1 HI.out.2.2.2 rfl (.slice A3 (i + j) c3) (i + j) (flat both) rfl OWa.out (some ⟨wd.heap.size, 0, none⟩) 1 1 [(x, y)] rfl rfl (tr_nw wd x y _) (by unfold maxLen; omega) (by omega) hsz ?_; intro v1 w4 hown1 hgrow hat; clear hat; rw [← flat_append] at hown1; have G4 := Lib.hid (Bl.grownBy BA.out hgrow (own_block_ge OWa.out)); obtain ⟨-, A4, c4, rfl, -⟩ := Tr.of_own hown1; have OW4 := Lib.hid hown1; clear hown1 hgrow)
          go_roundw
          case rel => exact ⟨i, j + 1, both ++ [(x, y)], A4, c4, by omega, by omega, by go_num, by go_num, rfl, Lib.hid ⟨HM.out, OW4.out⟩, G4⟩
          case measure => simp [intOf]; omega
      · obtain rfl : j = ms.length := by omega
        have HM := Lib.hid (hOW.out.1.left OL.out hil (fun h => absurd h (by omega)))
        have OWr := Lib.hid hOW.out.2
        clear hOW
        go_wp2_with fail
        go_quiet (fail)
        go_upto_region 11 with fail
        have OW := Lib.hid (own_wend OWr.out ((Bl.refl wr).drewN nq))
        have BD := Lib.hid (hB.out.drewN nq)
        have z0 : (wr.drewN nq).cell? ⟨bl, ol + i * 2, none⟩ = some (.int .i64 (fs ls i)) := x0
        have z1 : (wr.drewN nq).cell? ⟨bl, ol + i * 2 + 1, none⟩ = some (.int .i64 (sn ls i)) := x1
        clear x0 x1
        generalize (wr.drewN nq) = wd at *
        generalize hX : fs ls i = x at *
        generalize hY : sn ls i = y at *
        have OWa := Lib.hid (own_wend OW.out ((Bl.refl wd).alloc (.cells #[.int .i64 x, .int .i64 y] 35)))
        have BA := Lib.hid (BD.out.alloc (.cells #[.int .i64 x, .int .i64 y] 35))
        have hsz : wq.heap.size ≤ (wd.alloc (.cells #[.int .i64 x, .int .i64 y] 35)).heap.size := BA.out.size
        go_wp2_with (at_builtin; refine wpList_app _ rfl _ _ _ rfl wq.heap.size 35 i0 _ 16 Try.underlying32 HI.out.1 HI.out.2.1 HI.out.2.2.1 HI.out.2.2.2 rfl (.slice A3 (i + ms.length) c3) (i + ms.length) (flat both) rfl OWa.out (some ⟨wd.heap.size, 0, none⟩) 1 1 [(x, y)] rfl rfl (tr_nw wd x y _) (by unfold maxLen; omega) (by omega) hsz ?_; intro v1 w4 hown1 hgrow hat; clear hat; rw [← flat_append] at hown1; have G4 := Lib.hid (Bl.grownBy BA.out hgrow (own_block_ge OWa.out)); obtain ⟨-, A4, c4, rfl, -⟩ := Tr.of_own hown1; have OW4 := Lib.hid hown1; clear hown1 hgrow)
        go_roundw
        case rel => exact ⟨i + 1, ms.length, both ++ [(x, y)], A4, c4, by omega, by omega, by go_num, by go_num, by rw [show i + 1 + ms.length = i + ms.length + 1 by omega], Lib.hid ⟨HM.out, by rw [show i + 1 + ms.length = i + ms.length + 1 by omega]; exact OW4.out⟩, G4⟩
        case measure => simp [intOf]; omega
    · obtain rfl : i = ls.length := by omega
      by_cases hjm : j < ms.length
      · obtain ⟨bm, om, e3, _, y0, y1⟩ := (TM.out.go hB.out) j hjm
        subst e3
        have hjmI : (j : Int) < (ms.length : Int) := by omega
        have hjne : ¬ (j : Int) = (ms.length : Int) := by omega
        have HM := Lib.hid (hOW.out.1.right OM.out hjm (fun h => absurd h hil))
        have hd2 : ((j : Int) == (ms.length : Int)) = false := by simpa using hjne
        have OWr := Lib.hid hOW.out.2
        clear hOW
        go_wp2_with fail
        go_quiet (fail)
        go_upto_region 13 with fail
        have OW := Lib.hid (own_wend OWr.out ((Bl.refl wr).drewN nq))
        have BD := Lib.hid (hB.out.drewN nq)
        have z0 : (wr.drewN nq).cell? ⟨bm, om + j * 2, none⟩ = some (.int .i64 (fs ms j)) := y0
        have z1 : (wr.drewN nq).cell? ⟨bm, om + j * 2 + 1, none⟩ = some (.int .i64 (sn ms j)) := y1
        clear y0 y1 hd2
        generalize (wr.drewN nq) = wd at *
        generalize hX : fs ms j = x at *
        generalize hY : sn ms j = y at *
        have OWa := Lib.hid (own_wend OW.out ((Bl.refl wd).alloc (.cells #[.int .i64 x, .int .i64 y] 35)))
        have BA := Lib.hid (BD.out.alloc (.cells #[.int .i64 x, .int .i64 y] 35))
        have hsz : wq.heap.size ≤ (wd.alloc (.cells #[.int .i64 x, .int .i64 y] 35)).heap.size := BA.out.size
        go_wp2_with (at_builtin; refine wpList_app _ rfl _ _ _ rfl wq.heap.size 35 i0 _ 16 Try.underlying32 HI.out.1 HI.out.2.1 HI.out.2.2.1 HI.out.2.2.2 rfl (.slice A3 (ls.length + j) c3) (ls.length + j) (flat both) rfl OWa.out (some ⟨wd.heap.size, 0, none⟩) 1 1 [(x, y)] rfl rfl (tr_nw wd x y _) (by unfold maxLen; omega) (by omega) hsz ?_; intro v1 w4 hown1 hgrow hat; clear hat; rw [← flat_append] at hown1; have G4 := Lib.hid (Bl.grownBy BA.out hgrow (own_block_ge OWa.out)); obtain ⟨-, A4, c4, rfl, -⟩ := Tr.of_own hown1; have OW4 := Lib.hid hown1; clear hown1 hgrow)
        go_roundw
        case rel => exact ⟨ls.length, j + 1, both ++ [(x, y)], A4, c4, by omega, by omega, by go_num, by go_num, rfl, Lib.hid ⟨HM.out, OW4.out⟩, G4⟩
        case measure => simp [intOf]; omega
      · obtain rfl : j = ms.length := by omega
        obtain ⟨hM, hOw⟩ := hOW.out
        obtain ⟨-, A4, c4, e4, -, -, hTb, -⟩ := Tr.of_own hOw
        obtain ⟨rfl, rfl⟩ : A3 = A4 ∧ c3 = c4 := by injection e4 with h1 _ h3; exact ⟨h1, h3⟩
        clear e4 hOW hOw
        have bL : both.length = ls.length + ms.length := hM.len
        have FL := Lib.hid (cf_of_fit OL.out (by omega) (by omega) LS.out.2.1)
        have FM := Lib.hid (cf_of_fit OM.out (by omega) (by omega) MS.out.2.1)
        have BO := Lib.hid (show rtB both = true from rtB_iff.2 ⟨by omega, hM.ok⟩)
        have BF := Lib.hid (hM.fit FL.out FM.out)
        have TB := Lib.hid hTb
        clear hM hTb hil hjm hi hj
        rename World => we
        go_wp2_with fail
        go_loopw [10, 13] (fun pv iv wr => ∃ (k : Nat) (part : List (Int × Int)) (A5 : Option Addr) (c5 : Nat), k ≤ ls.length ∧ iv = .int .i64 k ∧ pv = .slice A5 part.length c5 ∧ Hid (Pt ls part k ∧ wr.ownsRow we.heap.size 35 2 (.slice A5 part.length c5) part.length (flat part)) ∧ Hid (Bl we wr)) (fun _ iv _ => ls.length - (intOf iv).toNat)
        case atStart => exact ⟨0, [], none, 0, by omega, rfl, rfl, Lib.hid ⟨Pt.start OL.out, World.ownsRow_nil _ _ _ _⟩, Lib.hid (Bl.refl _)⟩
        case round =>
          obtain ⟨k, part, A5, c5, hk, rfl, rfl, hP, hB2⟩ := hrel
          by_cases hlt : k < ls.length
          · obtain ⟨bl, ol, e2, _, x0, x1⟩ := (TL.out.go (hB.out.trans hB2.out)) k hlt
            subst e2
            by_cases hkk : k < bs.length
            · obtain ⟨bk, ok, e5, _, z0⟩ := (HK.out.go (BQ.out.trans (hB.out.trans hB2.out))) k hkk
              subst e5
              rcases bcase (bs.getD k false) with hv | hv
              · rw [hv] at z0
                have OW := Lib.hid hP.out.2
                have PT := Lib.hid (hP.out.1.keep OL.out hlt)
                have pl := hP.out.1.len
                have BD := hB2
                clear hP
                generalize hX : fs ls k = x at *
                generalize hY : sn ls k = y at *
                have OWa := Lib.hid (own_wend OW.out ((Bl.refl wr).alloc (.cells #[.int .i64 x, .int .i64 y] 35)))
                have BA := Lib.hid (BD.out.alloc (.cells #[.int .i64 x, .int .i64 y] 35))
                have hsz : we.heap.size ≤ (wr.alloc (.cells #[.int .i64 x, .int .i64 y] 35)).heap.size := BA.out.size
                go_wp2_with (at_builtin; refine wpList_app _ rfl _ _ _ rfl we.heap.size 35 i0 _ 16 Try.underlying32 HI.out.1 HI.out.2.1 HI.out.2.2.1 HI.out.2.2.2 rfl (.slice A5 part.length c5) part.length (flat part) rfl OWa.out (some ⟨wr.heap.size, 0, none⟩) 1 1 [(x, y)] rfl rfl (tr_nw wr x y _) (by unfold maxLen; omega) (by omega) hsz ?_; intro v1 w4 hown1 hgrow hat; clear hat; rw [← flat_append] at hown1; have G4 := Lib.hid (Bl.grownBy BA.out hgrow (own_block_ge OWa.out)); obtain ⟨-, A6, c6, rfl, -⟩ := Tr.of_own hown1; have OW4 := Lib.hid hown1; clear hown1 hgrow)
                go_roundw
                case rel => exact ⟨k + 1, part ++ [(x, y)], A6, c6, by omega, by go_num, by rw [List.length_append]; rfl, Lib.hid ⟨PT.out, by rw [List.length_append]; exact OW4.out⟩, G4⟩
                case measure => simp [intOf]; omega
              · rw [hv] at z0
                go_wp2_with fail
                have PT := Lib.hid (And.intro (hP.out.1.skip OL.out hlt) hP.out.2)
                clear hP
                go_roundw
                case rel => exact ⟨k + 1, part, A5, c5, by omega, by go_num, rfl, PT, hB2⟩
                case measure => simp [intOf]; omega
            · have OW := Lib.hid hP.out.2
              have PT := Lib.hid (hP.out.1.keep OL.out hlt)
              have pl := hP.out.1.len
              have BD := hB2
              clear hP
              generalize hX : fs ls k = x at *
              generalize hY : sn ls k = y at *
              have OWa := Lib.hid (own_wend OW.out ((Bl.refl wr).alloc (.cells #[.int .i64 x, .int .i64 y] 35)))
              have BA := Lib.hid (BD.out.alloc (.cells #[.int .i64 x, .int .i64 y] 35))
              have hsz : we.heap.size ≤ (wr.alloc (.cells #[.int .i64 x, .int .i64 y] 35)).heap.size := BA.out.size
              go_wp2_with (at_builtin; refine wpList_app _ rfl _ _ _ rfl we.heap.size 35 i0 _ 16 Try.underlying32 HI.out.1 HI.out.2.1 HI.out.2.2.1 HI.out.2.2.2 rfl (.slice A5 part.length c5) part.length (flat part) rfl OWa.out (some ⟨wr.heap.size, 0, none⟩) 1 1 [(x, y)] rfl rfl (tr_nw wr x y _) (by unfold maxLen; omega) (by omega) hsz ?_; intro v1 w4 hown1 hgrow hat; clear hat; rw [← flat_append] at hown1; have G4 := Lib.hid (Bl.grownBy BA.out hgrow (own_block_ge OWa.out)); obtain ⟨-, A6, c6, rfl, -⟩ := Tr.of_own hown1; have OW4 := Lib.hid hown1; clear hown1 hgrow)
              go_roundw
              case rel => exact ⟨k + 1, part ++ [(x, y)], A6, c6, by omega, by go_num, by rw [List.length_append]; rfl, Lib.hid ⟨PT.out, by rw [List.length_append]; exact OW4.out⟩, G4⟩
              case measure => simp [intOf]; omega
          · obtain rfl : k = ls.length := by omega
            obtain ⟨hPt, hOw2⟩ := hP.out
            obtain ⟨-, A7, c7, e7, -, -, hTp, -⟩ := Tr.of_own hOw2
            obtain ⟨rfl, rfl⟩ : A5 = A7 ∧ c5 = c7 := by injection e7 with h1 _ h3; exact ⟨h1, h3⟩
            have pL := hPt.len
            have PF := Lib.hid (hPt.fit FL.out)
            have PO := Lib.hid (show rtB part = true from rtB_iff.2 ⟨by omega, hPt.ok⟩)
            have TP := Lib.hid hTp
            have TBf := Lib.hid (TB.out.go hB2.out)
            have SAf := Lib.hid (SAq.out.go (hB.out.trans hB2.out))
            have SBf := Lib.hid (SBq.out.go (hB.out.trans hB2.out))
            have BT := Lib.hid (BQ.out.trans (hB.out.trans hB2.out))
            rename World => wf
            have bkA : bkB U P = true := bkB_iff.2 (by omega)
            have KP := Lib.hid (fun (W : World) (h : Tr W A5 part) => lfits_v (u := U) (R := P) rfl ((coB_ok bkA PO.out).trans PF.out) (by omega) A5 c5 W h)
            clear e7 hP hOw2 hTp hPt hk hlt bkA PF PO
            have s0 := SAf.out.c0
            have s1 := SAf.out.c1
            have t0 := SBf.out.c0
            have t1 := SBf.out.c1
            have sl := SAf.out.lt
            have tl := SBf.out.lt
            by_cases hbig : U + V ≤ 1048576
            · have KS := Lib.hid (fun A cap w hT => sum_v (two_ok U1 V1 P1 Q1 hbig) A cap w (by simp) hT)
              have KB := Lib.hid (fun (W : World) (h : Tr W A3 both) => lfits_v (u := U + V) (R := P + Q) (len := ls.length + ms.length) bL ((coB_ok (bkB_iff.2 (by omega)) BO.out).trans BF.out) (by omega) A3 c3 W h)
              clear bL BO BF pL
              go_wp2_with fail
              refine (KS.out _ _ _ (tr_new2 wf U P V Q _)).mono ?_; rintro e w5 ⟨rfl, gr⟩
              have g5 := ((Bl.refl wf).alloc _).trans gr
              have SA5 := Lib.hid (SAf.out.go g5)
              have SB5 := Lib.hid (SBf.out.go g5)
              have TP5 := Lib.hid (TP.out.go g5)
              have TB5 := Lib.hid (TBf.out.go g5)
              have BT5 := Lib.hid (BT.out.trans g5)
              clear s0 s1 t0 t1 sl tl g5 gr SAf SBf TP TBf BT
              have s0 := SA5.out.c0
              have s1 := SA5.out.c1
              have t0 := SB5.out.c0
              have t1 := SB5.out.c1
              have sl := SA5.out.lt
              have tl := SB5.out.lt
              go_wp2_with fail
              refine (KB.out _ (TB5.out.go ((Bl.refl _).alloc _))).mono ?_; rintro e w6 ⟨rfl, gr⟩
              have g6 := ((Bl.refl w5).alloc _).trans gr
              have SA6 := Lib.hid (SA5.out.go g6)
              have TP6 := Lib.hid (TP5.out.go g6)
              have BT6 := Lib.hid (BT5.out.trans g6)
              clear s0 s1 t0 t1 sl tl g6 gr SA5 SB5 TP5 TB5 BT5
              have s0 := SA6.out.c0
              have s1 := SA6.out.c1
              have sl := SA6.out.lt
              go_wp2_with fail
              refine (KP.out _ TP6.out).mono ?_; rintro e w7 ⟨rfl, gr⟩
              have BT7 := Lib.hid (BT6.out.trans gr)
              clear s0 s1 sl gr SA6 TP6 BT6
              go_wp2_with fail
              go_ret
              exact ⟨rfl, BT7.out⟩
            · have hbig' : 1048576 < U + V := by omega
              have KS := Lib.hid (fun A cap w hT => sum_v (two_big U1 V1 P1 Q1 hbig') A cap w (by simp) hT)
              clear bL BO BF pL
              go_wp2_with fail
              refine (KS.out _ _ _ (tr_new2 wf U P V Q _)).mono ?_; rintro e w5 ⟨rfl, gr⟩
              have g5 := ((Bl.refl wf).alloc _).trans gr
              have SA5 := Lib.hid (SAf.out.go g5)
              have SB5 := Lib.hid (SBf.out.go g5)
              have TP5 := Lib.hid (TP.out.go g5)
              have BT5 := Lib.hid (BT.out.trans g5)
              clear s0 s1 t0 t1 sl tl g5 gr SAf SBf TP TBf BT
              have s0 := SA5.out.c0
              have s1 := SA5.out.c1
              have t0 := SB5.out.c0
              have t1 := SB5.out.c1
              have sl := SA5.out.lt
              have tl := SB5.out.lt
              go_wp2_with fail
              refine (KP.out _ (TP5.out.go ((Bl.refl _).alloc _))).mono ?_; rintro e w7 ⟨rfl, gr⟩
              have BT7 := Lib.hid (BT5.out.trans (((Bl.refl w5).alloc _).trans gr))
              clear s0 s1 t0 t1 sl tl gr SA5 SB5 TP5 BT5
              go_wp2_with fail
              go_ret
              exact ⟨rfl, BT7.out⟩

end Go.Proofs.Ytajlcagbfebbjaa
