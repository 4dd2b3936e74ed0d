/-
  What Conforming of a draft returns.
-/
import Derived.Test.YtajlcagbfebbjaaBt
import Derived.Test.YtajlcagbfebbjaaBu
namespace Go.Proofs.Ytajlcagbfebbjaa
open Go.RowKit

/-- What has been kept of the first k arrivals. -/
def cnfS (u R : Int) (xs : List (Int × Int)) : Nat → List (Int × Int)
  | 0 => []
  | k + 1 => if fitB (cnfS u R xs k ++ [(fs xs k, sn xs k)]) u R then cnfS u R xs k ++ [(fs xs k, sn xs k)] else cnfS u R xs k
def cnf (u R : Int) (xs : List (Int × Int)) : List (Int × Int) := cnfS u R xs xs.length
theorem cnfS_len (u R : Int) (xs : List (Int × Int)) (k : Nat) : (cnfS u R xs k).length ≤ k := by
  induction k with
  | zero => exact Nat.le_refl 0
  | succ k ih =>
    show (if _ then _ else _ : List (Int × Int)).length ≤ _
    split
    · rw [List.length_append, List.length_singleton]; omega
    · omega
theorem fs_app {ys : List (Int × Int)} {p : Int × Int} {j : Nat} (h : j < ys.length) : fs (ys ++ [p]) j = fs ys j ∧ sn (ys ++ [p]) j = sn ys j := by
  unfold fs sn; simp [List.getD_eq_getElem?_getD, List.getElem?_append_left h]
theorem fs_last (ys : List (Int × Int)) (p : Int × Int) : fs (ys ++ [p]) ys.length = p.1 ∧ sn (ys ++ [p]) ys.length = p.2 := by
  unfold fs sn; simp [List.getD_eq_getElem?_getD]
theorem prev_app {ys : List (Int × Int)} {p : Int × Int} {j : Nat} (h : j ≤ ys.length) : prev (ys ++ [p]) j = prev ys j := by
  cases j with
  | zero => rfl
  | succ j => exact (fs_app (by omega)).1
theorem rt_snoc {ys : List (Int × Int)} {a s : Int} (h : rtB ys = true) (hl : ys.length < 200) (ha : prev ys ys.length ≤ a ∧ a ≤ 1099511627776) (hs : 1 ≤ s ∧ s ≤ 1048576) : rtB (ys ++ [(a, s)]) = true := by
  obtain ⟨_, h2⟩ := rtB_iff.1 h
  refine rtB_iff.2 ⟨by rw [List.length_append, List.length_singleton]; omega, fun k hk => ?_⟩
  rw [List.length_append, List.length_singleton] at hk
  unfold okAt
  rcases Nat.lt_or_ge k ys.length with hlt | hge
  · have := h2 k hlt
    unfold okAt at this
    rw [(fs_app hlt).1, (fs_app hlt).2, prev_app (by omega)]
    exact this
  · obtain rfl : k = ys.length := by omega
    rw [(fs_last ys _).1, (fs_last ys _).2, prev_app (Nat.le_refl _)]
    exact ⟨ha, hs⟩
theorem prev_last (ys : List (Int × Int)) (p : Int × Int) : prev (ys ++ [p]) (ys ++ [p]).length = p.1 := by
  rw [List.length_append, List.length_singleton]
  exact (fs_last ys p).1
theorem cnfS_ok {u R : Int} {xs : List (Int × Int)} (h : rtB xs = true) (k : Nat) (hk : k ≤ xs.length) : rtB (cnfS u R xs k) = true ∧ prev (cnfS u R xs k) (cnfS u R xs k).length ≤ prev xs k := by
  obtain ⟨h1, h2⟩ := rtB_iff.1 h
  induction k with
  | zero => exact ⟨by rfl, Int.le_refl _⟩
  | succ k ih =>
    obtain ⟨i1, i2⟩ := ih (by omega)
    have ok := h2 k (by omega)
    unfold okAt at ok
    have hl := cnfS_len u R xs k
    have e : prev xs (k + 1) = fs xs k := rfl
    by_cases hf : fitB (cnfS u R xs k ++ [(fs xs k, sn xs k)]) u R = true
    · have e2 : cnfS u R xs (k + 1) = cnfS u R xs k ++ [(fs xs k, sn xs k)] := if_pos hf
      rw [e2, e, prev_last]
      exact ⟨rt_snoc i1 (by omega) (by omega) ok.2, Int.le_refl _⟩
    · have e2 : cnfS u R xs (k + 1) = cnfS u R xs k := if_neg hf
      rw [e2, e]
      exact ⟨i1, by omega⟩
theorem cnfS_nx {u R : Int} {xs : List (Int × Int)} (h : rtB xs = true) (k : Nat) (hk : k < xs.length) : rtB (cnfS u R xs k ++ [(fs xs k, sn xs k)]) = true := by
  obtain ⟨i1, i2⟩ := cnfS_ok (u := u) (R := R) h k (by omega)
  obtain ⟨h1, h2⟩ := rtB_iff.1 h
  have ok := h2 k hk
  unfold okAt at ok
  have hl := cnfS_len u R xs k
  exact rt_snoc i1 (by omega) (by omega) ok.2
theorem fitB_nil (u R : Int) : fitB [] u R = true := fitB_iff.2 (fun i m h => by simp at h)
theorem cnfS_fit {u R : Int} {xs : List (Int × Int)} (k : Nat) : fitB (cnfS u R xs k) u R = true := by
  induction k with
  | zero => exact fitB_nil u R
  | succ k ih =>
    by_cases hf : fitB (cnfS u R xs k ++ [(fs xs k, sn xs k)]) u R = true
    · have e2 : cnfS u R xs (k + 1) = cnfS u R xs k ++ [(fs xs k, sn xs k)] := if_pos hf
      rw [e2]; exact hf
    · have e2 : cnfS u R xs (k + 1) = cnfS u R xs k := if_neg hf
      rw [e2]; exact ih

/-- A slice that holds a list, in a block from base on. -/
def SlT (base : Nat) (v : Value) (os : List (Int × Int)) (w : World) : Prop := ∃ A c, v = .slice A os.length c ∧ os.length ≤ c ∧ Tr w A os ∧ ∀ b off, A = some ⟨b, off, none⟩ → base ≤ b
theorem SlT.go {base : Nat} {v : Value} {os : List (Int × Int)} {w w' : World} (h : SlT base v os w) (g : Bl w w') : SlT base v os w' := by
  obtain ⟨A, c, h1, h2, h3, h4⟩ := h
  exact ⟨A, c, h1, h2, h3.go g, h4⟩
theorem SlT.nil (base : Nat) (w : World) : SlT base (.slice none 0 0) [] w := ⟨none, 0, rfl, Nat.le_refl _, Tr.nil, fun _ _ h => by cases h⟩
theorem SlT.app {w2 : World} {base bs gg m cap : Nat} {os : List (Int × Int)} {x y : Int} {e : TypeId} (h : w2.ownsRow bs e 2 (.slice (some ⟨gg, 0, none⟩) (0 + m + 1) cap) (0 + m + 1) (([] ++ flat os) ++ [.int .i64 x, .int .i64 y])) (hb : base ≤ bs) :
    SlT base (.slice (some ⟨gg, 0, none⟩) (m + 1) cap) (os ++ [(x, y)]) w2 := by
  rw [List.nil_append, ← flat_one, ← flat_append, Nat.zero_add] at h
  obtain ⟨hl, A, c, e1, h1, _, h3, h4⟩ := Tr.of_own h
  injection e1 with e2 e3 e4
  subst e2 e4
  exact ⟨_, _, by rw [← hl], by rw [← hl]; exact h1, h3, fun b off h => Nat.le_trans hb (h4 b off h)⟩
theorem lit1 (w : World) (e : TypeId) : (w.alloc (.cells #[] e)).drew.ownsRow w.heap.size e 2 (.slice (some ⟨w.heap.size, 0, none⟩) 0 0) 0 [] := World.ownsRow_lit w #[] 0 (Nat.le_refl _) (Nat.zero_le _) rfl
theorem lit2 (w : World) (e : TypeId) (o : Obj) : ((w.alloc (.cells #[] e)).alloc o).drew.ownsRow w.heap.size e 2 (.slice (some ⟨w.heap.size, 0, none⟩) 0 0) 0 [] := (World.ownsRow_lit w #[] 0 (Nat.le_refl _) (Nat.zero_le _) rfl).alloc o
theorem lit3 (w : World) (e : TypeId) (o : Obj) : ((w.alloc o).alloc (.cells #[] e)).drew.ownsRow w.heap.size e 2 (.slice (some ⟨w.heap.size + 1, 0, none⟩) 0 0) 0 [] := by
  have h := World.ownsRow_lit (base := w.heap.size) (e := e) (size := 2) (w.alloc o) #[] 0 (by simp) (Nat.zero_le _) rfl
  rw [World.size_alloc] at h
  exact h
theorem blk2 (w : World) (o : Obj) (cs : Array Value) (t : TypeId) : ((w.alloc o).alloc (.cells cs t)).heap[w.heap.size + 1]? = some (.cells cs t (0, 0)) := by
  have h := heap_alloc_new (w.alloc o) (.cells cs t)
  rw [World.size_alloc] at h
  exact h
theorem blk1 (w : World) (o : Obj) (cs : Array Value) (t : TypeId) : ((w.alloc (.cells cs t)).alloc o).heap[w.heap.size]? = some (.cells cs t (0, 0)) :=
  (Below.heap_alloc _ _ _ (by simp)).trans (heap_alloc_new w _)

theorem keepD {wr : World} {b o1 o2 : Nat} {x y : Value} (h0 : wr.cell? ⟨b, o1, none⟩ = some x) (h1 : wr.cell? ⟨b, o2, none⟩ = some y) : wr.drew.cell? ⟨b, o1, none⟩ = some x ∧ wr.drew.cell? ⟨b, o2, none⟩ = some y ∧ Hid (Bl wr wr.drew) := ⟨h0, h1, (Bl.refl wr).drew⟩
theorem keepA {wr w1 : World} {b o1 o2 : Nat} {x y : Value} (o : Obj) (hb : b < wr.heap.size) (h : w1.cell? ⟨b, o1, none⟩ = some x ∧ w1.cell? ⟨b, o2, none⟩ = some y ∧ Hid (Bl wr w1)) : (w1.alloc o).cell? ⟨b, o1, none⟩ = some x ∧ (w1.alloc o).cell? ⟨b, o2, none⟩ = some y ∧ Hid (Bl wr (w1.alloc o)) := by
  have hlt : b < w1.heap.size := Nat.lt_of_lt_of_le hb h.2.2.out.size
  exact ⟨(World.cell?_alloc_lt _ _ _ hlt).trans h.1, (World.cell?_alloc_lt _ _ _ hlt).trans h.2.1, h.2.2.out.alloc _⟩
theorem keepAd {wr w1 : World} {b o1 o2 : Nat} {x y : Value} (o : Obj) (hb : b < wr.heap.size) (h : w1.drew.cell? ⟨b, o1, none⟩ = some x ∧ w1.drew.cell? ⟨b, o2, none⟩ = some y ∧ Hid (Bl wr w1.drew)) : (w1.alloc o).drew.cell? ⟨b, o1, none⟩ = some x ∧ (w1.alloc o).drew.cell? ⟨b, o2, none⟩ = some y ∧ Hid (Bl wr (w1.alloc o).drew) := keepA (w1 := w1.drew) o hb h
theorem keepG {wr w1 w2 : World} {b o1 o2 : Nat} {x y : Value} {row : Option Nat} (hb : b < wr.heap.size) (h : w1.cell? ⟨b, o1, none⟩ = some x ∧ w1.cell? ⟨b, o2, none⟩ = some y ∧ Hid (Bl wr w1)) (hg : w1.grownBy w2 row) (hr : ∀ k, row = some k → wr.heap.size ≤ k) :
    w2.cell? ⟨b, o1, none⟩ = some x ∧ w2.cell? ⟨b, o2, none⟩ = some y ∧ Hid (Bl wr w2) := by
  have h3 := h.2.2.out.grownBy hg hr
  have hlt : b < w1.heap.size := Nat.lt_of_lt_of_le hb h.2.2.out.size
  have hne : some b ≠ row := fun e => by have := hr b e.symm; omega
  exact ⟨(hg.cell_far ⟨b, o1, none⟩ hlt hne).trans h.1, (hg.cell_far ⟨b, o2, none⟩ hlt hne).trans h.2.1, h3⟩

set_option maxRecDepth 100000 in
set_option maxHeartbeats 8000000 in
theorem dconf_any (B R : Int) (gA : Option Addr) (gc : Nat) (sA : Option Addr) (sc : Nat) (gs ss : List Int) (w : World) (hB : 0 ≤ B ∧ B ≤ 4294967295) (hR : 0 ≤ R ∧ R ≤ 4294967295) (hg : Us w gA gs) (hs : Us w sA ss) (ug : U16 gs) (us : U16 ss) (sl : (ss.length : Int) ≤ 9223372036854775807) :
    Calls Try.prog 7 #[drV B R gA gs.length gc sA ss.length sc] w (TrRes w (cnf (dBu B) (dRa R) (dTr gs ss))) := by
  unfold drV
  have HG := Lib.hid hg
  have HS := Lib.hid hs
  go_enter Try.func7, Try.ntmps7
  go_wp2_with fail
  have hd : D4 w.heap.size B R (.slice gA gs.length gc) (.slice sA ss.length sc) (w.alloc (.cells #[.int .u32 B, .int .u32 R, .slice gA gs.length gc, .slice sA ss.length sc] 25)) (w.alloc (.cells #[.int .u32 B, .int .u32 R, .slice gA gs.length gc, .slice sA ss.length sc] 25)) :=
    ⟨by simp [go_sem], by simp [go_sem], by simp [go_sem], by simp [go_sem], Bl.refl _⟩
  have hb0 : Bl w (w.alloc (.cells #[.int .u32 B, .int .u32 R, .slice gA gs.length gc, .slice sA ss.length sc] 25)) := (Bl.refl w).alloc _
  have k4 : w.heap.size < (w.alloc (.cells #[.int .u32 B, .int .u32 R, .slice gA gs.length gc, .slice sA ss.length sc] 25)).heap.size := by simp
  have HD := Lib.hid hd
  have HB0 := Lib.hid hb0
  have K4 := Lib.hid k4
  clear hd hb0 k4
  generalize (w.alloc (.cells #[.int .u32 B, .int .u32 R, .slice gA gs.length gc, .slice sA ss.length sc] 25)) = W at *
  have H1 := Lib.hid (fun w' => (by have := dbucket_any B R gA gs.length gc sA ss.length sc w' hB hR; unfold drV at this; exact this : Calls Try.prog 6 #[.agg #[.int .u32 B, .int .u32 R, .slice gA gs.length gc, .slice sA ss.length sc]] w' fun e w'' => e = .returned (.agg #[.int .i64 (dBu B), .int .i64 (dRa R)]) ∧ Bl w' w''))
  have H2 := Lib.hid (fun (w' : World) (h : w'.cell? ⟨w.heap.size, 0, none⟩ = some (.int .u32 B) ∧ w'.cell? ⟨w.heap.size, 1, none⟩ = some (.int .u32 R) ∧ w'.cell? ⟨w.heap.size, 2, none⟩ = some (.slice gA gs.length gc) ∧ w'.cell? ⟨w.heap.size, 3, none⟩ = some (.slice sA ss.length sc) ∧ Hid (Bl W w')) => (by have := dtrace_any B R gA gc sA sc gs ss w' (HG.out.go (HB0.out.trans h.2.2.2.2.out)) (HS.out.go (HB0.out.trans h.2.2.2.2.out)) ug us sl; unfold drV at this; exact this : Calls Try.prog 18 #[.agg #[.int .u32 B, .int .u32 R, .slice gA gs.length gc, .slice sA ss.length sc]] w' (TrRes w' (dTr gs ss))))
  have HOK := Lib.hid (dT_ok ug us (n := min ss.length 30) (by omega))
  clear hg hs ug us hB hR
  have k0 := HD.out.1
  have k1 := HD.out.2.1
  have k2 := HD.out.2.2.1
  have k3 := HD.out.2.2.2.1
  generalize w.heap.size = a0 at *
  go_upto_region 2 with fail
  go_cut [4, 5] (fun s4 s5 wx => Hid (MadeBT W (dBu B) (dRa R) (dTr gs ss) s4 s5 wx))
  case first =>
    go_region_held3 (fun w' => w'.cell? ⟨a0, 0, none⟩ = some (.int .u32 B) ∧ w'.cell? ⟨a0, 1, none⟩ = some (.int .u32 R) ∧ w'.cell? ⟨a0, 2, none⟩ = some (.slice gA gs.length gc) ∧ w'.cell? ⟨a0, 3, none⟩ = some (.slice sA ss.length sc) ∧ Hid (Bl W w')) (first | with_reducible exact D4.drew HD.out | with_reducible assumption | with_reducible exact sb.out | (rename _ ∧ _ ∧ _ ∧ _ ∧ Hid (Bl W _) => hq; (first | exact D4.step K4 hq hgr | exact D4.dalloc K4 _ hq | exact D4.alloc K4 _ hq | exact D4.alloc K4 _ sb.out | exact D4.set K4 (Nat.le_refl _) _ _ hq | exact D4.set K4 qz _ _ hq))) (first | (go_at_call 6; rename _ ∧ _ ∧ _ ∧ _ ∧ Hid (Bl W _) => hq; ((with_reducible refine (H1.out _).mono ?_); rintro e wa ⟨rfl, hgr⟩; have sb := Lib.hid (D4.step K4 hq hgr); have qz : W.heap.size ≤ wa.heap.size := sb.out.2.2.2.2.out.size; first | (with_reducible have q := Lib.hid (Sl.newD hgr)) | (have q := True.intro))) | (go_at_call 18; rename _ ∧ _ ∧ _ ∧ _ ∧ Hid (Bl W _) => hq; ((with_reducible refine (H2.out _ hq).mono ?_); rintro e wb ⟨A, cc, rfl, hcc, hT, hgr, hfr⟩; have sb := Lib.hid (D4.step K4 hq hgr); first | ((with_reducible have q2 := Lib.hid (Sl.newP hgr)); have p0 := q2.out.c0; have p1 := q2.out.c1; have p2 := q2.out.f0; have p3 := q2.out.f1) | ((with_reducible have q2 := Lib.hid (Sl.go (Hid.out q) hgr)); have p0 := q2.out.c0; have p1 := q2.out.c1; have p2 := q2.out.f0; have p3 := q2.out.f1) | (have q2 := True.intro))))
    all_goals go_wp2_with fail
    all_goals go_meet
    case rel => exact ⟨_, A, cc, rfl, rfl, hcc, Sl.new wb _ _ _, hT.go ((Bl.refl _).alloc _), sb.out.2.2.2.2.out.alloc _⟩
    case rel => exact ⟨_, A, cc, rfl, rfl, hcc, (q2.out.set0 _).set1 _, (hT.setCell 0 _ (fun b off h => by have := hfr b off h; simp at this; omega)).setCell 1 _ (fun b off h => by have := hfr b off h; simp at this; omega), (sb.out.2.2.2.2.out.setCell qz _).setCell qz _⟩
    case rel => exact ⟨_, A, cc, rfl, rfl, hcc, (q2.out.set0 _).set1 _, (hT.setCell 0 _ (fun b off h => by have := hfr b off h; have := q.out.lt; simp at *; omega)).setCell 1 _ (fun b off h => by have := hfr b off h; have := q.out.lt; simp at *; omega), (sb.out.2.2.2.2.out.setCell (Nat.le_refl _) _).setCell (Nat.le_refl _) _⟩
  have hok : rtB (dTr gs ss) = true := HOK.out
  have hbk := dB_ok B R
  have hlen : (dTr gs ss).length ≤ 30 := by unfold dTr; rw [dT_len]; omega
  obtain ⟨xs, hxs⟩ : ∃ xs, dTr gs ss = xs := ⟨_, rfl⟩
  obtain ⟨u, hu⟩ : ∃ u, dBu B = u := ⟨_, rfl⟩
  obtain ⟨r, hr⟩ : ∃ r, dRa R = r := ⟨_, rfl⟩
  rw [hxs, hu, hr] at hcut
  rw [hxs] at hok hlen
  rw [hu, hr] at hbk
  have HXS := Lib.hid hxs
  have HU := Lib.hid hu
  have HR := Lib.hid hr
  have HBK := Lib.hid hbk
  have HOK' := Lib.hid hok
  clear hxs hu hr hok hbk HOK
  obtain ⟨b, A5, c5, rfl, rfl, hc5, hSl, hT5, hBl⟩ := hcut
  have SL0 := Lib.hid hSl
  have T50 := Lib.hid hT5
  have BW := Lib.hid hBl
  clear hSl hT5 hBl
  obtain ⟨i0, hi, hz0, hz1, hz2⟩ := info_parts info_arr
  have HI := Lib.hid hi
  have HZ0 := Lib.hid hz0
  have HZ1 := Lib.hid hz1
  have HZ2 := Lib.hid hz2
  clear hi hz0 hz1 hz2
  go_wp2_with fail
  go_loopw [3, 6] (fun v iv wr => ∃ k : Nat, k ≤ xs.length ∧ iv = .int .i64 k ∧ Hid (SlT W.heap.size v (cnfS u r xs k) wr) ∧ Hid (Bl wc wr)) (fun _ iv _ => xs.length - (intOf iv).toNat)
  case atStart => exact ⟨0, Nat.zero_le _, rfl, SlT.nil _ _, Bl.refl _⟩
  case round =>
    obtain ⟨k, hk, rfl, hv, hw⟩ := hrel
    by_cases hlt : k < xs.length
    · obtain ⟨A, c, rfl, hcc, hT, hfr⟩ := hv.out
      have HT := Lib.hid hT
      have HFR := Lib.hid hfr
      have HCC := Lib.hid hcc
      clear hv hT hfr hcc
      have hl := cnfS_len u r xs k
      obtain ⟨b6, off6, ea, hb6, x0, x1⟩ := T50.out.go hw.out k hlt
      have nx := cnfS_nx (u := u) (R := r) HOK'.out k hlt
      have stepT : fitB (cnfS u r xs k ++ [(fs xs k, sn xs k)]) u r = true → cnfS u r xs (k + 1) = cnfS u r xs k ++ [(fs xs k, sn xs k)] := fun h => if_pos h
      have stepF : fitB (cnfS u r xs k ++ [(fs xs k, sn xs k)]) u r = false → cnfS u r xs (k + 1) = cnfS u r xs k := fun h => if_neg (by simp [h])
      obtain ⟨x, hx⟩ : ∃ x, fs xs k = x := ⟨_, rfl⟩
      obtain ⟨y, hy⟩ : ∃ y, sn xs k = y := ⟨_, rfl⟩
      obtain ⟨os, hos⟩ : ∃ os, cnfS u r xs k = os := ⟨_, rfl⟩
      rw [hx, hy, hos] at nx stepT stepF
      rw [hx] at x0
      rw [hy] at x1
      rw [hos] at HT HCC hl ⊢
      have STT := Lib.hid stepT
      have STF := Lib.hid stepF
      have NX := Lib.hid nx
      clear hx hy nx stepT stepF hos
      subst ea
      have j0 : (0 : Int) ≤ (k : Int) := by omega
      have j1 : (k : Int) < (xs.length : Int) := by omega
      obtain ⟨m, hm⟩ : ∃ m, os.length = m := ⟨_, rfl⟩
      rw [hm] at HCC hl ⊢
      have HM := Lib.hid hm.symm
      clear hm
      go_wp2_with fail
      go_upto_region 6 with fail
      go_cut [7] (fun s7 wx => Hid (SlT W.heap.size s7 (os ++ [(x, y)]) wx ∧ Bl wr wx))
      case first =>
        go_region_held3 (fun w' => w'.cell? ⟨b6, off6 + k * 2, none⟩ = some (.int .i64 x) ∧ w'.cell? ⟨b6, off6 + k * 2 + 1, none⟩ = some (.int .i64 y) ∧ Hid (Bl wr w')) (first | with_reducible exact keepD x0 x1 | with_reducible assumption | (rename _ ∧ _ ∧ Hid (Bl wr _) => hq; (first | exact keepAd _ hb6 hq | exact keepA _ hb6 hq | exact keepG hb6 hq hgrow hge.out))) (first | (have hge := Lib.hid (own_block_ge hown1); refine step_append_lies _ (by rfl) _ _ _ (by rfl) wr.heap.size 35 i0 _ 2 16 Try.underlying32 HI.out HZ0.out HZ1.out HZ2.out rfl (by omega) v1 (0 + m) ([] ++ flat os) (by rfl) (hown1.alloc _) ⟨w1.heap.size, 0, none⟩ 1 1 [.int .i64 x, .int .i64 y] (by rfl) (by rfl) (World.news_of_block (cs := #[.int .i64 x, .int .i64 y]) (t := 35) (fr := (0, 0)) (heap_alloc_new w1 _)) (by simp [Value.oneCell']) (by omega) (by unfold maxLen; omega) (by omega) (by simp <;> omega) (w1.heap.size + 1) (by simp) ?_; intro gg cap' w2 hown2 hgrow hat hlt2; clear hat hlt2) | (have hge := Lib.hid (own_block_ge hown1); refine step_append_lies _ (by rfl) _ _ _ (by rfl) wr.heap.size 35 i0 _ 2 16 Try.underlying32 HI.out HZ0.out HZ1.out HZ2.out rfl (by omega) v1 (0 + m) ([] ++ flat os) (by rfl) (hown1) ⟨wr.heap.size + 1, 0, none⟩ 1 1 [.int .i64 x, .int .i64 y] (by rfl) (by rfl) (World.news_of_block (cs := #[.int .i64 x, .int .i64 y]) (t := 35) (fr := (0, 0)) (hnb)) (by simp [Value.oneCell']) (by omega) (by unfold maxLen; omega) (by omega) hsz w1.heap.size (by rfl) ?_; intro gg cap' w2 hown2 hgrow hat hlt2; clear hat hlt2) | (have hge := Lib.hid (own_block_ge hown1); refine step_append_lies _ (by rfl) _ _ _ (by rfl) wr.heap.size 35 i0 _ 2 16 Try.underlying32 HI.out HZ0.out HZ1.out HZ2.out rfl (by omega) v1 (0 + m) ([] ++ flat os) (by rfl) (hown1) ⟨wr.heap.size, 0, none⟩ 1 1 [.int .i64 x, .int .i64 y] (by rfl) (by rfl) (World.news_of_block (cs := #[.int .i64 x, .int .i64 y]) (t := 35) (fr := (0, 0)) (hnb)) (by simp [Value.oneCell']) (by omega) (by unfold maxLen; omega) (by omega) hsz w1.heap.size (by rfl) ?_; intro gg cap' w2 hown2 hgrow hat hlt2; clear hat hlt2) | (refine step_app _ (by rfl) _ _ _ (by rfl) wr.heap.size 35 i0 _ 16 Try.underlying32 HI.out HZ0.out HZ1.out HZ2.out rfl _ 0 [] (by rfl) (lit1 wr _) A m c os (by rfl) HM.out (HT.out.go (((Bl.refl wr).alloc _).drew)) (by unfold maxLen; omega) (by omega) (by simp <;> omega) ?_; intro v1 w1 hown1 hgrow hat; clear hat; have hge := Lib.hid (own_block_ge (lit1 wr 35)); have hsz : wr.heap.size ≤ w1.heap.size := Nat.le_trans (by simp <;> omega) hgrow.size) | (refine step_app _ (by rfl) _ _ _ (by rfl) wr.heap.size 35 i0 _ 16 Try.underlying32 HI.out HZ0.out HZ1.out HZ2.out rfl _ 0 [] (by rfl) (lit2 wr _ (.cells #[.int .i64 x, .int .i64 y] 35)) A m c os (by rfl) HM.out (HT.out.go ((((Bl.refl wr).alloc _).alloc _).drew)) (by unfold maxLen; omega) (by omega) (by simp <;> omega) ?_; intro v1 w1 hown1 hgrow hat; clear hat; have hge := Lib.hid (own_block_ge (lit2 wr 35 (.cells #[.int .i64 x, .int .i64 y] 35))); have hsz : wr.heap.size ≤ w1.heap.size := Nat.le_trans (by simp <;> omega) hgrow.size; have hnb : w1.heap[wr.heap.size + 1]? = some (.cells #[.int .i64 x, .int .i64 y] 35 (0, 0)) := (hgrow.block (wr.heap.size + 1) (by simp) (by simp [Value.ownBlock])).trans (blk2 wr _ _ _)) | (refine step_app _ (by rfl) _ _ _ (by rfl) wr.heap.size 35 i0 _ 16 Try.underlying32 HI.out HZ0.out HZ1.out HZ2.out rfl _ 0 [] (by rfl) (lit3 wr _ (.cells #[.int .i64 x, .int .i64 y] 35)) A m c os (by rfl) HM.out (HT.out.go ((((Bl.refl wr).alloc _).alloc _).drew)) (by unfold maxLen; omega) (by omega) (by simp <;> omega) ?_; intro v1 w1 hown1 hgrow hat; clear hat; have hge := Lib.hid (own_block_ge (lit3 wr 35 (.cells #[.int .i64 x, .int .i64 y] 35))); have hsz : wr.heap.size ≤ w1.heap.size := Nat.le_trans (by simp <;> omega) hgrow.size; have hnb : w1.heap[wr.heap.size]? = some (.cells #[.int .i64 x, .int .i64 y] 35 (0, 0)) := (hgrow.block wr.heap.size (by simp <;> omega) (by simp [Value.ownBlock])).trans (blk1 wr _ _ _)) | fail)
        all_goals go_wp2_with fail
        all_goals go_meet
        all_goals exact ⟨SlT.app hown2 (Nat.le_trans BW.out.size hw.out.size), (And.right (And.right (by assumption : _ ∧ _ ∧ Hid (Bl wr w2)))).out⟩
      have hcc2 := hcut.out
      clear hcut
      obtain ⟨⟨A7, c7, rfl, h7, hT7, hf7⟩, hB7⟩ := hcc2
      have H7 := Lib.hid h7
      have T7 := Lib.hid hT7
      have F7 := Lib.hid hf7
      have B7 := Lib.hid hB7
      have SL7 := Lib.hid ((SL0.out.go hw.out).go hB7)
      clear h7 hT7 hf7 hB7
      obtain ⟨L, hL⟩ : ∃ L, (os ++ [(x, y)]).length = L := ⟨_, rfl⟩
      rw [hL] at H7 ⊢
      have k0 := SL7.out.c0
      have k1 := SL7.out.c1
      obtain ⟨cc2, hc2⟩ : ∃ c, fitB (os ++ [(x, y)]) u r = c := ⟨_, rfl⟩
      have KF := Lib.hid (fun w h => rfits_v hL hc2 A7 c7 w HBK.out NX.out h)
      have HL := Lib.hid hL
      have HC2 := Lib.hid hc2
      clear hL hc2
      cases cc2 with
      | true =>
        go_wp2_with fail
        refine (KF.out _ T7.out).mono ?_; rintro e w9 ⟨rfl, gr⟩
        have G9 := Lib.hid gr; clear gr k0 k1
        go_wp2_with fail
        go_roundw
        case rel => exact ⟨k + 1, by omega, by go_num, by rw [STT.out HC2.out]; exact ⟨A7, c7, by rw [HL.out], by rw [HL.out]; exact H7.out, T7.out.go G9.out, F7.out⟩, (hw.out.trans B7.out).trans G9.out⟩
        case measure => simp [intOf]; omega
      | false =>
        go_wp2_with fail
        refine (KF.out _ T7.out).mono ?_; rintro e w9 ⟨rfl, gr⟩
        have G9 := Lib.hid gr; clear gr k0 k1
        go_wp2_with fail
        go_roundw
        case rel => exact ⟨k + 1, by omega, by go_num, by rw [STF.out HC2.out]; exact ⟨A, c, by rw [← HM.out], by rw [← HM.out]; exact HCC.out, (HT.out.go B7.out).go G9.out, HFR.out⟩, (hw.out.trans B7.out).trans G9.out⟩
        case measure => simp [intOf]; omega
    · have hke : k = xs.length := by omega
      have ec : cnf (dBu B) (dRa R) (dTr gs ss) = cnfS u r xs k := by rw [HU.out, HR.out, HXS.out, hke]; rfl
      have EC := Lib.hid ec
      obtain ⟨A, c, rfl, hcc, hT, hfr⟩ := hv.out
      have HT := Lib.hid hT
      have HFR := Lib.hid hfr
      have HCC := Lib.hid hcc
      clear hv hT hfr hcc ec hke
      go_wp2_with fail
      go_ret
      exact ⟨A, c, (by rw [EC.out]; rfl), by rw [EC.out]; exact HCC.out, by rw [EC.out]; exact HT.out, HB0.out.trans (BW.out.trans hw.out), fun b off h => Nat.le_trans HB0.out.size (HFR.out b off h)⟩

end Go.Proofs.Ytajlcagbfebbjaa
