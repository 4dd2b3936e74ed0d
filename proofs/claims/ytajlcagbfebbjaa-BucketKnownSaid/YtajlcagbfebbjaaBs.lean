/-
  What Bucket and Trace of a draft return.
-/
import Derived.Test.YtajlcagbfebbjaaBp
namespace Go.Proofs.Ytajlcagbfebbjaa
open Go.RowKit

/-- A slice of small numbers as it lies in memory. -/
def Us (w : World) (A : Option Addr) (zs : List Int) : Prop :=
  ∀ k, k < zs.length → ∃ b off, A = some ⟨b, off, none⟩ ∧ b < w.heap.size ∧ w.cell? ⟨b, off + k, none⟩ = some (.int .u16 (zs.getD k 0))
theorem Us.go {w w' : World} {A : Option Addr} {zs : List Int} (h : Us w A zs) (g : Bl w w') : Us w' A zs := fun k hk => by
  obtain ⟨b, off, h1, h2, h3⟩ := h k hk
  exact ⟨b, off, h1, Nat.lt_of_lt_of_le h2 g.size, (g.cell (p := ⟨b, _, none⟩) h2).trans h3⟩
/-- All values fit 16 bits. -/
def U16 (zs : List Int) : Prop := ∀ k, k < zs.length → 0 ≤ zs.getD k 0 ∧ zs.getD k 0 ≤ 65535
theorem U16.at_ {zs : List Int} (h : U16 zs) (k : Nat) : 0 ≤ zs.getD k 0 ∧ zs.getD k 0 ≤ 65535 := by
  rcases Nat.lt_or_ge k zs.length with hk | hk
  · exact h k hk
  · rw [List.getD_eq_getElem?_getD, List.getElem?_eq_none hk]; exact ⟨by decide, by decide⟩

/-- A draft as a value. -/
def drV (B R : Int) (gA : Option Addr) (gl gc : Nat) (sA : Option Addr) (sl sc : Nat) : Value := .agg #[.int .u32 B, .int .u32 R, .slice gA gl gc, .slice sA sl sc]
/-- The time after i arrivals. -/
def atA (gs : List Int) : Nat → Int
  | 0 => 0
  | i + 1 => atA gs i + gs.getD i 0
theorem atA_bd {gs : List Int} (h : U16 gs) (i : Nat) : 0 ≤ atA gs i ∧ atA gs i ≤ (i : Int) * 65535 := by
  induction i with
  | zero => exact ⟨Int.le_refl 0, by show (0 : Int) ≤ _; omega⟩
  | succ i ih =>
    have h1 := h.at_ i
    show 0 ≤ atA gs i + gs.getD i 0 ∧ atA gs i + gs.getD i 0 ≤ _
    omega
/-- The first n arrivals of a draft's trace. -/
def dT (gs ss : List Int) (n : Nat) : List (Int × Int) := (List.range n).map (fun i => (atA gs (i + 1), 1 + ss.getD i 0))
theorem dT_len (gs ss : List Int) (n : Nat) : (dT gs ss n).length = n := by simp [dT]
theorem dT_succ (gs ss : List Int) (n : Nat) : dT gs ss (n + 1) = dT gs ss n ++ [(atA gs (n + 1), 1 + ss.getD n 0)] := by simp [dT, List.range_succ]
/-- A draft's trace. -/
def dTr (gs ss : List Int) : List (Int × Int) := dT gs ss (min ss.length 30)
theorem dT_fs {gs ss : List Int} {n k : Nat} (h : k < n) : fs (dT gs ss n) k = atA gs (k + 1) ∧ sn (dT gs ss n) k = 1 + ss.getD k 0 := by
  unfold fs sn dT
  simp [List.getD_eq_getElem?_getD, h]
theorem dT_ok {gs ss : List Int} (hg : U16 gs) (hs : U16 ss) {n : Nat} (hn : n ≤ 30) : rtB (dT gs ss n) = true := by
  refine rtB_iff.2 ⟨by rw [dT_len]; omega, fun k hk => ?_⟩
  rw [dT_len] at hk
  have h1 := atA_bd hg (k + 1)
  have h2 := hg.at_ k
  have h3 := hs.at_ k
  have hp : prev (dT gs ss n) k = atA gs k := by
    cases k with
    | zero => rfl
    | succ k => exact (dT_fs (by omega)).1
  have e : atA gs (k + 1) = atA gs k + gs.getD k 0 := rfl
  unfold okAt
  rw [hp, (dT_fs hk).1, (dT_fs hk).2]
  omega
/-- A draft's bucket. -/
def dBu (B : Int) : Int := 1 + B % 1048576
def dRa (R : Int) : Int := 1 + R % 2097152
theorem dB_ok (B R : Int) : bkB (dBu B) (dRa R) = true := bkB_iff.2 (by unfold dBu dRa; omega)

set_option maxHeartbeats 1000000 in
theorem dbucket_any (B R : Int) (gA : Option Addr) (gl gc : Nat) (sA : Option Addr) (sl sc : Nat) (w : World) (hB : 0 ≤ B ∧ B ≤ 4294967295) (hR : 0 ≤ R ∧ R ≤ 4294967295) :
    Calls Try.prog 6 #[drV B R gA gl gc sA sl sc] w fun e w' => e = .returned (.agg #[.int .i64 (dBu B), .int .i64 (dRa R)]) ∧ Bl w w' := by
  obtain ⟨b1, b2⟩ := hB
  obtain ⟨r1, r2⟩ := hR
  have e1 : 0 ≤ B % 1048576 := by omega
  have e2 : B % 1048576 ≤ 1048575 := by omega
  have e3 : 0 ≤ R % 2097152 := by omega
  have e4 : R % 2097152 ≤ 2097151 := by omega
  unfold drV
  go_enter Try.func6, Try.ntmps6
  go_wp2_with fail
  refine bodyPost_ret (v := .agg #[.int .i64 (dBu B), .int .i64 (dRa R)]) (by simp [results, Try.results6, go_sem, dBu, dRa]) rfl ⟨rfl, ?_⟩
  (repeat (first | with_reducible exact Bl.refl _ | with_reducible assumption | with_reducible refine Bl.setCell ?_ (by simp <;> omega) _ | with_reducible refine Bl.alloc ?_ _ | with_reducible refine Bl.drewN ?_ _ | with_reducible refine Bl.drew ?_))

set_option maxRecDepth 100000 in
set_option maxHeartbeats 2000000 in
theorem dtrace_any (B R : Int) (gA : Option Addr) (gc : Nat) (sA : Option Addr) (sc : Nat) (gs ss : List Int) (w : World) (hg : Us w gA gs) (hs : Us w sA ss) (ug : U16 gs) (us : U16 ss) (sl : (ss.length : Int) ≤ 9223372036854775807) :
    Calls Try.prog 18 #[drV B R gA gs.length gc sA ss.length sc] w (TrRes w (dTr gs ss)) := by
  obtain ⟨i0, hi, hz0, hz1, hz2⟩ := info_parts info_arr
  have HG := Lib.hid hg
  have HS := Lib.hid hs
  have UG := Lib.hid ug
  have US := Lib.hid us
  have HI := Lib.hid hi
  have HZ0 := Lib.hid hz0
  have HZ1 := Lib.hid hz1
  have HZ2 := Lib.hid hz2
  clear hi hz0 hz1 hz2 hg hs ug us
  unfold drV
  go_enter Try.func18, Try.ntmps18
  go_wp2_with fail
  have hb0 : Bl w (w.alloc (.cells #[.int .u32 B, .int .u32 R, .slice gA gs.length gc, .slice sA ss.length sc] 25)) := (Bl.refl w).alloc _
  have k2 : (w.alloc (.cells #[.int .u32 B, .int .u32 R, .slice gA gs.length gc, .slice sA ss.length sc] 25)).cell? ⟨w.heap.size, 2, none⟩ = some (.slice gA gs.length gc) := by simp [go_sem]
  have k3 : (w.alloc (.cells #[.int .u32 B, .int .u32 R, .slice gA gs.length gc, .slice sA ss.length sc] 25)).cell? ⟨w.heap.size, 3, none⟩ = some (.slice sA ss.length sc) := by simp [go_sem]
  have k4 : w.heap.size < (w.alloc (.cells #[.int .u32 B, .int .u32 R, .slice gA gs.length gc, .slice sA ss.length sc] 25)).heap.size := by simp
  have HB0 := Lib.hid hb0
  have K2 := Lib.hid k2
  have K3 := Lib.hid k3
  have K4 := Lib.hid k4
  clear hb0 k2 k3 k4
  generalize (w.alloc (.cells #[.int .u32 B, .int .u32 R, .slice gA gs.length gc, .slice sA ss.length sc] 25)) = W at *
  go_loopw [3, 4, 5] (fun v av iv wr => ∃ k : Nat, k ≤ ss.length ∧ k ≤ 30 ∧ iv = .int .i64 k ∧ av = .int .i64 (atA gs k) ∧ Hid (wr.ownsRow W.heap.size 35 2 v k (flat (dT gs ss k))) ∧ Hid (Bl W wr)) (fun _ _ iv _ => ss.length - (intOf iv).toNat)
  case atStart => exact ⟨0, Nat.zero_le _, Nat.zero_le _, rfl, rfl, World.ownsRow_nil _ _ _ _, Bl.refl _⟩
  case round =>
    obtain ⟨k, hk, hk30, rfl, rfl, hown, hw⟩ := hrel
    have g2 := (hw.out.cell (p := ⟨w.heap.size, 2, none⟩) K4.out).trans K2.out
    have g3 := (hw.out.cell (p := ⟨w.heap.size, 3, none⟩) K4.out).trans K3.out
    by_cases hlt : k < ss.length
    · by_cases hlt2 : k < 30
      · obtain ⟨b', off', ea, hb', c0⟩ := (HS.out.go (HB0.out.trans hw.out)) k hlt
        have bd := US.out.at_ k
        have ab := atA_bd UG.out k
        have ab2 := atA_bd UG.out (k + 1)
        have nx : atA gs (k + 1) = atA gs k + gs.getD k 0 := rfl
        have nd := dT_succ gs ss k
        obtain ⟨y, hy⟩ : ∃ y, ss.getD k 0 = y := ⟨_, rfl⟩
        obtain ⟨a, ha⟩ : ∃ a, atA gs k = a := ⟨_, rfl⟩
        obtain ⟨a', ha'⟩ : ∃ a, atA gs (k + 1) = a := ⟨_, rfl⟩
        rw [hy] at c0 bd nd
        rw [ha] at ab nx ⊢
        rw [ha'] at nx nd ab2
        obtain ⟨ab1, ab2'⟩ := ab
        obtain ⟨ab3, ab4⟩ := ab2
        obtain ⟨bd1, bd2⟩ := bd
        have ND := Lib.hid nd
        have HA' := Lib.hid ha'
        clear hy ha nd ha'
        subst ea
        have j0 : IntKind.i64.wrap (1 + y) = 1 + y := IntWalk.i64_in _ (by omega)
        by_cases hgl : k < gs.length
        · obtain ⟨b2, off2, ea2, hb2, d0⟩ := (HG.out.go (HB0.out.trans hw.out)) k hgl
          have bg := UG.out.at_ k
          obtain ⟨x, hx⟩ : ∃ x, gs.getD k 0 = x := ⟨_, rfl⟩
          rw [hx] at d0 nx bg
          obtain ⟨bg1, bg2⟩ := bg
          subst ea2
          clear hx
          have nx' : a + x = a' := nx.symm
          clear nx
          go_wp2_with (at_builtin; refine wpList_append_lies _ rfl _ _ _ rfl W.heap.size 35 i0 _ 2 16 Try.underlying32 HI.out HZ0.out HZ1.out HZ2.out rfl (by omega) _ k (flat (dT gs ss k)) rfl (hown.out.alloc _) ⟨wr.heap.size, 0, none⟩ 1 1 [.int .i64 a', .int .i64 (1 + y)] rfl rfl (World.news_of_block (cs := #[.int .i64 a', .int .i64 (1 + y)]) (t := 35) (fr := (0, 0)) (heap_alloc_new wr _)) (by simp [Value.oneCell']) (by omega) (by unfold maxLen; omega) (by omega) (by have := hw.out.size; simp; omega) (wr.heap.size + 1) (by simp) ?_; intro gg cap' w1 hown1 hgrow hat hlt3)
          have hw2 : Bl W w1 := Bl.grownBy (hw.out.alloc _) hgrow (fun j e => own_block_ge hown.out j e)
          have HW2 := Lib.hid hw2
          have HO2 := Lib.hid hown1
          clear hgrow hat hlt3 hw2 hown1
          go_roundw
          case rel => exact ⟨k + 1, by omega, by omega, by go_num, by rw [HA'.out], by rw [ND.out, flat_append, flat_one]; exact HO2.out, HW2.out⟩
          case measure => simp [intOf]; omega
        · have nx' : a = a' := by
            rw [nx, List.getD_eq_getElem?_getD, List.getElem?_eq_none (by omega)]
            exact (Int.add_zero a).symm
          subst nx'
          clear nx
          go_wp2_with (at_builtin; refine wpList_append_lies _ rfl _ _ _ rfl W.heap.size 35 i0 _ 2 16 Try.underlying32 HI.out HZ0.out HZ1.out HZ2.out rfl (by omega) _ k (flat (dT gs ss k)) rfl (hown.out.alloc _) ⟨wr.heap.size, 0, none⟩ 1 1 [.int .i64 a, .int .i64 (1 + y)] rfl rfl (World.news_of_block (cs := #[.int .i64 a, .int .i64 (1 + y)]) (t := 35) (fr := (0, 0)) (heap_alloc_new wr _)) (by simp [Value.oneCell']) (by omega) (by unfold maxLen; omega) (by omega) (by have := hw.out.size; simp; omega) (wr.heap.size + 1) (by simp) ?_; intro gg cap' w1 hown1 hgrow hat hlt3)
          have hw2 : Bl W w1 := Bl.grownBy (hw.out.alloc _) hgrow (fun j e => own_block_ge hown.out j e)
          have HW2 := Lib.hid hw2
          have HO2 := Lib.hid hown1
          clear hgrow hat hlt3 hw2 hown1
          go_roundw
          case rel => exact ⟨k + 1, by omega, by omega, by go_num, by rw [HA'.out], by rw [ND.out, flat_append, flat_one]; exact HO2.out, HW2.out⟩
          case measure => simp [intOf]; omega
      · obtain rfl : k = 30 := by omega
        have e : dTr gs ss = dT gs ss 30 := by unfold dTr; congr 1; omega
        have ho := hown.out
        obtain ⟨hl, A, c, rfl, h1, _, h3, h4⟩ := Tr.of_own ho
        have H1 := Lib.hid h1
        have H3 := Lib.hid h3
        have H4 := Lib.hid h4
        have HE := Lib.hid e
        have HL := Lib.hid hl
        clear ho hown h1 h3 h4 e hl
        go_wp2_with fail
        go_ret
        exact ⟨A, c, (by rw [HE.out, ← HL.out]; rfl), by rw [HE.out, ← HL.out]; exact H1.out, by rw [HE.out]; exact H3.out, HB0.out.trans hw.out, fun b off h => Nat.le_trans HB0.out.size (H4.out b off h)⟩
    · have hnl : ¬ (k : Int) < (ss.length : Int) := by omega
      have e : dTr gs ss = dT gs ss k := by unfold dTr; congr 1; omega
      have ho := hown.out
      obtain ⟨hl, A, c, rfl, h1, _, h3, h4⟩ := Tr.of_own ho
      have H1 := Lib.hid h1
      have H3 := Lib.hid h3
      have H4 := Lib.hid h4
      have HE := Lib.hid e
      have HL := Lib.hid hl
      clear ho hown h1 h3 h4 e hl
      go_wp2_with fail
      go_ret
      exact ⟨A, c, (by rw [HE.out, ← HL.out]; rfl), by rw [HE.out, ← HL.out]; exact H1.out, by rw [HE.out]; exact H3.out, HB0.out.trans hw.out, fun b off h => Nat.le_trans HB0.out.size (H4.out b off h)⟩

end Go.Proofs.Ytajlcagbfebbjaa
