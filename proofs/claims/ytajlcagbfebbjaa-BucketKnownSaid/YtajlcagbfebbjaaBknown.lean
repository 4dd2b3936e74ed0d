/-
  BucketKnown: the examples, invalid buckets and traces, results at their limits, and the order of errors.
-/
import Derived.Test.YtajlcagbfebbjaaBr
import Derived.Test.YtajlcagbfebbjaaBt
import Derived.Test.YtajlcagbfebbjaaBw
import Derived.Test.YtajlcagbfebbjaaBy
import Derived.Test.YtajlcagbfebbjaaBk
import Derived.Test.YtajlcagbfebbjaaPl
import Derived.Deep.RegionHeld3
namespace Go.Proofs.Ytajlcagbfebbjaa
open Go.ChangeShapes Go.WideShapes Go.ChangeAt Go.WideMaps Go.WideElems Go.RowKit

theorem tr_row (w : World) (x y : Int) (e : TypeId) : Tr (w.alloc (.cells #[.int .i64 x, .int .i64 y] e)) (some ⟨w.heap.size, 0, none⟩) [(x, y)] := fun k hk => by
  obtain rfl : k = 0 := by simp at hk; omega
  exact ⟨w.heap.size, 0, rfl, by simp, by simp [go_sem, fs], by simp [go_sem, sn]⟩
theorem trace1 (a b : Int) (W : World) :
    Calls Try.prog 11 #[.slice (some ⟨W.heap.size, 0, none⟩) 2 2] (W.alloc (.cells #[.int .i64 a, .int .i64 b] 3)) (TrRes (W.alloc (.cells #[.int .i64 a, .int .i64 b] 3)) [(a, b)]) :=
  trace_any _ _ _ _ _ rfl (by simp) (tr_row W a b _) (by simp)
theorem trace1d (a b : Int) (W : World) :
    Calls Try.prog 11 #[.slice (some ⟨W.heap.size, 0, none⟩) 2 2] (W.alloc (.cells #[.int .i64 a, .int .i64 b] 3)).drew (TrRes (W.alloc (.cells #[.int .i64 a, .int .i64 b] 3)).drew [(a, b)]) :=
  trace_any _ _ _ _ _ rfl (by simp) (tr_row W a b _).drew (by simp)

theorem conforms_l {u R E : Int} {c : Bool} {xs : List (Int × Int)} {len : Nat} (hlen : xs.length = len) (h : coV u R xs = (c, E)) (hl : (xs.length : Int) ≤ 9223372036854775807) (A : Option Addr) (cap : Nat) (w : World) (hT : Tr w A xs) :
    Calls Try.prog 10 #[.agg #[.int .i64 u, .int .i64 R], .slice A len cap] w fun e w' => e = .returned (.tuple #[.bool c, .int .i64 E]) ∧ Bl w w' := by
  subst hlen; exact conforms_v h A cap w hl hT
theorem first_l {u R v E : Int} {xs : List (Int × Int)} {len : Nat} (hlen : xs.length = len) (h : fiV u R xs = (v, E)) (hl : (xs.length : Int) ≤ 9223372036854775807) (A : Option Addr) (cap : Nat) (w : World) (hT : Tr w A xs) :
    Calls Try.prog 12 #[.agg #[.int .i64 u, .int .i64 R], .slice A len cap] w fun e w' => e = .returned (.tuple #[.int .i64 v, .int .i64 E]) ∧ Bl w w' := by
  subst hlen; exact first_v h A cap w hl hT
theorem least_l {R v E : Int} {xs : List (Int × Int)} {len : Nat} (hlen : xs.length = len) (h : leV R xs = (v, E)) (hl : (xs.length : Int) ≤ 9223372036854775807) (A : Option Addr) (cap : Nat) (w : World) (hT : Tr w A xs) :
    Calls Try.prog 15 #[.int .i64 R, .slice A len cap] w fun e w' => e = .returned (.tuple #[.int .i64 v, .int .i64 E]) ∧ Bl w w' := by
  subst hlen; exact least_v h A cap w hl hT
theorem checkTrace_l {xs : List (Int × Int)} {v : Int} {len : Nat} (hlen : xs.length = len) (h : rtE xs = v) (hl : (xs.length : Int) ≤ 9223372036854775807) (A : Option Addr) (cap : Nat) (w : World) (hT : Tr w A xs) :
    Calls Try.prog 16 #[.slice A len cap] w fun e w' => e = .returned (.int .i64 v) ∧ Bl w w' := by
  subst hlen; exact checkTrace_v h A cap w hl hT
theorem sum_l {ys : List (Int × Int)} {u v E : Int} {len : Nat} (hlen : ys.length = len) (h : suV ys = (u, v, E)) (hl : (ys.length : Int) ≤ 9223372036854775807) (A : Option Addr) (cap : Nat) (w : World) (hT : Tr w A ys) :
    Calls Try.prog 8 #[.slice A len cap] w fun e w' => e = .returned (.tuple #[.agg #[.int .i64 u, .int .i64 v], .int .i64 E]) ∧ Bl w w' := by
  subst hlen; exact sum_v h A cap w hl hT

theorem six_buckets (k : Nat) (hk : k < 6) : ∃ u R : Int, bkB u R = false ∧ ∀ w, (Instr.index 42 (.agg #[.int .i64 0, .int .i64 0, .int .i64 1, .int .i64 0, .int .i64 0, .int .i64 1, .int .i64 1048577, .int .i64 1, .int .i64 1, .int .i64 2097153, .int .i64 (-5), .int .i64 (-5)]) (.int .i64 k)).run Try.prog w = .ok (.agg #[.int .i64 u, .int .i64 R]) w := by
  match k, hk with
  | 0, _ => exact ⟨0, 0, by decide, fun _ => by kernel_rfl⟩
  | 1, _ => exact ⟨1, 0, by decide, fun _ => by kernel_rfl⟩
  | 2, _ => exact ⟨0, 1, by decide, fun _ => by kernel_rfl⟩
  | 3, _ => exact ⟨1048577, 1, by decide, fun _ => by kernel_rfl⟩
  | 4, _ => exact ⟨1, 2097153, by decide, fun _ => by kernel_rfl⟩
  | 5, _ => exact ⟨-5, -5, by decide, fun _ => by kernel_rfl⟩
theorem kn_co {u R : Int} {xs : List (Int × Int)} (h : bkB u R = false) : coV u R xs = (false, 130) := by unfold coV; rw [fiV_bk h]; rfl
theorem kn_su {u R : Int} (h : bkB u R = false) : suV [(1, 1), (u, R)] = (0, 0, 130) :=
  suV_bad (by simp) (by simp) (allK_bad (k := 1) (by simp) h)

/-- The traces of the second loop. -/
def t12 : Nat → List (Int × Int)
  | 0 => [(5, 0)]
  | 1 => [(-1, 1)]
  | 2 => [(5, 1), (4, 1)]
  | 3 => [(1099511627777, 1)]
  | 4 => [(0, 1048577)]
  | _ => List.replicate 201 (0, 0)
/-- A row of integers, read as pairs; a trace; the six of them. -/
def Row (ps : List (Int × Int)) (n : Nat) (v : Value) (w : World) : Prop := ∃ b, v = .slice (some ⟨b, 0, none⟩) n n ∧ b < w.heap.size ∧ Tr w (some ⟨b, 0, none⟩) ps
def VTr (ps : List (Int × Int)) (n : Nat) (v : Value) (w : World) : Prop := ∃ A c, v = .slice A n c ∧ Tr w A ps
def Six (v : Value) (w : World) : Prop := ∃ A0 A1 A2 A3 A4 A5 c0 c1 c2 c3 c4 c5, v = .agg #[.slice A0 1 c0, .slice A1 1 c1, .slice A2 2 c2, .slice A3 1 c3, .slice A4 1 c4, .slice A5 201 c5] ∧
  Tr w A0 (t12 0) ∧ Tr w A1 (t12 1) ∧ Tr w A2 (t12 2) ∧ Tr w A3 (t12 3) ∧ Tr w A4 (t12 4) ∧ Tr w A5 (t12 5)
theorem Row.go {ps : List (Int × Int)} {n : Nat} {v : Value} {w w' : World} (h : Row ps n v w) (g : Bl w w') : Row ps n v w' := by
  obtain ⟨b, h1, h2, h3⟩ := h
  exact ⟨b, h1, Nat.lt_of_lt_of_le h2 g.size, h3.go g⟩
theorem VTr.go {ps : List (Int × Int)} {n : Nat} {v : Value} {w w' : World} (h : VTr ps n v w) (g : Bl w w') : VTr ps n v w' := by
  obtain ⟨A, c, h1, h2⟩ := h
  exact ⟨A, c, h1, h2.go g⟩
theorem Six.go {v : Value} {w w' : World} (h : Six v w) (g : Bl w w') : Six v w' := by
  obtain ⟨A0, A1, A2, A3, A4, A5, c0, c1, c2, c3, c4, c5, e, h0, h1, h2, h3, h4, h5⟩ := h
  exact ⟨A0, A1, A2, A3, A4, A5, c0, c1, c2, c3, c4, c5, e, h0.go g, h1.go g, h2.go g, h3.go g, h4.go g, h5.go g⟩
/-- What each operation leaves. -/
def R12 : Nat → Value → World → Prop
  | 0 => Row (t12 0) 2
  | 1 => VTr (t12 0) 1
  | 2 => Row (t12 1) 2
  | 3 => VTr (t12 1) 1
  | 4 => Row (t12 2) 4
  | 5 => VTr (t12 2) 2
  | 6 => Row (t12 3) 2
  | 7 => VTr (t12 3) 1
  | 8 => Row (t12 4) 2
  | 9 => VTr (t12 4) 1
  | 10 => VTr (t12 5) 201
  | 11 => Six
  | _ => fun v _ => v = .int .i64 0
theorem R12.go (i : Nat) (v : Value) (w w' : World) (h : R12 i v w) (g : Bl w w') : R12 i v w' := by
  match i, h with
  | 0, h | 2, h | 4, h | 6, h | 8, h => exact Row.go h g
  | 1, h | 3, h | 5, h | 7, h | 9, h | 10, h => exact VTr.go h g
  | 11, h => exact Six.go h g
  | _ + 12, h => exact h
theorem row1 (W : World) (a b : Int) : Row [(a, b)] 2 (.slice (some ⟨W.heap.size, 0, none⟩) 2 2) (W.alloc (.cells #[.int .i64 a, .int .i64 b] 3)) := ⟨_, rfl, by simp, tr_row W a b _⟩
theorem row2 (W : World) (a b c d : Int) : Row [(a, b), (c, d)] 4 (.slice (some ⟨W.heap.size, 0, none⟩) 4 4) (W.alloc (.cells #[.int .i64 a, .int .i64 b, .int .i64 c, .int .i64 d] 3)) := ⟨_, rfl, by simp, tr_new2 W a b c d _⟩
theorem row_trace {ps : List (Int × Int)} {n m : Nat} {v : Value} {w : World} (h : Row ps n v w) (hn : n = ps.length * 2) (hm : ps.length = m) (h1 : ps.length ≤ 1000) : ∃ b, v = .slice (some ⟨b, 0, none⟩) n n ∧
    Calls Try.prog 11 #[.slice (some ⟨b, 0, none⟩) n n] w fun e w' => ∃ u, e = .returned u ∧ Bl w w' ∧ VTr ps m u w' := by
  obtain ⟨b, e, hb, hT⟩ := h
  refine ⟨b, e, (trace_any ps b n n w hn h1 hT hb).mono ?_⟩
  rintro e w' ⟨A, c, rfl, _, hT', g, _⟩
  rw [hm]
  exact ⟨_, rfl, g, A, c, rfl, hT'⟩
theorem made402 : madeCells (Value.agg #[.int .i64 0, .int .i64 0]).cells 402 = Array.replicate 402 (.int .i64 0) := by kernel_rfl
theorem make201 (W : World) : (Instr.makeSlice 32 (.int .i64 201) (.int .i64 201)).run Try.prog W = .ok (.slice (some ⟨W.heap.size, 0, none⟩) 201 201) (W.alloc (.cells (Array.replicate 402 (.int .i64 0)) 35)) := by
  obtain ⟨i0, hi, hz0, hz1, hz2⟩ := info_parts info_arr
  have h := run_make (P := Try.prog) (w := W) 32 35 i0 (.agg #[.int .i64 0, .int .i64 0]) Try.underlying32 hi hz0 .i64 .i64 201 201 (by decide) (by decide) (by rw [hz2]; decide) (by decide)
  rw [hz1] at h
  have e : (201 : Int).toNat = 201 := rfl
  rw [e, made402] at h
  exact h
theorem t12_5 : t12 5 = List.replicate 201 (0, 0) := rfl
theorem tr201 (W : World) (e : TypeId) : Tr (W.alloc (.cells (Array.replicate 402 (.int .i64 0)) e)) (some ⟨W.heap.size, 0, none⟩) (t12 5) := fun k hk => by
  rw [t12_5] at hk ⊢
  have hk' : k < 201 := by rw [List.length_replicate] at hk; exact hk
  have e1 : fs (List.replicate 201 (0, 0)) k = 0 := by unfold fs; rw [List.getD_eq_getElem?_getD, List.getElem?_replicate_of_lt hk']; rfl
  have e2 : sn (List.replicate 201 (0, 0)) k = 0 := by unfold sn; rw [List.getD_eq_getElem?_getD, List.getElem?_replicate_of_lt hk']; rfl
  rw [e1, e2]
  refine ⟨W.heap.size, 0, rfl, by simp, ?_, ?_⟩
  · rw [World.cell?_alloc_new, Array.getElem?_replicate, if_pos (by omega)]
  · rw [World.cell?_alloc_new, Array.getElem?_replicate, if_pos (by omega)]
theorem row201 (W : World) : VTr (t12 5) 201 (.slice (some ⟨W.heap.size, 0, none⟩) 201 201) (W.alloc (.cells (Array.replicate 402 (.int .i64 0)) 35)) := ⟨_, _, rfl, tr201 W _⟩

theorem info_bk : (Try.prog.info? 30).map (fun i => (i.zero, i.size, i.bytes)) = some (some (.agg #[.int .i64 0, .int .i64 0]), 2, 16) := by kernel_rfl
theorem made26 : madeCells (Value.agg #[.int .i64 0, .int .i64 0]).cells 26 = Array.replicate 26 (.int .i64 0) := by kernel_rfl
theorem make13 (W : World) : (Instr.makeSlice 39 (.int .i64 13) (.int .i64 13)).run Try.prog W = .ok (.slice (some ⟨W.heap.size, 0, none⟩) 13 13) (W.alloc (.cells (Array.replicate 26 (.int .i64 0)) 30)) := by
  obtain ⟨i0, hi, hz0, hz1, hz2⟩ := info_parts info_bk
  have h := run_make (P := Try.prog) (w := W) 39 30 i0 (.agg #[.int .i64 0, .int .i64 0]) Try.underlying39 hi hz0 .i64 .i64 13 13 (by decide) (by decide) (by rw [hz2]; decide) (by decide)
  rw [hz1] at h
  have e : (13 : Int).toNat = 13 := rfl
  rw [e, made26] at h
  exact h
theorem tr13 (W : World) : Tr (W.alloc (.cells (Array.replicate 26 (.int .i64 0)) 30)) (some ⟨W.heap.size, 0, none⟩) (List.replicate 13 (0, 0)) := fun k hk => by
  have hk' : k < 13 := by rw [List.length_replicate] at hk; exact hk
  have e1 : fs (List.replicate 13 (0, 0)) k = 0 := by unfold fs; rw [List.getD_eq_getElem?_getD, List.getElem?_replicate_of_lt hk']; rfl
  have e2 : sn (List.replicate 13 (0, 0)) k = 0 := by unfold sn; rw [List.getD_eq_getElem?_getD, List.getElem?_replicate_of_lt hk']; rfl
  rw [e1, e2]
  refine ⟨W.heap.size, 0, rfl, by simp, ?_, ?_⟩
  · rw [World.cell?_alloc_new, Array.getElem?_replicate, if_pos (by omega)]
  · rw [World.cell?_alloc_new, Array.getElem?_replicate, if_pos (by omega)]
theorem tr13s (w : World) (o : Obj) : Tr ((w.alloc o).alloc (.cells (Array.replicate 26 (.int .i64 0)) 30)) (some ⟨w.heap.size + 1, 0, none⟩) (List.replicate 13 (0, 0)) := by
  have h := tr13 (w.alloc o); rw [World.size_alloc] at h; exact h
theorem tr_new2s (w : World) (o : Obj) (a b c d : Int) (e : TypeId) : Tr ((w.alloc o).alloc (.cells #[.int .i64 a, .int .i64 b, .int .i64 c, .int .i64 d] e)) (some ⟨w.heap.size + 1, 0, none⟩) [(a, b), (c, d)] := by
  have h := tr_new2 (w.alloc o) a b c d e; rw [World.size_alloc] at h; exact h
theorem tr_rows (w : World) (o : Obj) (a b : Int) (e : TypeId) : Tr ((w.alloc o).alloc (.cells #[.int .i64 a, .int .i64 b] e)) (some ⟨w.heap.size + 1, 0, none⟩) [(a, b)] := by
  have h := tr_row (w.alloc o) a b e; rw [World.size_alloc] at h; exact h
theorem trace2s (w : World) (o : Obj) (a b c d : Int) :
    Calls Try.prog 11 #[.slice (some ⟨w.heap.size + 1, 0, none⟩) 4 4] ((w.alloc o).alloc (.cells #[.int .i64 a, .int .i64 b, .int .i64 c, .int .i64 d] 3)) (TrRes ((w.alloc o).alloc (.cells #[.int .i64 a, .int .i64 b, .int .i64 c, .int .i64 d] 3)) [(a, b), (c, d)]) := by
  have h := trace2 a b c d (w.alloc o); rw [World.size_alloc] at h; exact h
theorem kn_ct {xs : List (Int × Int)} (h : rtB xs = false) : coV 1 1 xs = (false, 131) := by unfold coV; rw [fiV_tr (by decide) h]; rfl
theorem six_traces (wx : World) (A0 A1 A2 A3 A4 A5 : Option Addr) (c0 c1 c2 c3 c4 c5 : Nat) (h0 : Tr wx A0 (t12 0)) (h1 : Tr wx A1 (t12 1)) (h2 : Tr wx A2 (t12 2)) (h3 : Tr wx A3 (t12 3)) (h4 : Tr wx A4 (t12 4)) (h5 : Tr wx A5 (t12 5)) (k : Nat) (hk : k < 6) :
    ∃ xs n A c, List.length xs = n ∧ rtB xs = false ∧ ((xs.length : Nat) : Int) ≤ 9223372036854775807 ∧ Tr wx A xs ∧ ∀ w, (Instr.index 50 (.agg #[.slice A0 1 c0, .slice A1 1 c1, .slice A2 2 c2, .slice A3 1 c3, .slice A4 1 c4, .slice A5 201 c5]) (.int .i64 k)).run Try.prog w = .ok (.slice A n c) w := by
  match k, hk with
  | 0, _ => exact ⟨t12 0, 1, A0, c0, rfl, by decide +kernel, by decide, h0, fun _ => by kernel_rfl⟩
  | 1, _ => exact ⟨t12 1, 1, A1, c1, rfl, by decide +kernel, by decide, h1, fun _ => by kernel_rfl⟩
  | 2, _ => exact ⟨t12 2, 2, A2, c2, rfl, by decide +kernel, by decide, h2, fun _ => by kernel_rfl⟩
  | 3, _ => exact ⟨t12 3, 1, A3, c3, rfl, by decide +kernel, by decide, h3, fun _ => by kernel_rfl⟩
  | 4, _ => exact ⟨t12 4, 1, A4, c4, rfl, by decide +kernel, by decide, h4, fun _ => by kernel_rfl⟩
  | 5, _ => exact ⟨t12 5, 201, A5, c5, by rw [t12_5, List.length_replicate], rtB_long (by rw [t12_5, List.length_replicate]; decide), by rw [t12_5, List.length_replicate]; decide, h5, fun _ => by kernel_rfl⟩

set_option maxRecDepth 100000 in
set_option maxHeartbeats 80000000 in
theorem known_law (w : World) : Calls Try.prog 4 #[] w fun e w' => e = .returned (.bool true) ∧ Bl w w' := by
  have KW := Lib.hid (fun w => works_any w)
  have T1 := Lib.hid trace1
  have T1d := Lib.hid trace1d
  have T2 := Lib.hid trace2
  have T2d := Lib.hid trace2d
  have W1 := Lib.hid (fun w => within_v (u := 1048576) (R := 2097152) (t := 1099511627776) (v := 2199024304128) (E := 0) (by decide +kernel) w)
  have W2 := Lib.hid (fun w => within_v (u := 1048576) (R := 2097152) (t := 1099511627777) (v := 0) (E := 2) (by decide +kernel) w)
  have Sn0 := Lib.hid (fun w => sum_l (ys := []) (len := 0) rfl (suV_nil rfl) (by simp) none 0 w Tr.nil)
  have Sn13 := Lib.hid (fun A c w hT => sum_l (ys := List.replicate 13 (0, 0)) (len := 13) (u := 0) (v := 0) (E := 3) rfl (by decide +kernel) (by decide) A c w hT)
  have Sn2 := Lib.hid (fun A c w hT => sum_l (ys := [(1048576, 2097152), (1, 1)]) (len := 2) (u := 0) (v := 0) (E := 6) rfl (by decide +kernel) (by decide) A c w hT)
  have Sn1 := Lib.hid (fun A c w hT => sum_l (ys := [(1048576, 2097152)]) (len := 1) (u := 1048576) (v := 2097152) (E := 0) rfl (by decide +kernel) (by decide) A c w hT)
  have LB := Lib.hid (fun A c w hT => least_l (xs := [(0, 1048576), (0, 1)]) (len := 2) (R := 1) (v := 0) (E := 6) rfl (by decide +kernel) (by decide) A c w hT)
  have LO := Lib.hid (fun A c w hT => least_l (xs := [(0, 5), (1048576, 5), (1099511627776, 9)]) (len := 3) (R := 1) (v := 9) (E := 0) rfl (by decide +kernel) (by decide) A c w hT)
  have F1 := Lib.hid (fun A cap w hT => lfits_v (u := 1048576) (R := 2097152) (xs := [(0, 1048576), (549755813888, 1048576)]) (len := 2) rfl (by decide +kernel : _ = true) (by decide) A cap w hT)
  have F2 := Lib.hid (fun A cap w hT => lfits_v (u := 1) (R := 1) (xs := [(0, 1), (1048575, 1)]) (len := 2) rfl (by decide +kernel : _ = false) (by decide) A cap w hT)
  have F3 := Lib.hid (fun A cap w hT => lfits_v (u := 1) (R := 1) (xs := [(0, 1), (1048576, 1)]) (len := 2) rfl (by decide +kernel : _ = true) (by decide) A cap w hT)
  go_enter Try.func4, Try.ntmps4
  go_wp2_with fail
  have HA0 : Hid (Two w.heap.size 1 1 w (w.alloc (.cells #[.int .i64 1, .int .i64 1] 30))) := Two.new w w 1 1 30 (Bl.refl w)
  generalize (w.alloc (.cells #[.int .i64 1, .int .i64 1] 30)) = W0 at *
  generalize w.heap.size = a at *
  go_loopw [45] (fun iv wr => ∃ k : Nat, k ≤ 6 ∧ iv = .int .i64 k ∧ Hid (Two a 1 1 w wr)) (fun iv _ => 6 - (intOf iv).toNat)
  case atStart => exact ⟨0, by omega, rfl, HA0⟩
  case round =>
    obtain ⟨k, hk, rfl, hw⟩ := hrel
    by_cases hlt : k < 6
    · obtain ⟨u, R, hbad, hrun⟩ := six_buckets k hlt
      have K5 := Lib.hid (fun A cap w hT => conforms_l (u := u) (R := R) (xs := [(5, 0)]) (len := 1) rfl (kn_co hbad) (by decide) A cap w hT)
      have K6 := Lib.hid (fun A cap w hT => first_l (u := u) (R := R) (xs := [(5, 0)]) (len := 1) rfl (fiV_bk hbad) (by decide) A cap w hT)
      have K7 := Lib.hid (fun w => within_v (u := u) (R := R) (t := -1) (wiV_bk hbad) w)
      have K8 := Lib.hid (fun A cap w hT => sum_l (len := 2) rfl (kn_su hbad) (by simp) A cap w hT)
      have K9 := Lib.hid (fun w => check_v (bkE_f hbad) w)
      clear hbad
      go_wp2_with fail
      have HB : Hid (Two wr.heap.size u R (wr.alloc (.cells #[.int .i64 u, .int .i64 R] 30)) (wr.alloc (.cells #[.int .i64 u, .int .i64 R] 30))) := ⟨by simp [go_sem], by simp [go_sem], by simp, Bl.refl _⟩
      have HW := Lib.hid (hw.out.go ((Bl.refl wr).alloc (.cells #[.int .i64 u, .int .i64 R] 30)))
      generalize (wr.alloc (.cells #[.int .i64 u, .int .i64 R] 30)) = w5 at *
      generalize wr.heap.size = b at *
      have k0 := HB.out.1
      have k1 := HB.out.2.1
      go_region_held3 (fun w' => w'.cell? ⟨b, 0, none⟩ = some (.int .i64 u) ∧ w'.cell? ⟨b, 1, none⟩ = some (.int .i64 R) ∧ Hid (Two b u R w5 w')) (first | with_reducible exact S2.drew HB | with_reducible assumption | (rename _ ∧ _ ∧ Hid (Two b u R w5 _) => hq; (first | exact S2.step hq hgr | exact S2.dalloc _ hq | exact S2.alloc _ hq)))
        (first | (go_at_call 11; ((with_reducible refine (T1d.out _ _ _).mono ?_); rintro e w' ⟨A, cc, rfl, hcc, hT, hgr, _⟩)) | (go_at_call 11; ((with_reducible refine (T1.out _ _ _).mono ?_); rintro e w' ⟨A, cc, rfl, hcc, hT, hgr, _⟩)) | (go_at_call 10; ((with_reducible refine (K5.out _ _ _ hT).mono ?_); rintro e w' ⟨rfl, hgr⟩)))
      rename _ ∧ _ ∧ Hid (Two b u R w5 _) => hS
      have HB6 := hS.2.2
      have k0 := hS.1
      have k1 := hS.2.1
      clear hS hT hgr hcc HB
      go_wp2_with fail
      go_region_held3 (fun w' => w'.cell? ⟨b, 0, none⟩ = some (.int .i64 u) ∧ w'.cell? ⟨b, 1, none⟩ = some (.int .i64 R) ∧ Hid (Two b u R w5 w')) (first | with_reducible exact S2.drew HB6 | with_reducible assumption | (rename _ ∧ _ ∧ Hid (Two b u R w5 _) => hq; (first | exact S2.step hq hgr | exact S2.dalloc _ hq | exact S2.alloc _ hq)))
        (first | (go_at_call 11; ((with_reducible refine (T1d.out _ _ _).mono ?_); rintro e w' ⟨A, cc, rfl, hcc, hT, hgr, _⟩)) | (go_at_call 11; ((with_reducible refine (T1.out _ _ _).mono ?_); rintro e w' ⟨A, cc, rfl, hcc, hT, hgr, _⟩)) | (go_at_call 12; ((with_reducible refine (K6.out _ _ _ hT).mono ?_); rintro e w' ⟨rfl, hgr⟩)))
      rename _ ∧ _ ∧ Hid (Two b u R w5 _) => hS
      have HB7 := hS.2.2
      have k0 := hS.1
      have k1 := hS.2.1
      clear hS hT hgr hcc HB6
      go_wp2_with fail
      refine (K7.out _).mono ?_; rintro e w8 ⟨rfl, gr⟩
      have HB8 := Lib.hid (HB7.out.go gr)
      have k0 := HB8.out.1
      have k1 := HB8.out.2.1
      have HW8 := Lib.hid (HW.out.go HB8.out.2.2.2)
      have j0 := HW8.out.1
      have j1 := HW8.out.2.1
      clear gr HB7
      go_wp2_with fail
      refine (K8.out _ _ _ (tr_new2 w8 1 1 u R _)).mono ?_; rintro e w9 ⟨rfl, gr⟩
      have HB9 := Lib.hid (HB8.out.go (((Bl.refl w8).alloc _).trans gr))
      have HW9 := Lib.hid (HW8.out.go (((Bl.refl w8).alloc _).trans gr))
      have k0 := HB9.out.1
      have k1 := HB9.out.2.1
      have kl := HB9.out.2.2.1
      clear gr HB8 HW8 j0 j1
      go_wp2_with fail
      refine (K9.out _).mono ?_; rintro e w10 ⟨rfl, gr⟩
      have HW10 := Lib.hid (HW9.out.go (((Bl.refl w9).alloc _).trans gr))
      clear gr HB9 HW9 k0 k1 kl
      go_wp2_with fail
      go_roundw
      case rel => exact ⟨k + 1, by omega, by go_num, HW10⟩
      case measure => simp [intOf]; omega
    · obtain rfl : k = 6 := by omega
      clear hlt hk
      rw [show ((6 : Nat) : Int) = 6 from rfl]
      go_upto_region 12 with fail
      go_cut [105, 106] (fun s t wx => Hid (Six s wx ∧ t = .int .i64 0 ∧ Bl wr wx))
      case first =>
        --@F12@
        refine wp_region_pool (by kernel_rfl) Bl R12 (fun i => 94 + i) Bl.trans Bl.refl ?hinj ?hsz (okAfter_spec (by kernel_rfl)) R12.go ?hstep ?hend
        case hinj => intro i j _ _ h; have h' : 94 + i = 94 + j := h; omega
        case hsz => intro i hi; have h' : i < 13 := hi; show 94 + i < 253; omega
        case hstep =>
          intro i o ho K a' w' hsa hg hrest hdeps hk
          clear hsa hrest
          rcases i with _ | _ | _ | _ | _ | _ | _ | _ | _ | _ | _ | _ | _ | i
          · obtain rfl := Option.some.inj ho
            refine wpOp_step (o := _) rfl (fun K' hK => ?_)
            go_simp
            exact hK _ _ (hk _ _ ((Bl.refl _).alloc _) (row1 w' 5 0))
          · obtain rfl := Option.some.inj ho
            have r0 : Row (t12 0) 2 (a'.eval (.tmp 94)) w' := hdeps ⟨0, .data⟩ (by simp) rfl
            obtain ⟨b, e, hc⟩ := row_trace r0 rfl rfl (by decide)
            simp only [Act.eval, Array.getD_eq_getD_getElem?] at e
            refine wpOp_step (o := _) rfl (fun K' hK => ?_)
            go_simp
            go_at_call 11
            refine hc.mono ?_
            rintro _ w'' ⟨u, rfl, g, hv⟩
            exact hK _ _ (hk _ _ g hv)
          · obtain rfl := Option.some.inj ho
            refine wpOp_step (o := _) rfl (fun K' hK => ?_)
            go_simp
            exact hK _ _ (hk _ _ ((Bl.refl _).alloc _) (row1 w' (-1) 1))
          · obtain rfl := Option.some.inj ho
            have r0 : Row (t12 1) 2 (a'.eval (.tmp 96)) w' := hdeps ⟨2, .data⟩ (by simp) rfl
            obtain ⟨b, e, hc⟩ := row_trace r0 rfl rfl (by decide)
            simp only [Act.eval, Array.getD_eq_getD_getElem?] at e
            refine wpOp_step (o := _) rfl (fun K' hK => ?_)
            go_simp
            go_at_call 11
            refine hc.mono ?_
            rintro _ w'' ⟨u, rfl, g, hv⟩
            exact hK _ _ (hk _ _ g hv)
          · obtain rfl := Option.some.inj ho
            refine wpOp_step (o := _) rfl (fun K' hK => ?_)
            go_simp
            exact hK _ _ (hk _ _ ((Bl.refl _).alloc _) (row2 w' 5 1 4 1))
          · obtain rfl := Option.some.inj ho
            have r0 : Row (t12 2) 4 (a'.eval (.tmp 98)) w' := hdeps ⟨4, .data⟩ (by simp) rfl
            obtain ⟨b, e, hc⟩ := row_trace r0 rfl rfl (by decide)
            simp only [Act.eval, Array.getD_eq_getD_getElem?] at e
            refine wpOp_step (o := _) rfl (fun K' hK => ?_)
            go_simp
            go_at_call 11
            refine hc.mono ?_
            rintro _ w'' ⟨u, rfl, g, hv⟩
            exact hK _ _ (hk _ _ g hv)
          · obtain rfl := Option.some.inj ho
            refine wpOp_step (o := _) rfl (fun K' hK => ?_)
            go_simp
            exact hK _ _ (hk _ _ ((Bl.refl _).alloc _) (row1 w' 1099511627777 1))
          · obtain rfl := Option.some.inj ho
            have r0 : Row (t12 3) 2 (a'.eval (.tmp 100)) w' := hdeps ⟨6, .data⟩ (by simp) rfl
            obtain ⟨b, e, hc⟩ := row_trace r0 rfl rfl (by decide)
            simp only [Act.eval, Array.getD_eq_getD_getElem?] at e
            refine wpOp_step (o := _) rfl (fun K' hK => ?_)
            go_simp
            go_at_call 11
            refine hc.mono ?_
            rintro _ w'' ⟨u, rfl, g, hv⟩
            exact hK _ _ (hk _ _ g hv)
          · obtain rfl := Option.some.inj ho
            refine wpOp_step (o := _) rfl (fun K' hK => ?_)
            go_simp
            exact hK _ _ (hk _ _ ((Bl.refl _).alloc _) (row1 w' 0 1048577))
          · obtain rfl := Option.some.inj ho
            have r0 : Row (t12 4) 2 (a'.eval (.tmp 102)) w' := hdeps ⟨8, .data⟩ (by simp) rfl
            obtain ⟨b, e, hc⟩ := row_trace r0 rfl rfl (by decide)
            simp only [Act.eval, Array.getD_eq_getD_getElem?] at e
            refine wpOp_step (o := _) rfl (fun K' hK => ?_)
            go_simp
            go_at_call 11
            refine hc.mono ?_
            rintro _ w'' ⟨u, rfl, g, hv⟩
            exact hK _ _ (hk _ _ g hv)
          · obtain rfl := Option.some.inj ho
            have hm := make201
            refine wpOp_step (o := _) rfl (fun K' hK => ?_)
            go_simp
            exact hK _ _ (hk _ _ ((Bl.refl _).alloc _) (row201 w'))
          · obtain rfl := Option.some.inj ho
            obtain ⟨A0, c0, e0, h0⟩ : VTr (t12 0) 1 (a'.eval (.tmp 95)) w' := hdeps ⟨1, .data⟩ (by simp) rfl
            obtain ⟨A1, c1, e1, h1⟩ : VTr (t12 1) 1 (a'.eval (.tmp 97)) w' := hdeps ⟨3, .data⟩ (by simp) rfl
            obtain ⟨A2, c2, e2, h2⟩ : VTr (t12 2) 2 (a'.eval (.tmp 99)) w' := hdeps ⟨5, .data⟩ (by simp) rfl
            obtain ⟨A3, c3, e3, h3⟩ : VTr (t12 3) 1 (a'.eval (.tmp 101)) w' := hdeps ⟨7, .data⟩ (by simp) rfl
            obtain ⟨A4, c4, e4, h4⟩ : VTr (t12 4) 1 (a'.eval (.tmp 103)) w' := hdeps ⟨9, .data⟩ (by simp) rfl
            obtain ⟨A5, c5, e5, h5⟩ : VTr (t12 5) 201 (a'.eval (.tmp 104)) w' := hdeps ⟨10, .data⟩ (by simp) rfl
            simp only [Act.eval, Array.getD_eq_getD_getElem?] at e0 e1 e2 e3 e4 e5
            refine wpOp_step (o := _) rfl (fun K' hK => ?_)
            go_simp
            exact hK _ _ (hk _ _ (Bl.refl _) ⟨A0, A1, A2, A3, A4, A5, c0, c1, c2, c3, c4, c5, rfl, h0, h1, h2, h3, h4, h5⟩)
          · obtain rfl := Option.some.inj ho
            refine wpOp_step (o := _) rfl (fun K' hK => ?_)
            go_simp
            exact hK _ _ (hk _ _ (Bl.refl _) rfl)
          · simp at ho
        case hend =>
          intro a' w' hd hs hg hrest hdone
          obtain ⟨f, hf⟩ : ∃ f : Nat → Value, ∀ i, f i = a'.eval (.tmp (94 + i)) := ⟨_, fun _ => rfl⟩
          have e5 : Six (f 11) w' := by rw [hf]; exact hdone 11 (by simp)
          have e6 : f 12 = .int .i64 0 := by rw [hf]; exact hdone 12 (by simp)
          have ha := act_puts (n := 13) (ds := fun i => 94 + i) hd hs (fun i hi => by show 94 + i < 253; omega) (fun t ht => hrest t ht)
          simp only [← hf] at ha
          clear hd hs hrest hdone hf
          subst ha
          simp only [show List.range 13 = [0, 1, 2, 3, 4, 5, 6, 7, 8, 9, 10, 11, 12] from rfl, List.foldl_cons, List.foldl_nil, Act.put, List.setIfInBounds_toArray, e6]
          go_wp2_with fail
          go_meet
          exact Lib.hid ⟨e5, rfl, Bl.trans (Bl.drew (Bl.refl _)) hg⟩
        --@E12@
      obtain ⟨hsix, rfl, hbl⟩ := hcut.out
      have HW := Lib.hid (hw.out.go hbl)
      clear hcut hw hbl
      obtain ⟨A0, A1, A2, A3, A4, A5, c0, c1, c2, c3, c4, c5, rfl, h0, h1, h2, h3, h4, h5⟩ := hsix
      rename World => wx
      have HX := Lib.hid (six_traces wx A0 A1 A2 A3 A4 A5 c0 c1 c2 c3 c4 c5 h0 h1 h2 h3 h4 h5)
      clear h0 h1 h2 h3 h4 h5
      go_wp2_with fail
      go_loopw [106] (fun iv wr => ∃ k : Nat, k ≤ 6 ∧ iv = .int .i64 k ∧ Hid (Two a 1 1 w wr) ∧ Hid (Bl wx wr)) (fun iv _ => 6 - (intOf iv).toNat)
      case atStart => exact ⟨0, by omega, rfl, HW, Lib.hid (Bl.refl _)⟩
      case round =>
        obtain ⟨k, hk, rfl, hw, hx⟩ := hrel
        by_cases hlt : k < 6
        · --@FB@
          obtain ⟨xs, n, A, c, hn, hbad, hl, hT, hrun⟩ := HX.out k hlt
          have K5 := Lib.hid (fun W (g : Bl wx W) => conforms_l (u := 1) (R := 1) hn (kn_ct hbad) hl A c W (hT.go g))
          have K6 := Lib.hid (fun W (g : Bl wx W) => least_l hn (leV_tr (by decide : btB 1 1 2097152 = true) hbad) hl A c W (hT.go g))
          have K7 := Lib.hid (fun W (g : Bl wx W) => least_l hn (leV_arg (by decide : btB 1 0 2097152 = false)) hl A c W (hT.go g))
          have K8 := Lib.hid (fun W (g : Bl wx W) => checkTrace_l hn (rtE_f hbad) hl A c W (hT.go g))
          have k0 := hw.out.1
          have k1 := hw.out.2.1
          have kl := hw.out.2.2.1
          clear hn hbad hl hT HX
          go_wp2_with fail
          refine (K5.out _ hx.out).mono ?_; rintro e w5 ⟨rfl, gr⟩
          have HW5 := Lib.hid (hw.out.go gr)
          have X5 := Lib.hid (hx.out.trans gr)
          clear gr k0 k1 kl
          go_wp2_with fail
          refine (K6.out _ X5.out).mono ?_; rintro e w6 ⟨rfl, gr⟩
          have HW6 := Lib.hid (HW5.out.go gr)
          have X6 := Lib.hid (X5.out.trans gr)
          clear gr
          go_wp2_with fail
          refine (K7.out _ X6.out).mono ?_; rintro e w7 ⟨rfl, gr⟩
          have HW7 := Lib.hid (HW6.out.go gr)
          have X7 := Lib.hid (X6.out.trans gr)
          clear gr
          go_wp2_with fail
          refine (K8.out _ X7.out).mono ?_; rintro e w8 ⟨rfl, gr⟩
          have HW8 := Lib.hid (HW7.out.go gr)
          have X8 := Lib.hid (X7.out.trans gr)
          clear gr
          go_wp2_with fail
          go_roundw
          case rel => exact ⟨k + 1, by omega, by go_num, HW8, X8⟩
          case measure => simp [intOf]; omega
          --@EB@
        · obtain rfl : k = 6 := by omega
          clear hlt hk HX hx
          rw [show ((6 : Nat) : Int) = 6 from rfl]
          rename World => v0
          go_wp2_with fail
          have HM1 : Hid (Two v0.heap.size 1048576 2097152 w (v0.alloc (.cells #[.int .i64 1048576, .int .i64 2097152] 30))) := Two.new w v0 1048576 2097152 30 hw.out.2.2.2
          have HG1 := Lib.hid (hw.out.go ((Bl.refl v0).alloc (.cells #[.int .i64 1048576, .int .i64 2097152] 30)))
          clear hw
          generalize (v0.alloc (.cells #[.int .i64 1048576, .int .i64 2097152] 30)) = v1 at *
          generalize v0.heap.size = b at *
          have m0 := HM1.out.1
          have m1 := HM1.out.2.1
          have ml := HM1.out.2.2.1
          have g0 := HG1.out.1
          have g1 := HG1.out.2.1
          have gl := HG1.out.2.2.1
          with_reducible refine (W1.out _).mono ?_
          rintro e v2 ⟨rfl, gr⟩
          have gg : Bl v1 v2 := Bl.trans (by repeat (first | exact Bl.refl _ | with_reducible refine Bl.alloc ?_ _)) gr
          have HM2 := Lib.hid (HM1.out.go gg)
          have HG2 := Lib.hid (HG1.out.go gg)
          clear gr gg HM1 HG1 m0 m1 ml g0 g1 gl 
          have m0 := HM2.out.1
          have m1 := HM2.out.2.1
          have ml := HM2.out.2.2.1
          have g0 := HG2.out.1
          have g1 := HG2.out.2.1
          have gl := HG2.out.2.2.1
          go_wp2_with fail
          with_reducible refine (W2.out _).mono ?_
          rintro e v3 ⟨rfl, gr⟩
          have gg : Bl v2 v3 := Bl.trans (by repeat (first | exact Bl.refl _ | with_reducible refine Bl.alloc ?_ _)) gr
          have HM3 := Lib.hid (HM2.out.go gg)
          have HG3 := Lib.hid (HG2.out.go gg)
          clear gr gg HM2 HG2 m0 m1 ml g0 g1 gl 
          have m0 := HM3.out.1
          have m1 := HM3.out.2.1
          have ml := HM3.out.2.2.1
          have g0 := HG3.out.1
          have g1 := HG3.out.2.1
          have gl := HG3.out.2.2.1
          go_wp2_with fail
          with_reducible refine (Sn0.out _).mono ?_
          rintro e v4 ⟨rfl, gr⟩
          have gg : Bl v3 v4 := Bl.trans (by repeat (first | exact Bl.refl _ | with_reducible refine Bl.alloc ?_ _)) gr
          have HM4 := Lib.hid (HM3.out.go gg)
          have HG4 := Lib.hid (HG3.out.go gg)
          clear gr gg HM3 HG3 m0 m1 ml g0 g1 gl 
          have m0 := HM4.out.1
          have m1 := HM4.out.2.1
          have ml := HM4.out.2.2.1
          have g0 := HG4.out.1
          have g1 := HG4.out.2.1
          have gl := HG4.out.2.2.1
          have m13 := make13
          go_wp2_with fail
          clear m13
          with_reducible refine (Sn13.out _ _ _ (tr13s _ _)).mono ?_
          rintro e v5 ⟨rfl, gr⟩
          have gg : Bl v4 v5 := Bl.trans (by repeat (first | exact Bl.refl _ | with_reducible refine Bl.alloc ?_ _)) gr
          have HM5 := Lib.hid (HM4.out.go gg)
          have HG5 := Lib.hid (HG4.out.go gg)
          clear gr gg HM4 HG4 m0 m1 ml g0 g1 gl 
          have m0 := HM5.out.1
          have m1 := HM5.out.2.1
          have ml := HM5.out.2.2.1
          have g0 := HG5.out.1
          have g1 := HG5.out.2.1
          have gl := HG5.out.2.2.1
          go_wp2_with fail
          with_reducible refine (Sn2.out _ _ _ (tr_new2s _ _ 1048576 2097152 1 1 _)).mono ?_
          rintro e v6 ⟨rfl, gr⟩
          have gg : Bl v5 v6 := Bl.trans (by repeat (first | exact Bl.refl _ | with_reducible refine Bl.alloc ?_ _)) gr
          have HM6 := Lib.hid (HM5.out.go gg)
          have HG6 := Lib.hid (HG5.out.go gg)
          clear gr gg HM5 HG5 m0 m1 ml g0 g1 gl 
          have m0 := HM6.out.1
          have m1 := HM6.out.2.1
          have ml := HM6.out.2.2.1
          have g0 := HG6.out.1
          have g1 := HG6.out.2.1
          have gl := HG6.out.2.2.1
          go_wp2_with fail
          with_reducible refine (Sn1.out _ _ _ (tr_rows _ _ 1048576 2097152 _)).mono ?_
          rintro e v7 ⟨rfl, gr⟩
          have gg : Bl v6 v7 := Bl.trans (by repeat (first | exact Bl.refl _ | with_reducible refine Bl.alloc ?_ _)) gr
          have HM7 := Lib.hid (HM6.out.go gg)
          have HG7 := Lib.hid (HG6.out.go gg)
          clear gr gg HM6 HG6 m0 m1 ml g0 g1 gl 
          have m0 := HM7.out.1
          have m1 := HM7.out.2.1
          have ml := HM7.out.2.2.1
          have g0 := HG7.out.1
          have g1 := HG7.out.2.1
          have gl := HG7.out.2.2.1
          go_wp2_with fail
          with_reducible refine (trace2s _ _ 0 1048576 0 1).mono ?_
          rintro e v8 ⟨A, cc, rfl, -, hT, gr, -⟩
          have gg : Bl v7 v8 := Bl.trans (by repeat (first | exact Bl.refl _ | with_reducible refine Bl.alloc ?_ _)) gr
          have HM8 := Lib.hid (HM7.out.go gg)
          have HG8 := Lib.hid (HG7.out.go gg)
          have HE8 := Lib.hid ((Two.new w v7 1048576 2097152 30 HM7.out.2.2.2).go (Bl.trans ((Bl.refl _).alloc _) gr))
          clear gr gg HM7 HG7 m0 m1 ml g0 g1 gl 
          have m0 := HM8.out.1
          have m1 := HM8.out.2.1
          have ml := HM8.out.2.2.1
          have g0 := HG8.out.1
          have g1 := HG8.out.2.1
          have gl := HG8.out.2.2.1
          generalize v7.heap.size = c at *
          have e0 := HE8.out.1
          have e1 := HE8.out.2.1
          have el := HE8.out.2.2.1
          go_wp2_with fail
          with_reducible refine (LB.out _ _ _ hT).mono ?_
          rintro e v9 ⟨rfl, gr⟩
          have gg : Bl v8 v9 := Bl.trans (by repeat (first | exact Bl.refl _ | with_reducible refine Bl.alloc ?_ _)) gr
          have HM9 := Lib.hid (HM8.out.go gg)
          have HG9 := Lib.hid (HG8.out.go gg)
          have HE9 := Lib.hid (HE8.out.go gg)
          clear gr gg HM8 HG8 m0 m1 ml g0 g1 gl e0 e1 el HE8
          have m0 := HM9.out.1
          have m1 := HM9.out.2.1
          have ml := HM9.out.2.2.1
          have g0 := HG9.out.1
          have g1 := HG9.out.2.1
          have gl := HG9.out.2.2.1
          have e0 := HE9.out.1
          have e1 := HE9.out.2.1
          have el := HE9.out.2.2.1
          clear hT
          go_wp2_with fail
          with_reducible refine (trace3 0 5 1048576 5 1099511627776 9 _).mono ?_
          rintro e v10 ⟨A, cc, rfl, -, hT, gr, -⟩
          have gg : Bl v9 v10 := Bl.trans (by repeat (first | exact Bl.refl _ | with_reducible refine Bl.alloc ?_ _)) gr
          have HM10 := Lib.hid (HM9.out.go gg)
          have HG10 := Lib.hid (HG9.out.go gg)
          have HE10 := Lib.hid (HE9.out.go gg)
          clear gr gg HM9 HG9 m0 m1 ml g0 g1 gl e0 e1 el HE9
          have m0 := HM10.out.1
          have m1 := HM10.out.2.1
          have ml := HM10.out.2.2.1
          have g0 := HG10.out.1
          have g1 := HG10.out.2.1
          have gl := HG10.out.2.2.1
          have e0 := HE10.out.1
          have e1 := HE10.out.2.1
          have el := HE10.out.2.2.1
          go_wp2_with fail
          with_reducible refine (LO.out _ _ _ hT).mono ?_
          rintro e v11 ⟨rfl, gr⟩
          have gg : Bl v10 v11 := Bl.trans (by repeat (first | exact Bl.refl _ | with_reducible refine Bl.alloc ?_ _)) gr
          have HM11 := Lib.hid (HM10.out.go gg)
          have HG11 := Lib.hid (HG10.out.go gg)
          have HE11 := Lib.hid (HE10.out.go gg)
          clear gr gg HM10 HG10 m0 m1 ml g0 g1 gl e0 e1 el HE10
          have m0 := HM11.out.1
          have m1 := HM11.out.2.1
          have ml := HM11.out.2.2.1
          have g0 := HG11.out.1
          have g1 := HG11.out.2.1
          have gl := HG11.out.2.2.1
          have e0 := HE11.out.1
          have e1 := HE11.out.2.1
          have el := HE11.out.2.2.1
          clear hT
          go_wp2_with fail
          have HS := Lib.hid (show ∀ w', Bl v11 w' → (w'.cell? ⟨b, 0, none⟩ = some (.int .i64 1048576) ∧ w'.cell? ⟨b, 1, none⟩ = some (.int .i64 2097152) ∧ w'.cell? ⟨a, 0, none⟩ = some (.int .i64 1) ∧ w'.cell? ⟨a, 1, none⟩ = some (.int .i64 1) ∧ w'.cell? ⟨c, 0, none⟩ = some (.int .i64 1048576) ∧ w'.cell? ⟨c, 1, none⟩ = some (.int .i64 2097152) ∧ Hid (Bl v11 w')) from fun w' g => ⟨(HM11.out.go g).1, (HM11.out.go g).2.1, (HG11.out.go g).1, (HG11.out.go g).2.1, (HE11.out.go g).1, (HE11.out.go g).2.1, Lib.hid g⟩)
          have BW := Lib.hid HM11.out.2.2.2
          clear HM11 HG11 HE11 ml gl el
          simp only [List.append_eq, List.cons_append, List.nil_append]
          go_region_held3 (fun w' => w'.cell? ⟨b, 0, none⟩ = some (.int .i64 1048576) ∧ w'.cell? ⟨b, 1, none⟩ = some (.int .i64 2097152) ∧ w'.cell? ⟨a, 0, none⟩ = some (.int .i64 1) ∧ w'.cell? ⟨a, 1, none⟩ = some (.int .i64 1) ∧ w'.cell? ⟨c, 0, none⟩ = some (.int .i64 1048576) ∧ w'.cell? ⟨c, 1, none⟩ = some (.int .i64 2097152) ∧ Hid (Bl v11 w')) (first | with_reducible assumption | (refine HS.out _ ?_; (repeat (first | exact BA.out | exact Bl.refl _ | with_reducible refine Bl.alloc ?_ _ | with_reducible refine Bl.drew ?_)); done) | fail) (first | (go_at_call 5; rename _ ∧ _ ∧ _ ∧ _ ∧ _ ∧ _ ∧ Hid (Bl v11 _) => hq; ((with_reducible refine (KW.out _).mono ?_); rintro e wn ⟨rfl, hgr⟩; have BA := Lib.hid (Bl.trans (Hid.out hq.2.2.2.2.2.2) hgr))) | (go_at_call 11; ((with_reducible refine (T2.out _ _ _ _ _).mono ?_); rintro e wn ⟨A, cc, rfl, -, hT, hgr, -⟩; have BA := Lib.hid (Bl.trans ((Bl.alloc BA.out _)) hgr))) | (go_at_call 9; rename _ ∧ _ ∧ _ ∧ _ ∧ _ ∧ _ ∧ Hid (Bl v11 _) => hq; ((with_reducible refine (F1.out _ _ _ hT).mono ?_); rintro e wn ⟨rfl, hgr⟩; have BA := Lib.hid (Bl.trans (Hid.out hq.2.2.2.2.2.2) hgr))) | (go_at_call 9; rename _ ∧ _ ∧ _ ∧ _ ∧ _ ∧ _ ∧ Hid (Bl v11 _) => hq; ((with_reducible refine (F2.out _ _ _ hT).mono ?_); rintro e wn ⟨rfl, hgr⟩; have BA := Lib.hid (Bl.trans (Hid.out hq.2.2.2.2.2.2) hgr))) | (go_at_call 9; rename _ ∧ _ ∧ _ ∧ _ ∧ _ ∧ _ ∧ Hid (Bl v11 _) => hq; ((with_reducible refine (F3.out _ _ _ hT).mono ?_); rintro e wn ⟨rfl, hgr⟩; have BA := Lib.hid (Bl.trans (Hid.out hq.2.2.2.2.2.2) hgr))) | fail)
          go_wp2_with fail
          rename _ ∧ _ ∧ _ ∧ _ ∧ _ ∧ _ ∧ Hid (Bl v11 _) => hS
          go_ret
          exact ⟨rfl, BW.out.trans (Hid.out hS.2.2.2.2.2.2)⟩

end Go.Proofs.Ytajlcagbfebbjaa
