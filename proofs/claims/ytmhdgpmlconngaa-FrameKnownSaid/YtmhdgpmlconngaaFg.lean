/-
  A reader in a block of its own; what pass, number, text, rest and demand do.
-/
import Derived.Test.YtmhdgpmlconngaaFd
import Derived.BigRegion
namespace Go.Proofs.Ytmhdgpmlconngaa
open Go.RowKit Go.Proofs.Ytmhdgpmlconngaa.Cr

/-- In block b lies a reader at a of x. -/
def Rb (w : World) (b : Nat) (a : Int) (x : ByteArray) : Prop :=
  b < w.heap.size ∧ w.cell? ⟨b, 0, none⟩ = some (.int .i64 a) ∧ w.frozen? ⟨b, 0, none⟩ = false ∧ w.cell? ⟨b, 1, none⟩ = some (.string x)
theorem Rb.set {w : World} {b : Nat} {a : Int} {x : ByteArray} (h : Rb w b a x) (c : Int) : Rb (w.setCell ⟨b, 0, none⟩ (.int .i64 c)) b c x := by
  refine ⟨by rw [World.size_setCell]; exact h.1, ?_, by rw [World.frozen?_setCell]; exact h.2.2.1, ?_⟩
  · rw [World.cell?_setCell_same _ _ _ h.2.1]
  · rw [World.cell?_setCell_other _ _ _ _ (by intro h'; injection h' with _ h'; omega)]
    exact h.2.2.2
theorem Rb.alloc {w : World} {b : Nat} {a : Int} {x : ByteArray} (h : Rb w b a x) (o : Obj) : Rb (w.alloc o) b a x :=
  have g := (Bl.refl w).alloc o
  ⟨Nat.lt_of_lt_of_le h.1 g.size, (g.cell h.1).trans h.2.1, (g.frozen h.1).trans h.2.2.1, (g.cell h.1).trans h.2.2.2⟩
theorem Rb.far {w : World} {b : Nat} {a : Int} {x : ByteArray} (h : Rb w b a x) {p : Addr} (hp : p.block ≠ b) (v : Value) : Rb (w.setCell p v) b a x :=
  ⟨by rw [World.size_setCell]; exact h.1, by rw [World.cell?_setCell_other _ _ _ _ (by intro h'; exact hp (by rw [h']))]; exact h.2.1, by rw [World.frozen?_setCell]; exact h.2.2.1,
    by rw [World.cell?_setCell_other _ _ _ _ (by intro h'; exact hp (by rw [h']))]; exact h.2.2.2⟩
theorem Rb.drew {w : World} {b : Nat} {a : Int} {x : ByteArray} (h : Rb w b a x) : Rb w.drew b a x := h

/-- What was there has not turned, but for block b. -/
structure Only (b : Nat) (w w' : World) : Prop where
  os : w'.os = w.os
  tape : w'.tape = w.tape
  output : w'.output = w.output
  size : w.heap.size ≤ w'.heap.size
  block : ∀ i, i < w.heap.size → i ≠ b → w'.heap[i]? = w.heap[i]?
theorem Only.refl (b : Nat) (w : World) : Only b w w := ⟨rfl, rfl, rfl, Nat.le_refl _, fun _ _ _ => rfl⟩
theorem Only.trans {b : Nat} {u v w : World} (h : Only b u v) (k : Only b v w) : Only b u w :=
  ⟨k.os.trans h.os, k.tape.trans h.tape, k.output.trans h.output, Nat.le_trans h.size k.size, fun i hi hn => (k.block i (Nat.lt_of_lt_of_le hi h.size) hn).trans (h.block i hi hn)⟩
theorem Only.of {b : Nat} {u v : World} (h : Bl u v) : Only b u v := ⟨h.os, h.tape, h.output, h.size, fun i hi _ => h.block i hi⟩
theorem Only.drew {b : Nat} {u v : World} (h : Only b u v) : Only b u v.drew := ⟨h.os, h.tape, h.output, h.size, h.block⟩
theorem Only.alloc {b : Nat} {u v : World} (h : Only b u v) (o : Obj) : Only b u (v.alloc o) := h.trans (.of ((Bl.refl v).alloc o))
theorem Only.set {b : Nat} {u v : World} (h : Only b u v) (i : Nat) (x : Value) : Only b u (v.setCell ⟨b, i, none⟩ x) :=
  ⟨h.os, h.tape, h.output, by rw [World.size_setCell]; exact h.size, fun j hj hn => (Below.heap_setCell v ⟨b, i, none⟩ x j hn).trans (h.block j hj hn)⟩
theorem Only.own {b : Nat} {u v : World} (h : Only b u v) {p : Addr} (hp : u.heap.size ≤ p.block) (x : Value) : Only b u (v.setCell p x) :=
  ⟨h.os, h.tape, h.output, by rw [World.size_setCell]; exact h.size, fun j hj hn => (Below.heap_setCell v p x j (by omega)).trans (h.block j hj hn)⟩
theorem Only.cell {b : Nat} {u v : World} (h : Only b u v) {p : Addr} (hp : p.block < u.heap.size) (hn : p.block ≠ b) : v.cell? p = u.cell? p := by
  unfold World.cell?
  rw [h.block p.block hp hn]
theorem Only.frozen {b : Nat} {u v : World} (h : Only b u v) {p : Addr} (hp : p.block < u.heap.size) (hn : p.block ≠ b) : v.frozen? p = u.frozen? p := by
  unfold World.frozen?
  rw [h.block p.block hp hn]
theorem Only.below {b : Nat} {u v : World} (h : Only b u v) (hb : b < u.heap.size) : Below b u v := ⟨h.os, h.tape, h.output, by have := h.size; omega, fun i hi => h.block i (by omega) (by omega)⟩

/-- The panic of a malformed field. -/
def bad : Ending := .panicked [{ v := .iface 32 (.int .i64 5), recovered := false }]

theorem demand_t (w : World) : Calls Try.prog 39 #[.bool true] w fun e w' => e = .returned (.tuple #[]) ∧ w = w' := by
  go_enter Try.func39, Try.ntmps39
  go_wp2
  exact bodyPost_end (v := .tuple #[]) (results_none rfl _ _ _) rfl ⟨rfl, rfl⟩
theorem demand_f (w : World) : Calls Try.prog 39 #[.bool false] w fun e w' => e = bad ∧ w = w' := by
  go_enter Try.func39, Try.ntmps39
  go_wp2
  exact ⟨rfl, rfl, rfl⟩

set_option maxHeartbeats 400000 in
theorem pass_any (b : Nat) (a k : Int) (x : ByteArray) (ha : 0 ≤ a ∧ a ≤ 8000) (hk : -10000 ≤ k ∧ k ≤ 100000) (w : World) (hr : Rb w b a x) :
    Calls Try.prog 59 #[.pointer (some ⟨b, 0, none⟩), .int .i64 k] w fun e w' => e = .returned (.int .i64 a) ∧ Rb w' b (a + k) x ∧ Only b w w' := by
  have h0 := hr.2.1
  have hf := hr.2.2.1
  have hw : IntKind.i64.wrap (a + k) = a + k := IntWalk.i64_in _ (by omega)
  have HR := Lib.hid (hr.set (a + k))
  clear hr
  go_enter Try.func59, Try.ntmps59
  go_wp2
  go_ret
  exact ⟨rfl, HR.out, (Only.refl b w).set 0 _⟩

theorem gt_ok {x : ByteArray} {a k : Nat} (h1 : 1 ≤ k) (h7 : k ≤ 7) (h : a + k ≤ x.size) : gtR x a k = .returned (.tuple #[.int .i64 (rd x a k), .int .i64 0]) := by
  have e : gtE x a k = 0 := by unfold gtE; rw [if_neg (by omega), if_neg (by omega)]
  unfold gtR gtV
  rw [e, if_pos rfl, Int.toNat_natCast, Int.toNat_natCast]
  rfl
theorem gt_no {x : ByteArray} {a k : Nat} (h1 : 1 ≤ k) (h7 : k ≤ 7) (h : x.size < a + k) : gtR x a k = .returned (.tuple #[.int .i64 0, .int .i64 5]) := by
  have e : gtE x a k = 5 := by unfold gtE; rw [if_neg (by omega), if_pos (by omega)]
  unfold gtR gtV
  rw [e, if_neg (by decide)]

set_option maxHeartbeats 1000000 in
theorem number_ok (b a k : Nat) {K : Int} (hK : (k : Int) = K) (x : ByteArray) (hx : (x.size : Int) ≤ 8000) (h1 : 1 ≤ k) (h7 : k ≤ 7) (h : a + k ≤ x.size) (w : World) (hr : Rb w b a x) :
    Calls Try.prog 41 #[.pointer (some ⟨b, 0, none⟩), .int .i64 K] w fun e w' => e = .returned (.int .i64 (rd x a k)) ∧ Rb w' b ((a + k : Nat) : Int) x ∧ Only b w w' := by
  subst hK
  have HR := Lib.hid hr
  have KP := Lib.hid (fun w hr => pass_any b a k x (by omega) (by omega) w hr)
  have KG := Lib.hid (fun w => (gt_ok h1 h7 h) ▸ get_any x a k hx (by omega) w)
  have KD := Lib.hid (fun w => demand_t w)
  have hc := hr.2.2.2
  clear hr
  generalize rd x a k = n at *
  go_enter Try.func41, Try.ntmps41
  go_wp2_with fail
  go_region_held3 (fun w' => w'.cell? ⟨b, 1, none⟩ = some (.string x)) (first | with_reducible assumption | exact HR.out.drew.2.2.2 | exact H1.out.2.2.2 | fail) (first | (go_at_call 59; (with_reducible refine (KP.out _ HR.out.drew).mono ?_); rintro e wn ⟨rfl, hr1, hb1⟩; have H1 := Lib.hid hr1; have B1 := Lib.hid hb1; clear hr1 hb1) | (go_at_call 58; (with_reducible refine (KG.out _).mono ?_); rintro e wn ⟨rfl, rfl⟩) | fail)
  all_goals (go_wp2_with fail; refine (KD.out _).mono ?_; rintro e wn ⟨rfl, rfl⟩; go_wp2_with fail; go_ret; exact ⟨rfl, H1.out, (Only.drew (Only.refl b w)).trans B1.out⟩)
set_option maxHeartbeats 1000000 in
theorem number_no (b a k : Nat) {K : Int} (hK : (k : Int) = K) (x : ByteArray) (hx : (x.size : Int) ≤ 8000) (h1 : 1 ≤ k) (h7 : k ≤ 7) (ha : a ≤ x.size) (h : x.size < a + k) (w : World) (hr : Rb w b a x) :
    Calls Try.prog 41 #[.pointer (some ⟨b, 0, none⟩), .int .i64 K] w fun e w' => e = bad ∧ Only b w w' := by
  subst hK
  have HR := Lib.hid hr
  have KP := Lib.hid (fun w hr => pass_any b a k x (by omega) (by omega) w hr)
  have KG := Lib.hid (fun w => (gt_no h1 h7 h) ▸ get_any x a k hx (by omega) w)
  have KD := Lib.hid (fun w => demand_f w)
  have hc := hr.2.2.2
  clear hr
  unfold bad at *
  go_enter Try.func41, Try.ntmps41
  go_wp2_with fail
  go_region_held3 (fun w' => w'.cell? ⟨b, 1, none⟩ = some (.string x)) (first | with_reducible assumption | exact HR.out.drew.2.2.2 | exact H1.out.2.2.2 | fail) (first | (go_at_call 59; (with_reducible refine (KP.out _ HR.out.drew).mono ?_); rintro e wn ⟨rfl, hr1, hb1⟩; have H1 := Lib.hid hr1; have B1 := Lib.hid hb1; clear hr1 hb1) | (go_at_call 58; (with_reducible refine (KG.out _).mono ?_); rintro e wn ⟨rfl, rfl⟩) | fail)
  all_goals (go_wp2_with fail; refine (KD.out _).mono ?_; rintro e wn ⟨rfl, rfl⟩; go_wp2_with fail; exact ⟨rfl, rfl, (Only.drew (Only.refl b w)).trans B1.out⟩)

theorem fd_yes {x : ByteArray} {a k : Nat} (h : a + k ≤ x.size) : fdS x a k = x.extract a (a + k) ∧ fdE x a k = 0 := by
  refine ⟨?_, fdE_ok (by omega) (by omega)⟩
  rw [fdS_ok (by omega) (by omega)]
  congr 1 <;> omega
theorem fd_not {x : ByteArray} {a k : Nat} (h : x.size < a + k) : fdS x a k = noS ∧ fdE x a k = 5 := by
  have e : fdE x a k = 5 := fdE_form (by omega) (by omega)
  exact ⟨fdS_no (by rw [e]; decide), e⟩
set_option maxHeartbeats 1000000 in
theorem text_ok (b a k : Nat) {K : Int} (hK : (k : Int) = K) (x : ByteArray) (hx : (x.size : Int) ≤ 8000) (h : a + k ≤ x.size) (w : World) (hr : Rb w b a x) :
    Calls Try.prog 42 #[.pointer (some ⟨b, 0, none⟩), .int .i64 K] w fun e w' => e = .returned (.string (x.extract a (a + k))) ∧ Rb w' b ((a + k : Nat) : Int) x ∧ Only b w w' := by
  subst hK
  have HR := Lib.hid hr
  have KP := Lib.hid (fun w hr => pass_any b a k x (by omega) (by omega) w hr)
  have KG := Lib.hid (fun w => (fd_yes h).1 ▸ (fd_yes h).2 ▸ field_any x a k hx (by omega) (by omega) w)
  have KD := Lib.hid (fun w => demand_t w)
  have hc := hr.2.2.2
  clear hr
  generalize x.extract a (a + k) = n at *
  go_enter Try.func42, Try.ntmps42
  go_wp2_with fail
  go_region_held3 (fun w' => w'.cell? ⟨b, 1, none⟩ = some (.string x)) (first | with_reducible assumption | exact HR.out.drew.2.2.2 | exact H1.out.2.2.2 | fail) (first | (go_at_call 59; (with_reducible refine (KP.out _ HR.out.drew).mono ?_); rintro e wn ⟨rfl, hr1, hb1⟩; have H1 := Lib.hid hr1; have B1 := Lib.hid hb1; clear hr1 hb1) | (go_at_call 60; (with_reducible refine (KG.out _).mono ?_); rintro e wn ⟨rfl, rfl⟩) | fail)
  all_goals (go_wp2_with fail; refine (KD.out _).mono ?_; rintro e wn ⟨rfl, rfl⟩; go_wp2_with fail; go_ret; exact ⟨rfl, H1.out, (Only.drew (Only.refl b w)).trans B1.out⟩)
set_option maxHeartbeats 1000000 in
theorem text_no (b a k : Nat) {K : Int} (hK : (k : Int) = K) (x : ByteArray) (hx : (x.size : Int) ≤ 8000) (ha : a ≤ x.size) (hk : k ≤ 65535) (h : x.size < a + k) (w : World) (hr : Rb w b a x) :
    Calls Try.prog 42 #[.pointer (some ⟨b, 0, none⟩), .int .i64 K] w fun e w' => e = bad ∧ Only b w w' := by
  subst hK
  have HR := Lib.hid hr
  have KP := Lib.hid (fun w hr => pass_any b a k x (by omega) (by omega) w hr)
  have KG := Lib.hid (fun w => (fd_not h).1 ▸ (fd_not h).2 ▸ field_any x a k hx (by omega) (by omega) w)
  have KD := Lib.hid (fun w => demand_f w)
  have hc := hr.2.2.2
  clear hr
  unfold bad at *
  unfold noS at KG
  go_enter Try.func42, Try.ntmps42
  go_wp2_with fail
  go_region_held3 (fun w' => w'.cell? ⟨b, 1, none⟩ = some (.string x)) (first | with_reducible assumption | exact HR.out.drew.2.2.2 | exact H1.out.2.2.2 | fail) (first | (go_at_call 59; (with_reducible refine (KP.out _ HR.out.drew).mono ?_); rintro e wn ⟨rfl, hr1, hb1⟩; have H1 := Lib.hid hr1; have B1 := Lib.hid hb1; clear hr1 hb1) | (go_at_call 60; (with_reducible refine (KG.out _).mono ?_); rintro e wn ⟨rfl, rfl⟩) | fail)
  all_goals (go_wp2_with fail; refine (KD.out _).mono ?_; rintro e wn ⟨rfl, rfl⟩; go_wp2_with fail; exact ⟨rfl, rfl, (Only.drew (Only.refl b w)).trans B1.out⟩)

set_option maxHeartbeats 1000000 in
theorem rest_any (b a : Nat) (x : ByteArray) (hx : (x.size : Int) ≤ 8000) (h : a ≤ x.size) (w : World) (hr : Rb w b a x) :
    Calls Try.prog 43 #[.pointer (some ⟨b, 0, none⟩)] w fun e w' => e = .returned (.string (x.extract a x.size)) ∧ Only b w w' ∧ w'.cell? ⟨b, 1, none⟩ = some (.string x) := by
  have HR := Lib.hid hr
  have hw : IntKind.i64.wrap ((x.size : Int) - (a : Int)) = (x.size : Int) - (a : Int) := IntWalk.i64_in _ (by omega)
  have KT := Lib.hid (fun w hr => text_ok b a (x.size - a) (K := (x.size : Int) - (a : Int)) (by omega) x hx (by omega) w hr)
  rw [show a + (x.size - a) = x.size by omega] at KT
  have hc := hr.2.2.2
  have h0 := hr.2.1
  clear hr
  generalize x.extract a x.size = n at *
  go_enter Try.func43, Try.ntmps43
  go_wp2_with fail
  go_region_with (first | (go_at_call 42; (with_reducible refine (KT.out _ HR.out.drew).mono ?_); rintro e wn ⟨rfl, hr1, hb1⟩; have B1 := Lib.hid hb1; have C1 := hr1.2.2.2; clear hr1 hb1) | fail)
  all_goals (go_wp2_with fail; go_ret; exact ⟨rfl, (Only.drew (Only.refl b w)).trans B1.out, C1⟩)

theorem cell_far {w : World} {p q : Addr} (h : p.block ≠ q.block) (v : Value) : (w.setCell q v).cell? p = w.cell? p :=
  World.cell?_setCell_other _ _ _ _ (by intro h'; exact h (by rw [h']))
theorem cell_far9 {w : World} {p : Addr} {c : Nat} (h : p.block ≠ c) (v0 v1 v2 v3 v4 v5 v6 v7 v8 : Value) :
    (((((((((w.setCell ⟨c, 0, none⟩ v0).setCell ⟨c, 1, none⟩ v1).setCell ⟨c, 2, none⟩ v2).setCell ⟨c, 3, none⟩ v3).setCell ⟨c, 4, none⟩ v4).setCell ⟨c, 5, none⟩ v5).setCell ⟨c, 6, none⟩ v6).setCell ⟨c, 7, none⟩ v7).setCell ⟨c, 8, none⟩ v8).cell? p = w.cell? p := by
  rw [cell_far h, cell_far h, cell_far h, cell_far h, cell_far h, cell_far h, cell_far h, cell_far h, cell_far h]
/-- In block c lie nine cells. -/
def Nine (w : World) (c : Nat) (v : Nat → Value) : Prop := c < w.heap.size ∧ ∀ i, i < 9 → w.cell? ⟨c, i, none⟩ = some (v i) ∧ w.frozen? ⟨c, i, none⟩ = false
theorem Nine.set {w : World} {c : Nat} {v : Nat → Value} (h : Nine w c v) {i : Nat} (hi : i < 9) (x : Value) : Nine (w.setCell ⟨c, i, none⟩ x) c (fun j => if j = i then x else v j) := by
  refine ⟨by rw [World.size_setCell]; exact h.1, fun j hj => ⟨?_, by rw [World.frozen?_setCell]; exact (h.2 j hj).2⟩⟩
  by_cases e : j = i
  · subst e
    rw [World.cell?_setCell_same _ _ _ (h.2 j hi).1]; exact congrArg some (if_pos rfl).symm
  · rw [World.cell?_setCell_other _ _ _ _ (by intro h'; injection h' with _ h'; omega)]
    exact (h.2 j hj).1.trans (congrArg some (if_neg e).symm)
theorem Nine.far {w : World} {c : Nat} {v : Nat → Value} (h : Nine w c v) {p : Addr} (hp : p.block ≠ c) (x : Value) : Nine (w.setCell p x) c v :=
  ⟨by rw [World.size_setCell]; exact h.1, fun j hj => ⟨by rw [World.cell?_setCell_other _ _ _ _ (by intro h'; exact hp (by rw [h']))]; exact (h.2 j hj).1, by rw [World.frozen?_setCell]; exact (h.2 j hj).2⟩⟩
theorem Nine.go {w w' : World} {c b : Nat} {v : Nat → Value} (h : Nine w c v) (g : Only b w w') (hn : c ≠ b) : Nine w' c v :=
  ⟨by have := g.size; have := h.1; omega, fun j hj => ⟨(g.cell (p := ⟨c, j, none⟩) h.1 hn).trans (h.2 j hj).1, (g.frozen (p := ⟨c, j, none⟩) h.1 hn).trans (h.2 j hj).2⟩⟩
/-- The cells of a frame. -/
def frC (f : Fr) : Nat → Value
  | 0 => .int .i64 f.dst
  | 1 => .int .i64 f.src
  | 2 => .bool f.tag
  | 3 => .int .i64 f.prio
  | 4 => .int .i64 f.vid
  | 5 => .bool f.red
  | 6 => .int .i64 f.seq
  | 7 => .int .i64 f.typ
  | _ => .string f.data
theorem Nine.congr {w : World} {c : Nat} {v u : Nat → Value} (h : Nine w c v) (e : ∀ i, i < 9 → v i = u i) : Nine w c u := ⟨h.1, fun i hi => ⟨(h.2 i hi).1.trans (congrArg some (e i hi)), (h.2 i hi).2⟩⟩
theorem nine_cases {P : Nat → Prop} (h0 : P 0) (h1 : P 1) (h2 : P 2) (h3 : P 3) (h4 : P 4) (h5 : P 5) (h6 : P 6) (h7 : P 7) (h8 : P 8) : ∀ i, i < 9 → P i
  | 0, _ => h0
  | 1, _ => h1
  | 2, _ => h2
  | 3, _ => h3
  | 4, _ => h4
  | 5, _ => h5
  | 6, _ => h6
  | 7, _ => h7
  | 8, _ => h8
/-- A frame in a block. -/
def Fb (w : World) (c : Nat) (f : Fr) : Prop := Nine w c (frC f)
theorem Fb.go {w w' : World} {c b : Nat} {f : Fr} (h : Fb w c f) (g : Only b w w') (hn : c ≠ b) : Fb w' c f := Nine.go h g hn
theorem Fb.tag {w : World} {c : Nat} {f : Fr} (h : Fb w c f) (p v : Int) : Fb (((w.setCell ⟨c, 2, none⟩ (.bool true)).setCell ⟨c, 3, none⟩ (.int .i64 p)).setCell ⟨c, 4, none⟩ (.int .i64 v)) c { f with tag := true, prio := p, vid := v } :=
  (((Nine.set h (i := 2) (by decide) _).set (i := 3) (by decide) _).set (i := 4) (by decide) _).congr (nine_cases rfl rfl rfl rfl rfl rfl rfl rfl rfl)
theorem Fb.red {w : World} {c : Nat} {f : Fr} (h : Fb w c f) (q : Int) : Fb ((w.setCell ⟨c, 5, none⟩ (.bool true)).setCell ⟨c, 6, none⟩ (.int .i64 q)) c { f with red := true, seq := q } :=
  ((Nine.set h (i := 5) (by decide) _).set (i := 6) (by decide) _).congr (nine_cases rfl rfl rfl rfl rfl rfl rfl rfl rfl)
theorem Fb.typ {w : World} {c : Nat} {f : Fr} (h : Fb w c f) (y : Int) (x : ByteArray) : Fb ((w.setCell ⟨c, 7, none⟩ (.int .i64 y)).setCell ⟨c, 8, none⟩ (.string x)) c { f with typ := y, data := x } :=
  ((Nine.set h (i := 7) (by decide) _).set (i := 8) (by decide) _).congr (nine_cases rfl rfl rfl rfl rfl rfl rfl rfl rfl)
theorem Fb.data {w : World} {c : Nat} {f : Fr} (h : Fb w c f) (x : ByteArray) : Fb (w.setCell ⟨c, 8, none⟩ (.string x)) c { f with data := x } :=
  (Nine.set h (i := 8) (by decide) _).congr (nine_cases rfl rfl rfl rfl rfl rfl rfl rfl rfl)
theorem Fb.new (w : World) (t : TypeId) (f : Fr) : Fb (w.alloc (.cells #[.int .i64 f.dst, .int .i64 f.src, .bool f.tag, .int .i64 f.prio, .int .i64 f.vid, .bool f.red, .int .i64 f.seq, .int .i64 f.typ, .string f.data] t)) w.heap.size f := by
  have hg := heap_alloc_new w (.cells #[.int .i64 f.dst, .int .i64 f.src, .bool f.tag, .int .i64 f.prio, .int .i64 f.vid, .bool f.red, .int .i64 f.seq, .int .i64 f.typ, .string f.data] t)
  refine ⟨by simp, nine_cases ?_ ?_ ?_ ?_ ?_ ?_ ?_ ?_ ?_⟩ <;> exact ⟨cell_of_row _ _ _ _ _ _ hg, frozen_of_row _ _ _ _ _ hg⟩
/-- The cells' facts, one by one. -/
theorem Fb.cells {w : World} {c : Nat} {f : Fr} (h : Fb w c f) : w.cell? ⟨c, 0, none⟩ = some (.int .i64 f.dst) ∧ w.cell? ⟨c, 1, none⟩ = some (.int .i64 f.src) ∧ w.cell? ⟨c, 2, none⟩ = some (.bool f.tag) ∧ w.cell? ⟨c, 3, none⟩ = some (.int .i64 f.prio) ∧ w.cell? ⟨c, 4, none⟩ = some (.int .i64 f.vid) ∧ w.cell? ⟨c, 5, none⟩ = some (.bool f.red) ∧ w.cell? ⟨c, 6, none⟩ = some (.int .i64 f.seq) ∧ w.cell? ⟨c, 7, none⟩ = some (.int .i64 f.typ) ∧ w.cell? ⟨c, 8, none⟩ = some (.string f.data) :=
  ⟨(h.2 0 (by decide)).1, (h.2 1 (by decide)).1, (h.2 2 (by decide)).1, (h.2 3 (by decide)).1, (h.2 4 (by decide)).1, (h.2 5 (by decide)).1, (h.2 6 (by decide)).1, (h.2 7 (by decide)).1, (h.2 8 (by decide)).1⟩
theorem Fb.frozen {w : World} {c : Nat} {f : Fr} (h : Fb w c f) : w.frozen? ⟨c, 0, none⟩ = false ∧ w.frozen? ⟨c, 1, none⟩ = false ∧ w.frozen? ⟨c, 2, none⟩ = false ∧ w.frozen? ⟨c, 3, none⟩ = false ∧ w.frozen? ⟨c, 4, none⟩ = false ∧ w.frozen? ⟨c, 5, none⟩ = false ∧ w.frozen? ⟨c, 6, none⟩ = false ∧ w.frozen? ⟨c, 7, none⟩ = false ∧ w.frozen? ⟨c, 8, none⟩ = false :=
  ⟨(h.2 0 (by decide)).2, (h.2 1 (by decide)).2, (h.2 2 (by decide)).2, (h.2 3 (by decide)).2, (h.2 4 (by decide)).2, (h.2 5 (by decide)).2, (h.2 6 (by decide)).2, (h.2 7 (by decide)).2, (h.2 8 (by decide)).2⟩
theorem Fb.far {w : World} {c : Nat} {f : Fr} (h : Fb w c f) {p : Addr} (hp : p.block ≠ c) (x : Value) : Fb (w.setCell p x) c f := Nine.far h hp x
theorem Fb.alloc {w : World} {c : Nat} {f : Fr} (h : Fb w c f) (o : Obj) : Fb (w.alloc o) c f := Nine.go (b := w.heap.size + 1) h (Only.of ((Bl.refl w).alloc o)) (by have := h.1; omega)

end Go.Proofs.Ytmhdgpmlconngaa
