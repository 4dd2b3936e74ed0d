/-
  What the methods end and then of busy return (then: of one arrival), and Same of the reference.
-/
import Derived.Test.YtgbbglnbolihfaaCh
namespace Go.Proofs.Ytgbbglnbolihfaa
open Go.RowKit Go.Shelf

/-- When all octets have left. -/
def bnd (s o r : Int) : Int := s + cl (o * 1048576) r
theorem bnd_q {o r : Int} (ho : 0 ≤ o ∧ o ≤ 268435456) (hr : 1 ≤ r) : 0 ≤ cl (o * 1048576) r ∧ cl (o * 1048576) r ≤ 281474976710656 :=
  ⟨cl_nonneg (by omega) (by omega), Int.le_trans (cl_self_le (by omega) (by omega)) (by omega)⟩

set_option maxHeartbeats 1000000 in
theorem end_any (s o r : Int) (hs : 0 ≤ s ∧ s ≤ 1099511627776) (ho : 0 ≤ o ∧ o ≤ 268435456) (hr : 1 ≤ r ∧ r ≤ 2097152) (w : World) :
    Calls Try.prog 66 #[.agg #[.int .i64 s, .int .i64 o], .int .i64 r] w fun e w' => e = .returned (.int .i64 (bnd s o r)) ∧ Bl w w' := by
  obtain ⟨q0, q1⟩ := bnd_q ho hr.1
  unfold bnd
  obtain ⟨q, hq⟩ : ∃ q, cl (o * 1048576) r = q := ⟨_, rfl⟩
  rw [hq] at q0 q1 ⊢
  have KC := Lib.hid (fun w => ceil_v hq (by omega) (by omega) (by omega) (by omega) w)
  have wl : IntKind.i64.wrap (s + q) = s + q := IntWalk.i64_in _ (by omega)
  clear hq q0 q1 hs ho hr
  go_enter Try.func66, Try.ntmps66
  go_wp2_with fail
  have HD := Lib.hid (show ∀ w', Bl (w.alloc (.cells #[.int .i64 s, .int .i64 o] 107)) w' → (w'.cell? ⟨w.heap.size, 0, none⟩ = some (.int .i64 s) ∧ w'.cell? ⟨w.heap.size, 1, none⟩ = some (.int .i64 o) ∧ Hid (Bl w w')) from
    fun w' g => ⟨(g.cell (p := ⟨w.heap.size, 0, none⟩) (by simp)).trans (by simp [go_sem]), (g.cell (p := ⟨w.heap.size, 1, none⟩) (by simp)).trans (by simp [go_sem]), Bl.trans ((Bl.refl w).alloc _) g⟩)
  obtain ⟨k0, k1, _⟩ := HD.out _ (Bl.refl _)
  generalize (w.alloc (.cells #[.int .i64 s, .int .i64 o] 107)) = W at *
  go_region_with (go_at_call 61; (with_reducible refine (KC.out _).mono ?_); rintro e w2 ⟨rfl, hgr⟩; obtain ⟨x0, x1, x3⟩ := HD.out w2 (Bl.trans (by (repeat (first | exact Bl.refl _ | with_reducible refine Bl.drew ?_))) hgr))
  all_goals go_wp2_with fail
  all_goals go_ret
  all_goals exact ⟨rfl, x3.out⟩

/-- The busy time in which the next frame leaves. -/
def thS (s o r t : Int) : Int := if bnd s o r ≤ t then t else s
def thO (s o r t z : Int) : Int := (if bnd s o r ≤ t then 0 else o) + z

set_option maxHeartbeats 2000000 in
theorem then_any (s o r t z : Int) (c : Nat) (hs : 0 ≤ s ∧ s ≤ 1099511627776) (ho : 0 ≤ o ∧ o ≤ 267386880) (hr : 1 ≤ r ∧ r ≤ 2097152) (hz : 1 ≤ z ∧ z ≤ 1048576) (w : World)
    (h0 : w.cell? ⟨c, 0, none⟩ = some (.int .i64 t)) (h1 : w.cell? ⟨c, 1, none⟩ = some (.int .i64 z)) :
    Calls Try.prog 65 #[.agg #[.int .i64 s, .int .i64 o], .int .i64 r, .slice (some ⟨c, 0, none⟩) 1 1] w fun e w' => e = .returned (.agg #[.int .i64 (thS s o r t), .int .i64 (thO s o r t z)]) ∧ Bl w w' := by
  have KE := Lib.hid (fun w => end_any s o r hs (by omega) hr w)
  obtain ⟨q, hq⟩ : ∃ q, bnd s o r = q := ⟨_, rfl⟩
  obtain ⟨x, hx⟩ : ∃ x, thS s o r t = x := ⟨_, rfl⟩
  obtain ⟨y, hy⟩ : ∃ y, thO s o r t z = y := ⟨_, rfl⟩
  have X1 := Lib.hid (show q ≤ t → x = t ∧ y = z from fun h => by
    rw [← hx, ← hy]; unfold thS thO; rw [hq, if_pos h, if_pos h, Int.zero_add]; exact ⟨rfl, rfl⟩)
  have X2 := Lib.hid (show t < q → x = s ∧ y = o + z from fun h => by
    rw [← hx, ← hy]; unfold thS thO; rw [hq, if_neg (by omega), if_neg (by omega)]; exact ⟨rfl, rfl⟩)
  rw [hx, hy]
  rw [hq] at KE
  clear hq hx hy
  have HZ := Lib.hid (And.intro hs (And.intro ho hz))
  have hc0 := cell_lt h0
  have HA := Lib.hid (show ∀ w', Bl w w' → (w'.cell? ⟨c, 0, none⟩ = some (.int .i64 t) ∧ w'.cell? ⟨c, 1, none⟩ = some (.int .i64 z)) from fun w' g => ⟨(g.cell (p := ⟨c, 0, none⟩) hc0).trans h0, (g.cell (p := ⟨c, 1, none⟩) hc0).trans h1⟩)
  clear hs ho hr hz hc0 h0 h1
  go_enter Try.func65, Try.ntmps65
  go_wp2_with fail
  have hA := (Sl.new w s o 107).go ((Bl.refl _).alloc (.cells #[.int .i64 0, .int .i64 0] 107))
  have hB := Sl.new (w.alloc (.cells #[.int .i64 s, .int .i64 o] 107)) 0 0 107
  rw [World.size_alloc] at hB
  have hW : Bl w ((w.alloc (.cells #[.int .i64 s, .int .i64 o] 107)).alloc (.cells #[.int .i64 0, .int .i64 0] 107)) := ((Bl.refl w).alloc _).alloc _
  generalize ((w.alloc (.cells #[.int .i64 s, .int .i64 o] 107)).alloc (.cells #[.int .i64 0, .int .i64 0] 107)) = W at *
  have BS := Lib.hid (fun (w2 : World) (g : Bl w w2) (i : Nat) (v : Value) => g.setCell (p := ⟨w.heap.size, i, none⟩) (Nat.le_refl _) v)
  have BT := Lib.hid (fun (w2 : World) (g : Bl w w2) (i : Nat) (v : Value) => g.setCell (p := ⟨w.heap.size + 1, i, none⟩) (show w.heap.size ≤ w.heap.size + 1 by omega) v)
  have hne : w.heap.size ≠ w.heap.size + 1 := by omega
  generalize w.heap.size = a at *
  go_loopw [11] (fun iv wr => ∃ k : Nat, k ≤ 1 ∧ iv = .int .i64 k ∧ Hid (Sl a (if k = 0 then s else x) (if k = 0 then o else y) wr) ∧ Hid (Sl (a + 1) 0 0 wr) ∧ Hid (Bl w wr)) (fun iv _ => 1 - (intOf iv).toNat)
  case atStart => exact ⟨0, by omega, rfl, hA, hB, hW⟩
  case round =>
    clear hA hB hW
    obtain ⟨k, hk, rfl, hA, hB, hw⟩ := hrel
    by_cases hlt : k < 1
    · obtain rfl : k = 0 := by omega
      rw [if_pos rfl, if_pos rfl] at hA
      obtain ⟨c0, c1⟩ := HA.out wr hw.out
      have HD := Lib.hid (show ∀ w', Bl (wr.alloc (.cells #[.int .i64 t, .int .i64 z] 35)) w' → (w'.cell? ⟨wr.heap.size, 0, none⟩ = some (.int .i64 t) ∧ w'.cell? ⟨wr.heap.size, 1, none⟩ = some (.int .i64 z) ∧ w'.cell? ⟨a, 0, none⟩ = some (.int .i64 s) ∧ w'.cell? ⟨a, 1, none⟩ = some (.int .i64 o) ∧ Hid (Bl wr w')) from
        fun w' g => ⟨(g.cell (p := ⟨wr.heap.size, 0, none⟩) (by simp)).trans (by simp [go_sem]), (g.cell (p := ⟨wr.heap.size, 1, none⟩) (by simp)).trans (by simp [go_sem]), (hA.out.go (Bl.trans ((Bl.refl wr).alloc _) g)).c0, (hA.out.go (Bl.trans ((Bl.refl wr).alloc _) g)).c1, Bl.trans ((Bl.refl wr).alloc _) g⟩)
      have ha1 : a < wr.heap.size := hA.out.lt
      go_upto_region 4 with fail
      obtain ⟨k0, k1, k2, k3, _⟩ := HD.out _ (Bl.refl _)
      have hna : ¬ a = wr.heap.size := by omega
      generalize (wr.alloc (.cells #[.int .i64 t, .int .i64 z] 35)) = W2 at *
      generalize wr.heap.size = na at *
      clear c0 c1 ha1
      go_region_with (go_at_call 66; (with_reducible refine (KE.out _).mono ?_); rintro e w2 ⟨rfl, hgr⟩; obtain ⟨x0, x1, x2, x3, x4⟩ := HD.out w2 (Bl.trans (by (repeat (first | exact Bl.refl _ | with_reducible refine Bl.drew ?_))) hgr))
      all_goals have SA := hA.out.go x4.out
      all_goals have f0 := SA.f0
      all_goals have f1 := SA.f1
      all_goals clear k0 k1 k2 k3 HD KE
      all_goals have wz : IntKind.i64.wrap z = z := IntWalk.i64_in _ (by have := HZ.out; omega)
      all_goals have wo : IntKind.i64.wrap (o + z) = o + z := IntWalk.i64_in _ (by have := HZ.out; omega)
      all_goals have hlast : ¬ (1 : Nat) = 0 := by decide
      all_goals by_cases hqt : q ≤ t
      all_goals have SA1 := Lib.hid SA
      all_goals have SB1 := Lib.hid (hB.out.go x4.out)
      all_goals have SW1 := Lib.hid (hw.out.trans x4.out)
      all_goals clear SA
      all_goals go_wp2_with fail
      all_goals go_roundw
      all_goals first
        | (simp [intOf]; done)
        | (refine ⟨1, by omega, by go_num, Lib.hid ?_, Lib.hid ?_, Lib.hid ?_⟩
           · rw [if_neg hlast, if_neg hlast, (X1.out hqt).1, (X1.out hqt).2]
             exact ((SA1.out.set0 t).set1 0).set1 z
           · exact (((SB1.out.far (Ne.symm hne) 0 _).far (Ne.symm hne) 1 _).far (Ne.symm hne) 1 _)
           · exact BS.out _ (BS.out _ (BS.out _ SW1.out _ _) _ _) _ _)
        | (refine ⟨1, by omega, by go_num, Lib.hid ?_, Lib.hid ?_, Lib.hid ?_⟩
           · rw [if_neg hlast, if_neg hlast, (X2.out (by omega)).1, (X2.out (by omega)).2]
             exact SA1.out.set1 (o + z)
           · exact SB1.out.far (Ne.symm hne) 1 _
           · exact BS.out _ SW1.out _ _)
    · obtain rfl : k = 1 := by omega
      have hlast : ¬ (1 : Nat) = 0 := by decide
      rw [if_neg hlast, if_neg hlast] at hA
      have s0 := hA.out.c0
      have s1 := hA.out.c1
      have m0 := hB.out.c0
      have m1 := hB.out.c1
      have m2 := hB.out.f0
      have m3 := hB.out.f1
      go_wp2_with fail
      refine bodyPost_ret (v := .agg #[.int .i64 x, .int .i64 y]) (by simp [results, Try.results65, go_sem, m0, m1]) rfl ⟨?_, ?_⟩
      · rfl
      · exact BT.out _ (BT.out _ hw.out _ _) _ _

theorem then_v {s o r t z x y : Int} {c : Nat} (hx : thS s o r t = x) (hy : thO s o r t z = y) (hs : 0 ≤ s ∧ s ≤ 1099511627776) (ho : 0 ≤ o ∧ o ≤ 267386880) (hr : 1 ≤ r ∧ r ≤ 2097152) (hz : 1 ≤ z ∧ z ≤ 1048576) (w : World)
    (h0 : w.cell? ⟨c, 0, none⟩ = some (.int .i64 t)) (h1 : w.cell? ⟨c, 1, none⟩ = some (.int .i64 z)) :
    Calls Try.prog 65 #[.agg #[.int .i64 s, .int .i64 o], .int .i64 r, .slice (some ⟨c, 0, none⟩) 1 1] w fun e w' => e = .returned (.agg #[.int .i64 x, .int .i64 y]) ∧ Bl w w' := by
  have := then_any s o r t z c hs ho hr hz w h0 h1; rw [hx, hy] at this; exact this
theorem end_v {s o r v : Int} (hv : bnd s o r = v) (hs : 0 ≤ s ∧ s ≤ 1099511627776) (ho : 0 ≤ o ∧ o ≤ 268435456) (hr : 1 ≤ r ∧ r ≤ 2097152) (w : World) :
    Calls Try.prog 66 #[.agg #[.int .i64 s, .int .i64 o], .int .i64 r] w fun e w' => e = .returned (.int .i64 v) ∧ Bl w w' := by
  have := end_any s o r hs ho hr w; rw [hv] at this; exact this

/-- A slice of n integers. -/
def Iv (w : World) (A : Option Addr) (n : Nat) (f : Nat → Int) : Prop :=
  ∀ k, k < n → ∃ b off, A = some ⟨b, off, none⟩ ∧ w.cell? ⟨b, off + k, none⟩ = some (.int .i64 (f k))
theorem Iv.go {w w' : World} {A : Option Addr} {n : Nat} {f : Nat → Int} (h : Iv w A n f) (g : Bl w w') : Iv w' A n f := fun k hk => by
  obtain ⟨b, off, h1, h2⟩ := h k hk
  exact ⟨b, off, h1, (g.cell (p := ⟨b, _, none⟩) (cell_lt h2)).trans h2⟩
def smB (n m : Nat) (f g : Nat → Int) : Bool := decide (n = m ∧ ∀ k, k < n → f k = g k)

set_option maxHeartbeats 2000000 in
theorem same_any (A B : Option Addr) (n m ca cb : Nat) (f g : Nat → Int) (w : World) (hn : (n : Int) ≤ 9223372036854775807) (hm : (m : Int) ≤ 9223372036854775807) (hA : Iv w A n f) (hB : Iv w B m g) :
    Calls Try.prog 42 #[.slice A n ca, .slice B m cb] w fun e w' => e = .returned (.bool (smB n m f g)) ∧ Bl w w' := by
  have HA := Lib.hid hA; clear hA
  have HB := Lib.hid hB; clear hB
  by_cases he : n = m
  · subst he
    go_enter Try.func42, Try.ntmps42
    go_wp2_with fail
    go_loopw [5] (fun iv wr => ∃ k : Nat, k ≤ n ∧ iv = .int .i64 k ∧ Hid (∀ j, j < k → f j = g j) ∧ Hid (Bl w wr)) (fun iv _ => n - (intOf iv).toNat)
    case atStart => exact ⟨0, by omega, rfl, Lib.hid (fun j hj => absurd hj (by omega)), Bl.refl _⟩
    case round =>
      obtain ⟨k, hk, rfl, hE, hw⟩ := hrel
      by_cases hlt : k < n
      · obtain ⟨b, off, rfl, c1⟩ := (HA.out.go hw.out) k hlt
        obtain ⟨b', off', rfl, c2⟩ := (HB.out.go hw.out) k hlt
        obtain ⟨x, hx⟩ : ∃ x, f k = x := ⟨_, rfl⟩
        obtain ⟨y, hy⟩ : ∃ y, g k = y := ⟨_, rfl⟩
        rw [hx] at c1
        rw [hy] at c2
        have X := Lib.hid (And.intro hx hy)
        clear hx hy
        by_cases hxy : x = y
        · go_wp2_with fail
          go_quiet (fail)
          go_wp2_with fail
          go_roundw
          case rel =>
            refine ⟨k + 1, by omega, by go_num, Lib.hid (fun j hj => ?_), hw.out.trans ((Bl.refl _).drewN _)⟩
            rcases Nat.lt_or_ge j k with h' | h'
            · exact hE.out j h'
            · obtain rfl : j = k := by omega
              rw [X.out.1, X.out.2]; exact hxy
          case measure => simp [intOf]; omega
        · go_wp2_with fail
          go_quiet (fail)
          go_wp2_with fail
          go_ret
          exact ⟨ret_bool (by unfold smB; exact (decide_eq_false (fun hh => hxy (by rw [← X.out.1, ← X.out.2]; exact hh.2 k hlt))).symm), hw.out.trans ((Bl.refl _).drewN _)⟩
      · obtain rfl : k = n := by omega
        go_wp2_with fail
        go_ret
        exact ⟨ret_bool (by unfold smB; exact (decide_eq_true ⟨rfl, hE.out⟩).symm), hw.out⟩
  · have he' : ¬ (n : Int) = (m : Int) := by omega
    go_enter Try.func42, Try.ntmps42
    go_wp2_with fail
    go_ret
    exact ⟨ret_bool (by unfold smB; exact (decide_eq_false (fun hh => he hh.1)).symm), Bl.refl _⟩

end Go.Proofs.Ytgbbglnbolihfaa
