/-
  What both, Conforms and First of the reference of package bucket return.
-/
import Derived.Test.YtlpbmhiipiaiaaaBg
import Derived.Deep.RegionHeld3
namespace Go.Proofs.Ytlpbmhiipiaiaaa
open Go.RowKit

theorem sumF_congr {f g : Nat → Int} (i m : Nat) (h : ∀ j, j ≤ i + m → f j = g j) : Bk.sumF f i m = Bk.sumF g i m := by
  induction m with
  | zero => exact h i (by omega)
  | succ m ih =>
    show Bk.sumF f i m + f (i + m + 1) = Bk.sumF g i m + g (i + m + 1)
    rw [ih (fun j hj => h j (by omega)), h (i + m + 1) (by omega)]
theorem fs_take {xs : List (Int × Int)} {k j : Nat} (h : j < k) : fs (xs.take k) j = fs xs j := by
  unfold fs; simp [List.getD_eq_getElem?_getD, List.getElem?_take_of_lt h]
theorem sn_take {xs : List (Int × Int)} {k j : Nat} (h : j < k) : sn (xs.take k) j = sn xs j := by
  unfold sn; simp [List.getD_eq_getElem?_getD, List.getElem?_take_of_lt h]
theorem inI_take {xs : List (Int × Int)} {u R : Int} {k i m : Nat} (h : i + m < k) : inI (xs.take k) u R i m ↔ inI xs u R i m := by
  unfold inI Bk.exc
  rw [sumF_congr (g := sn xs) i m (fun j hj => sn_take (by omega)), fs_take h, fs_take (by omega)]
theorem Tr.take {w : World} {A : Option Addr} {xs : List (Int × Int)} (h : Tr w A xs) (k : Nat) : Tr w A (xs.take k) := fun j hj => by
  have hj1 : j < k := by rw [List.length_take] at hj; omega
  have hj2 : j < xs.length := by rw [List.length_take] at hj; omega
  obtain ⟨b, off, h1, h2, h3, h4⟩ := h j hj2
  exact ⟨b, off, h1, h2, by rw [fs_take hj1]; exact h3, by rw [sn_take hj1]; exact h4⟩
theorem prev_take {xs : List (Int × Int)} {k j : Nat} (h : j ≤ k) : prev (xs.take k) j = prev xs j := by
  cases j with
  | zero => rfl
  | succ j => exact fs_take (by omega)
theorem okAt_take {xs : List (Int × Int)} {k j : Nat} (h : j < k) : okAt (xs.take k) j ↔ okAt xs j := by
  unfold okAt; rw [fs_take h, sn_take h, prev_take (by omega)]
theorem rtB_take {xs : List (Int × Int)} (h : rtB xs = true) (k : Nat) : rtB (xs.take k) = true := by
  obtain ⟨h1, h2⟩ := rtB_iff.1 h
  refine rtB_iff.2 ⟨by rw [List.length_take]; omega, fun j hj => ?_⟩
  rw [List.length_take] at hj
  exact (okAt_take (by omega)).2 (h2 j (by omega))
theorem fit_take {xs : List (Int × Int)} {u R : Int} {k : Nat} (hk : k ≤ xs.length) : fitB (xs.take k) u R = true ↔ ∀ j, j < k → 0 ≤ lv xs R (u * 1048576) j := by
  rw [fitB_iff]
  have h : (∀ i m, i + m < (xs.take k).length → inI (xs.take k) u R i m) ↔ Bk.confTo (fs xs) (sn xs) R 1048576 (u * 1048576) k := by
    constructor
    · intro h i m him
      exact (inI_take him).1 (h i m (by rw [List.length_take]; omega))
    · intro h i m him
      rw [List.length_take] at him
      exact (inI_take (by omega)).2 (h i m (by omega))
  rw [h]
  exact Bk.confTo_lev (fs xs) (sn xs) R 1048576 (u * 1048576) k
/-- The first prefix that does not conform. -/
theorem fi_prefix {xs : List (Int × Int)} {u R : Int} {k : Nat} (hk : k < xs.length) (h : ∀ j, j < k → fitB (xs.take (j + 1)) u R = true) (hn : fitB (xs.take (k + 1)) u R = false) : fi xs u R = k := by
  have hall : ∀ j, j < k → 0 ≤ lv xs R (u * 1048576) j := fun j hj => (fit_take (k := j + 1) (by omega)).1 (h j hj) j (by omega)
  refine fneg_yes hk ?_ hall
  by_cases h0 : lv xs R (u * 1048576) k < 0
  · exact h0
  · have : fitB (xs.take (k + 1)) u R = true := (fit_take (k := k + 1) (by omega)).2 (fun j hj => by
      rcases Nat.lt_or_ge j k with hj' | hj'
      · exact hall j hj'
      · obtain rfl : j = k := by omega
        omega)
    rw [this] at hn; cases hn
theorem fi_all {xs : List (Int × Int)} {u R : Int} (h : ∀ j, j < xs.length → fitB (xs.take (j + 1)) u R = true) : fi xs u R = -1 :=
  fneg_no (fun j hj => (fit_take (k := j + 1) (by omega)).1 (h j hj) j (by omega))

theorem rfits_v {ys : List (Int × Int)} {u R : Int} {c : Bool} {len : Nat} (hlen : ys.length = len) (hc : fitB ys u R = c) (A : Option Addr) (cap : Nat) (w : World) (hb : bkB u R = true) (ht : rtB ys = true) (hT : Tr w A ys) :
    Calls Try.prog 36 #[.agg #[.int .i64 u, .int .i64 R], .slice A len cap] w fun e w' => e = .returned (.bool c) ∧ Bl w w' := by
  subst hlen
  have := rfits_any u R ys A cap w hb ht hT; rw [hc] at this; exact this

/-- What both gives. -/
def boV (u R : Int) (xs : List (Int × Int)) : Int := if bkB u R then rtE xs else 130
set_option maxHeartbeats 1000000 in
theorem both_any (u R : Int) (xs : List (Int × Int)) (A : Option Addr) (cap : Nat) (w : World) (hl : (xs.length : Int) ≤ 9223372036854775807) (hT : Tr w A xs) :
    Calls Try.prog 37 #[.agg #[.int .i64 u, .int .i64 R], .slice A xs.length cap] w fun e w' => e = .returned (.int .i64 (boV u R xs)) ∧ Bl w w' := by
  have HL := Lib.hid hl; clear hl
  rcases bcase (bkB u R) with hb | hb
  · have K1 := Lib.hid (fun w => right_v hb w)
    obtain ⟨v, hv⟩ : ∃ v, rtE xs = v := ⟨_, rfl⟩
    have K2 := Lib.hid (fun w (h : Tr w A xs) => rcheckTrace_v hv A cap w HL.out h)
    have E := Lib.hid (show boV u R xs = v by unfold boV; rw [if_pos hb]; exact hv)
    have T0 := Lib.hid hT
    clear hb hv hT
    go_enter Try.func37, Try.ntmps37
    go_wp2_with fail
    refine (K1.out _).mono ?_; rintro e w1 ⟨rfl, gr⟩
    have G1 := Lib.hid (((Bl.refl w).alloc _).trans gr); clear gr
    go_wp2_with fail
    refine (K2.out _ (T0.out.go G1.out)).mono ?_; rintro e w2 ⟨rfl, rfl⟩
    go_wp2_with fail
    go_ret
    exact ⟨ret_int E.out.symm, G1.out⟩
  · have K1 := Lib.hid (fun w => right_v hb w)
    have E := Lib.hid (show boV u R xs = 130 by unfold boV; rw [if_neg (by simp [hb])])
    clear hb hT
    go_enter Try.func37, Try.ntmps37
    go_wp2_with fail
    refine (K1.out _).mono ?_; rintro e w1 ⟨rfl, gr⟩
    have G1 := Lib.hid (((Bl.refl w).alloc _).trans gr); clear gr
    go_wp2_with fail
    go_ret
    exact ⟨ret_int E.out.symm, G1.out⟩
theorem both_v {u R v : Int} {xs : List (Int × Int)} (h : boV u R xs = v) (A : Option Addr) (cap : Nat) (w : World) (hl : (xs.length : Int) ≤ 9223372036854775807) (hT : Tr w A xs) :
    Calls Try.prog 37 #[.agg #[.int .i64 u, .int .i64 R], .slice A xs.length cap] w fun e w' => e = .returned (.int .i64 v) ∧ Bl w w' := by
  have := both_any u R xs A cap w hl hT; rw [h] at this; exact this
theorem fiV_cases (u R : Int) (xs : List (Int × Int)) : (boV u R xs = 0 ∧ bkB u R = true ∧ rtB xs = true ∧ fiV u R xs = (fi xs u R, 0)) ∨ (∃ E, E ≠ 0 ∧ boV u R xs = E ∧ fiV u R xs = (0, E)) := by
  rcases bcase (bkB u R) with hb | hb
  · rcases bcase (rtB xs) with ht | ht
    · exact .inl ⟨by unfold boV; rw [if_pos hb, rtE_t ht], hb, ht, fiV_ok hb ht⟩
    · exact .inr ⟨131, by decide, by unfold boV; rw [if_pos hb, rtE_f ht], fiV_tr hb ht⟩
  · exact .inr ⟨130, by decide, by unfold boV; rw [if_neg (by simp [hb])], fiV_bk hb⟩

set_option maxHeartbeats 1000000 in
theorem rconforms_any (u R : Int) (xs : List (Int × Int)) (A : Option Addr) (cap : Nat) (w : World) (hl : (xs.length : Int) ≤ 9223372036854775807) (hT : Tr w A xs) :
    Calls Try.prog 24 #[.agg #[.int .i64 u, .int .i64 R], .slice A xs.length cap] w fun e w' => e = bres (coV u R xs) ∧ Bl w w' := by
  rcases fiV_cases u R xs with ⟨h0, hb, ht, hf⟩ | ⟨E, hE, h0, hf⟩
  · have K1 := Lib.hid (fun w (h : Tr w A xs) => both_v h0 A cap w hl h)
    obtain ⟨c, hc⟩ : ∃ c, fitB xs u R = c := ⟨_, rfl⟩
    have K2 := Lib.hid (fun w (h : Tr w A xs) => rfits_v (len := xs.length) rfl hc A cap w hb ht h)
    have HE := Lib.hid (show coV u R xs = (c, 0) by unfold coV; rw [hf, ← hc]; rfl)
    have T0 := Lib.hid hT
    clear h0 hb ht hf hc hl hT
    go_enter Try.func24, Try.ntmps24
    go_wp2_with fail
    refine (K1.out _ (T0.out.go ((Bl.refl w).alloc _))).mono ?_; rintro e w1 ⟨rfl, gr⟩
    have c0 := (gr.cell (p := ⟨w.heap.size, 0, none⟩) (by simp)).trans (show _ = some (.int .i64 u) by simp [go_sem])
    have c1 := (gr.cell (p := ⟨w.heap.size, 1, none⟩) (by simp)).trans (show _ = some (.int .i64 R) by simp [go_sem])
    have G1 := Lib.hid (((Bl.refl w).alloc _).trans gr); clear gr
    go_wp2_with fail
    refine (K2.out _ (T0.out.go G1.out)).mono ?_; rintro e w2 ⟨rfl, gr⟩
    have G2 := Lib.hid (G1.out.trans gr); clear gr c0 c1
    go_wp2_with fail
    go_ret2
    exact ⟨bres_mk HE.out, G2.out⟩
  · have K1 := Lib.hid (fun w (h : Tr w A xs) => both_v h0 A cap w hl h)
    have HE := Lib.hid (show coV u R xs = (false, E) by unfold coV; rw [hf]; rfl)
    have T0 := Lib.hid hT
    have ne : (E == 0) = false := by simpa using hE
    have ne2 : (E != 0) = true := by simpa using hE
    clear h0 hf hl hT
    go_enter Try.func24, Try.ntmps24
    go_wp2_with fail
    refine (K1.out _ (T0.out.go ((Bl.refl w).alloc _))).mono ?_; rintro e w1 ⟨rfl, gr⟩
    have G1 := Lib.hid (((Bl.refl w).alloc _).trans gr); clear gr
    go_wp2_with fail
    go_ret2
    exact ⟨bres_mk HE.out, G1.out⟩
theorem rconforms_v {u R E : Int} {c : Bool} {xs : List (Int × Int)} (h : coV u R xs = (c, E)) (A : Option Addr) (cap : Nat) (w : World) (hl : (xs.length : Int) ≤ 9223372036854775807) (hT : Tr w A xs) :
    Calls Try.prog 24 #[.agg #[.int .i64 u, .int .i64 R], .slice A xs.length cap] w fun e w' => e = .returned (.tuple #[.bool c, .int .i64 E]) ∧ Bl w w' := by
  have := rconforms_any u R xs A cap w hl hT; rw [h] at this; exact this

/-- The two parts of a block, kept. -/
def Two (a : Nat) (u R : Int) (w0 w' : World) : Prop := w'.cell? ⟨a, 0, none⟩ = some (.int .i64 u) ∧ w'.cell? ⟨a, 1, none⟩ = some (.int .i64 R) ∧ a < w'.heap.size ∧ Bl w0 w'
theorem Two.go {a : Nat} {u R : Int} {w0 w1 w2 : World} (h : Two a u R w0 w1) (g : Bl w1 w2) : Two a u R w0 w2 :=
  ⟨(g.cell (p := ⟨a, 0, none⟩) h.2.2.1).trans h.1, (g.cell (p := ⟨a, 1, none⟩) h.2.2.1).trans h.2.1, Nat.lt_of_lt_of_le h.2.2.1 g.size, h.2.2.2.trans g⟩
theorem Two.new (w0 w : World) (u R : Int) (t : TypeId) (g : Bl w0 w) : Two w.heap.size u R w0 (w.alloc (.cells #[.int .i64 u, .int .i64 R] t)) :=
  ⟨by simp [go_sem], by simp [go_sem], by simp, g.alloc _⟩

/-- What a region keeps: a block of two integers. -/
def S2 (a : Nat) (u R : Int) (w0 w' : World) : Prop := w'.cell? ⟨a, 0, none⟩ = some (.int .i64 u) ∧ w'.cell? ⟨a, 1, none⟩ = some (.int .i64 R) ∧ Hid (Two a u R w0 w')
theorem S2.of {a : Nat} {u R : Int} {w0 w' : World} (h : Two a u R w0 w') : w'.cell? ⟨a, 0, none⟩ = some (.int .i64 u) ∧ w'.cell? ⟨a, 1, none⟩ = some (.int .i64 R) ∧ Hid (Two a u R w0 w') := ⟨h.1, h.2.1, h⟩
theorem S2.drew {a : Nat} {u R : Int} {w0 w' : World} (h : Hid (Two a u R w0 w')) : w'.drew.cell? ⟨a, 0, none⟩ = some (.int .i64 u) ∧ w'.drew.cell? ⟨a, 1, none⟩ = some (.int .i64 R) ∧ Hid (Two a u R w0 w'.drew) := ⟨h.1, h.2.1, ⟨h.1, h.2.1, h.2.2.1, Bl.drew h.2.2.2⟩⟩
theorem S2.step {a : Nat} {u R : Int} {w0 w1 w2 : World} (h : w1.cell? ⟨a, 0, none⟩ = some (.int .i64 u) ∧ w1.cell? ⟨a, 1, none⟩ = some (.int .i64 R) ∧ Hid (Two a u R w0 w1)) (g : Bl w1 w2) : w2.cell? ⟨a, 0, none⟩ = some (.int .i64 u) ∧ w2.cell? ⟨a, 1, none⟩ = some (.int .i64 R) ∧ Hid (Two a u R w0 w2) :=
  S2.of (h.2.2.out.go g)

set_option maxHeartbeats 1000000 in
theorem rfirst_any (u R : Int) (xs : List (Int × Int)) (A : Option Addr) (cap : Nat) (w : World) (hl : (xs.length : Int) ≤ 9223372036854775807) (hcap : xs.length ≤ cap) (hT : Tr w A xs) :
    Calls Try.prog 26 #[.agg #[.int .i64 u, .int .i64 R], .slice A xs.length cap] w fun e w' => e = ires (fiV u R xs) ∧ Bl w w' := by
  rcases fiV_cases u R xs with ⟨h0, hb, ht, hf⟩ | ⟨E, hE, h0, hf⟩
  · have K1 := Lib.hid (fun w (h : Tr w A xs) => both_v h0 A cap w hl h)
    have HF := Lib.hid hf
    have hlen := (rtB_iff.1 ht).1
    have K2 := Lib.hid (fun (j : Nat) (hj : j < xs.length) (c : Bool) (hc : fitB (xs.take (j + 1)) u R = c) w (h : Tr w A xs) => rfits_v (len := j + 1) (by rw [List.length_take]; omega) hc A cap w hb (rtB_take ht (j + 1)) (h.take (j + 1)))
    have T0 := Lib.hid hT
    clear h0 hb ht hf hl hT
    go_enter Try.func26, Try.ntmps26
    go_wp2_with fail
    refine (K1.out _ (T0.out.go ((Bl.refl w).alloc _))).mono ?_; rintro e w1 ⟨rfl, gr⟩
    have W1 := Lib.hid (Two.go (Two.new w w u R 23 (Bl.refl w)) gr); clear gr
    go_wp2_with fail
    go_loopw [7] (fun i wr => ∃ k : Nat, k ≤ xs.length ∧ i = .int .i64 k ∧ Hid (∀ j, j < k → fitB (xs.take (j + 1)) u R = true) ∧ Hid (Two w.heap.size u R w wr)) (fun i _ => xs.length - (intOf i).toNat)
    case atStart => exact ⟨0, Nat.zero_le _, rfl, fun j hj => absurd hj (by omega), W1.out⟩
    case round =>
      obtain ⟨k, hk, rfl, ha, hw⟩ := hrel
      by_cases hlt : k < xs.length
      · obtain ⟨b, off, ea, hbb, c1, c2⟩ := T0.out k hlt
        obtain ⟨c, hc⟩ : ∃ c, fitB (xs.take (k + 1)) u R = c := ⟨_, rfl⟩
        have K3 := Lib.hid (fun (w' : World) (h : w'.cell? ⟨w.heap.size, 0, none⟩ = some (.int .i64 u) ∧ w'.cell? ⟨w.heap.size, 1, none⟩ = some (.int .i64 R) ∧ Hid (Two w.heap.size u R w w')) => K2.out k hlt c hc w' (T0.out.go h.2.2.out.2.2.2))
        have HC := Lib.hid hc
        clear hc c1 c2
        subst ea
        have k0 := hw.out.1
        have k1 := hw.out.2.1
        have w0 : IntKind.i64.wrap ((k : Int) + 1) = (k : Int) + 1 := IntWalk.i64_in _ (by omega)
        have w1' : (((k : Int) + 1)).toNat = k + 1 := by omega
        have l1 : (0 : Int) ≤ (k : Int) + 1 := by omega
        have l2 : (k : Int) + 1 ≤ (cap : Int) := by omega
        have l3 : k + 1 ≤ cap := by omega
        cases c with
        | true =>
          go_wp2_with fail
          go_region_held3 (fun w' => w'.cell? ⟨w.heap.size, 0, none⟩ = some (.int .i64 u) ∧ w'.cell? ⟨w.heap.size, 1, none⟩ = some (.int .i64 R) ∧ Hid (Two w.heap.size u R w w')) (first | exact S2.drew hw | assumption | (refine S2.step ?_ hgr; assumption)) (first | (go_at_call 36; refine (K3.out _ (by assumption)).mono ?_; rintro e w' ⟨rfl, hgr⟩))
          all_goals clear w0 w1' l1 l2 l3
          all_goals go_wp2_with fail
          all_goals go_roundw
          case rel =>
            refine ⟨k + 1, by omega, by go_num, fun j hj => ?_, And.right (And.right (by assumption))⟩
            rcases Nat.lt_or_ge j k with h' | h'
            · exact ha.out j h'
            · obtain rfl : j = k := by omega
              exact HC.out
          case measure => simp [intOf]; omega
        | false =>
          go_wp2_with fail
          go_region_held3 (fun w' => w'.cell? ⟨w.heap.size, 0, none⟩ = some (.int .i64 u) ∧ w'.cell? ⟨w.heap.size, 1, none⟩ = some (.int .i64 R) ∧ Hid (Two w.heap.size u R w w')) (first | exact S2.drew hw | assumption | (refine S2.step ?_ hgr; assumption)) (first | (go_at_call 36; refine (K3.out _ (by assumption)).mono ?_; rintro e w' ⟨rfl, hgr⟩))
          all_goals clear w0 w1' l1 l2 l3
          all_goals go_wp2_with fail
          all_goals go_ret2
          all_goals exact ⟨ires_mk (HF.out.trans (by rw [fi_prefix hlt ha.out HC.out])), (And.right (And.right (by assumption : _ ∧ _ ∧ Hid (Two w.heap.size u R w _)))).out.2.2.2⟩
      · go_wp2_with fail
        go_ret2
        exact ⟨ires_mk (HF.out.trans (by rw [fi_all (fun j hj => ha.out j (by omega))])), hw.out.2.2.2⟩
  · have K1 := Lib.hid (fun w (h : Tr w A xs) => both_v h0 A cap w hl h)
    have HF := Lib.hid hf
    have T0 := Lib.hid hT
    have ne : (E == 0) = false := by simpa using hE
    have ne2 : (E != 0) = true := by simpa using hE
    clear h0 hf hl hT
    go_enter Try.func26, Try.ntmps26
    go_wp2_with fail
    refine (K1.out _ (T0.out.go ((Bl.refl w).alloc _))).mono ?_; rintro e w1 ⟨rfl, gr⟩
    have G1 := Lib.hid (((Bl.refl w).alloc _).trans gr); clear gr
    go_wp2_with fail
    go_ret2
    exact ⟨ires_mk HF.out, G1.out⟩

end Go.Proofs.Ytlpbmhiipiaiaaa
