/-
  What clearing and Delay of package curve return.
-/
import Derived.Test.YtgbbglnbolihfaaCe
import Derived.Deep.RegionHeld3
namespace Go.Proofs.Ytgbbglnbolihfaa
open Go.RowKit Go.Shelf

attribute [local go_sem] Oper.semAt_some

/-- The least of some numbers. -/
def mn (l : List Int) : Int := l.foldl min 9223372036854775807
theorem mn_snoc (l : List Int) (x : Int) : mn (l ++ [x]) = min (mn l) x := by unfold mn; rw [List.foldl_append]; rfl
theorem mn_le_iff {l : List Int} {B : Int} (hB : B < 9223372036854775807) : mn l ≤ B ↔ ∃ x, x ∈ l ∧ x ≤ B := by
  have h : ∀ (l : List Int) (a : Int), l.foldl min a ≤ B ↔ a ≤ B ∨ ∃ x, x ∈ l ∧ x ≤ B := by
    intro l
    induction l with
    | nil => intro a; simp
    | cons y l ih =>
      intro a
      rw [List.foldl_cons, ih]
      constructor
      · rintro (h | ⟨x, hx, h⟩)
        · by_cases ha : a ≤ B
          · exact .inl ha
          · exact .inr ⟨y, List.mem_cons_self, by omega⟩
        · exact .inr ⟨x, List.mem_cons_of_mem _ hx, h⟩
      · rintro (h | ⟨x, hx, h⟩)
        · exact .inl (by omega)
        · rcases List.mem_cons.1 hx with rfl | hx
          · exact .inl (by omega)
          · exact .inr ⟨x, hx, h⟩
  unfold mn
  rw [h]
  exact ⟨fun h => h.elim (fun h => absurd h (by omega)) id, .inr⟩
theorem le_mn_iff {l : List Int} {B : Int} (hB : B ≤ 9223372036854775807) : B ≤ mn l ↔ ∀ x, x ∈ l → B ≤ x := by
  have h := @mn_le_iff l (B - 1) (by omega)
  constructor
  · intro hb x hx
    by_cases hxb : B ≤ x
    · exact hxb
    · have := h.2 ⟨x, hx, by omega⟩; omega
  · intro hb
    by_cases hxb : B ≤ mn l
    · exact hxb
    · obtain ⟨x, hx, hle⟩ := h.1 (by omega)
      have := hb x hx; omega

theorem distances_any (A : Option Addr) (len cap : Nat) (r : Int) (w : World) :
    Calls Try.prog 83 #[.slice A len cap, .int .i64 r] w fun e w' => e = .returned (.func (.func 87) #[] #[.pointer (some ⟨w.heap.size, 0, none⟩), .pointer (some ⟨w.heap.size + 1, 0, none⟩)]) ∧ w' = (w.alloc (.cells #[.slice A len cap] 39)).alloc (.cells #[.int .i64 r] 3) := by
  go_enter Try.func83, Try.ntmps83
  go_wp2_with fail
  go_ret
  exact ⟨rfl, rfl⟩

theorem dist_stops (n : Nat) (hn : 1 ≤ n) (Bs Br c : Nat) (A : Option Addr) (cap : Nat) (xs : List (Int × Int)) (r : Int) (hr : 1 ≤ r ∧ r ≤ 2097152) (hlen : xs.length ≤ 12)
    (hx : ∀ k, k < xs.length → (1 ≤ fs xs k ∧ fs xs k ≤ 1048576) ∧ (1 ≤ sn xs k ∧ sn xs k ≤ 2097152)) (w : World) (hcW : c < w.heap.size)
    (hBs : w.cell? ⟨Bs, 0, none⟩ = some (.slice A xs.length cap)) (hBr : w.cell? ⟨Br, 0, none⟩ = some (.int .i64 r)) (hBsc : Bs ≠ c) (hBrc : Br ≠ c)
    (hc : ∀ k, k < xs.length → ∃ b off, A = some ⟨b, off, none⟩ ∧ b ≠ c ∧ w.cell? ⟨b, off + k * 2, none⟩ = some (.int .i64 (fs xs k)) ∧ w.cell? ⟨b, off + k * 2 + 1, none⟩ = some (.int .i64 (sn xs k))) :
    SeqStopsK Fence.wide n Try.prog 87 #[.pointer (some ⟨Bs, 0, none⟩), .pointer (some ⟨Br, 0, none⟩)] (fun x : Int => #[Value.int .i64 x]) (KpC c) (fun ys => ys = dis xs r)
      (fun _ => True) (xs.length * (xs.length + 1)) w := fun l J Jx W hW hJ _ hY h0 => by
  have hW' : Bl w W := hW
  exact dist1_in n hn l Bs Br c A cap xs r hr hlen hx J Jx hY W
    (fun pre W1 W2 hj g => hJ pre W1 W2 none hj ⟨g.os, g.tape, g.output, g.size, fun i hi _ => Below.block g i hi⟩ (fun r e => by cases e))
    (Nat.lt_of_lt_of_le hcW hW'.size) ((hW'.cell (p := ⟨Bs, 0, none⟩) (cell_lt hBs)).trans hBs) ((hW'.cell (p := ⟨Br, 0, none⟩) (cell_lt hBr)).trans hBr) hBsc hBrc
    (fun k hk => by
      obtain ⟨b, off, h1, h2, h3, h4⟩ := hc k hk
      exact ⟨b, off, h1, h2, (hW'.cell (p := ⟨b, _, none⟩) (cell_lt h3)).trans h3, (hW'.cell (p := ⟨b, _, none⟩) (cell_lt h4)).trans h4⟩) h0

set_option maxRecDepth 100000 in
set_option maxHeartbeats 2000000 in
theorem clearing_in (A : Option Addr) (cap : Nat) (xs : List (Int × Int)) (r : Int) (hr : 1 ≤ r ∧ r ≤ 2097152) (hlen : xs.length ≤ 12)
    (hx : ∀ k, k < xs.length → (1 ≤ fs xs k ∧ fs xs k ≤ 1048576) ∧ (1 ≤ sn xs k ∧ sn xs k ≤ 2097152)) (w : World) (hT : Tr w A xs) :
    CallsIn Fence.wide 3 Try.prog 57 #[.slice A xs.length cap, .int .i64 r] w fun e W' =>
      e = .returned (.int .i64 (mn (dis xs r))) ∧ Below w.heap.size w W' := by
  have HT := Lib.hid hT; clear hT
  have HX := Lib.hid hx; clear hx
  refine callsIn_of_wp_marks Try.func57 rfl trivial ?_ rfl
  simp only [Try.ntmps57, List.size_toArray, List.length_cons, List.length_nil, Nat.reduceAdd, Nat.reduceSub, Array.replicate_succ, Array.replicate_zero, List.push_toArray, List.append_toArray, List.nil_append, List.cons_append]
  gi_wp2_with fail
  refine ⟨trivial, (callsIn_wide.2 (distances_any _ _ _ _ _)).mono ?_⟩; rintro e w' ⟨rfl, rfl⟩
  gi_wp2_with fail
  have hB0 : Below w.heap.size w (((w.alloc (.cells #[.int .i64 9223372036854775807] 3)).alloc (.cells #[.slice A xs.length cap] 39)).alloc (.cells #[.int .i64 r] 3)) :=
    (((Bl.refl w).alloc _).alloc _).alloc _
  have hT2 := Tr.go (w' := ((w.alloc (.cells #[.int .i64 9223372036854775807] 3)).alloc (.cells #[.slice A xs.length cap] 39)).alloc (.cells #[.int .i64 r] 3)) HT.out hB0
  refine wpIn_rangeFunc_ownG rfl (by decide) (gf := 87) (lb := #[.pointer (some ⟨w.heap.size + 1, 0, none⟩), .pointer (some ⟨w.heap.size + 1 + 1, 0, none⟩)]) rfl trivial (enters_of Try.func87 (by kernel_rfl) rfl)
    (dist_stops 2 (by decide) (w.heap.size + 1) (w.heap.size + 1 + 1) w.heap.size A cap xs r hr hlen HX.out (((w.alloc (.cells #[.int .i64 9223372036854775807] 3)).alloc (.cells #[.slice A xs.length cap] 39)).alloc (.cells #[.int .i64 r] 3)) (by simp; omega) (by simp [go_sem]) (by simp [go_sem]) (by omega) (by omega)
      (fun k hk => by
        obtain ⟨b, off, e1, e2, e3, e4⟩ := HT.out k hk
        obtain ⟨b', off', e1', e2', e3', e4'⟩ := hT2 k hk
        refine ⟨b', off', e1', ?_, e3', e4'⟩
        have : b = b' := by rw [e1] at e1'; cases e1'; rfl
        omega)) KpC.trans (fun W l o o' _ h hc _ => KpC.putObj h hc) (Below.refl _ _) (fun _ => rfl)
    (fun pre W => (W.cell? ⟨w.heap.size, 0, none⟩ = some (.int .i64 (mn pre)) ∧ W.frozen? ⟨w.heap.size, 0, none⟩ = false) ∧ Below w.heap.size w W)
    (fun _ _ _ => False)
    (OwnFrom.and (Own.from (fun s A B row hs hg hr => ⟨cell_kept hs.1 hg hr, (frozen_kept hs.1 hg hr).trans hs.2⟩) _) (ownFrom_below (Nat.le_refl _) (by simp; omega)))
    (fun _ _ _ _ _ h _ _ => h)
    ⟨⟨by simp [go_sem, mn], by simp [go_sem]⟩, hB0⟩
    (fun x => { tmps := #[.slice A xs.length cap, .int .i64 r, undef, undef, .int .i64 0, .pointer (some ⟨w.heap.size, 0, none⟩), .int .i64 x, .slice A xs.length cap, .int .i64 r, .func (.func 87) #[] #[.pointer (some ⟨w.heap.size + 1, 0, none⟩), .pointer (some ⟨w.heap.size + 1 + 1, 0, none⟩)], .int .i64 x, undef, undef, undef, undef], defers := [] }) ?assign ?body ?done ?stop
  case assign =>
    intro l x W K hK
    gi_wp2
    exact hK
  case body =>
    rintro l pre x W ⟨⟨hcr, hfr⟩, hB⟩ _
    obtain ⟨m, hm⟩ : ∃ m, mn pre = m := ⟨_, rfl⟩
    have HM := Lib.hid (show mn (pre ++ [x]) = min m x by rw [mn_snoc, hm])
    rw [hm] at hcr
    clear hm
    have hw0 : w.heap.size < W.heap.size := cell_lt hcr
    have fin : ∀ y, y = min m x → ∀ B, KeepsFrom B W (W.setCell ⟨w.heap.size, 0, none⟩ (.int .i64 y)) ∧ KpC w.heap.size W (W.setCell ⟨w.heap.size, 0, none⟩ (.int .i64 y)) ∧
        (((W.setCell ⟨w.heap.size, 0, none⟩ (.int .i64 y)).cell? ⟨w.heap.size, 0, none⟩ = some (.int .i64 (mn (pre ++ [x]))) ∧ (W.setCell ⟨w.heap.size, 0, none⟩ (.int .i64 y)).frozen? ⟨w.heap.size, 0, none⟩ = false) ∧ Below w.heap.size w (W.setCell ⟨w.heap.size, 0, none⟩ (.int .i64 y))) := fun y hy B =>
      ⟨(KeepsOthers.setCell _ _ _).from _, (KpC.refl _ _).setCell _, ⟨by rw [HM.out, ← hy]; exact World.cell?_setCell_same' _ _ _ (by rw [hcr]; rfl), by simp [go_sem, hfr]⟩, hB.setCell (p := ⟨w.heap.size, 0, none⟩) (Nat.le_refl _) _⟩
    have FIN := Lib.hid fin
    clear fin HM
    gi_wp2_with fail
    all_goals exact FIN.out _ (by omega) _
  case done =>
    rintro D ys W hD rfl ⟨⟨hcr, hfr⟩, hB⟩ hK
    gi_wp2
    refine ⟨by simp, .inl ⟨_, _, rfl, run_takeDeferred hK, ?_⟩⟩
    refine ⟨.int .i64 (mn (dis xs r)), by simp [results, Try.f57, go_sem], rfl, hB.trans (belowK_b (w := w) (Nat.le_refl _) W D _ _ (by simp at hD; omega) hK rfl rfl)⟩
  case stop =>
    rintro D c pre W hD _ hF _
    exact hF.elim

theorem clearing_any (A : Option Addr) (cap : Nat) (xs : List (Int × Int)) (r : Int) (hr : 1 ≤ r ∧ r ≤ 2097152) (hlen : xs.length ≤ 12) (hx : bksB xs = true) (w : World) (hT : Tr w A xs) :
    Calls Try.prog 57 #[.slice A xs.length cap, .int .i64 r] w fun e w' => e = .returned (.int .i64 (mn (dis xs r))) ∧ Bl w w' :=
  callsIn_wide.1 (clearing_in A cap xs r hr hlen (fun k hk => bkB_iff.1 (bksB_iff.1 hx k hk)) w hT)

/-- The clearing time. -/
def clr (xs : List (Int × Int)) (r : Int) : Int := mn (dis xs r)
theorem mem_dis {xs : List (Int × Int)} {r : Int} {y : Int} : y ∈ dis xs r ↔ ∃ k, k < xs.length ∧ y ∈ dsb xs r k := by
  have h : ∀ n, y ∈ dsp xs r n ↔ ∃ k, k < n ∧ y ∈ dsb xs r k := by
    intro n
    induction n with
    | zero => exact ⟨fun h => absurd h (by simp [dsp]), fun ⟨k, hk, _⟩ => absurd hk (by omega)⟩
    | succ n ih =>
      show y ∈ dsp xs r n ++ dsb xs r n ↔ _
      rw [List.mem_append, ih]
      constructor
      · rintro (⟨k, hk, h⟩ | h)
        · exact ⟨k, by omega, h⟩
        · exact ⟨n, by omega, h⟩
      · rintro ⟨k, hk, h⟩
        rcases Nat.lt_or_ge k n with h' | h'
        · exact .inl ⟨k, h', h⟩
        · obtain rfl : k = n := by omega
          exact .inr h
  exact h xs.length
theorem mem_crs {xs : List (Int × Int)} {r : Int} {k n : Nat} {y : Int} : y ∈ crs xs r k n ↔ ∃ j, j < n ∧ (r < sn xs j ∧ fs xs j < fs xs k) ∧ y = cr (fs xs j) (sn xs j) (fs xs k) (sn xs k) r := by
  induction n with
  | zero => exact ⟨fun h => absurd h (by simp [crs]), fun ⟨k, hk, _⟩ => absurd hk (by omega)⟩
  | succ n ih =>
    show y ∈ crs xs r k n ++ _ ↔ _
    rw [List.mem_append, ih]
    constructor
    · rintro (⟨j, hj, h⟩ | h)
      · exact ⟨j, by omega, h⟩
      · by_cases hc : r < sn xs n ∧ fs xs n < fs xs k
        · rw [if_pos hc, List.mem_singleton] at h
          exact ⟨n, by omega, hc, h⟩
        · rw [if_neg hc] at h; cases h
    · rintro ⟨j, hj, hc, h⟩
      rcases Nat.lt_or_ge j n with h' | h'
      · exact .inl ⟨j, h', hc, h⟩
      · obtain rfl : j = n := by omega
        refine .inr ?_
        rw [if_pos hc, List.mem_singleton]; exact h
/-- The numbers, as the chapter has them. -/
theorem mem_dis_iff {xs : List (Int × Int)} {r : Int} {y : Int} : y ∈ dis xs r ↔ ∃ k, k < xs.length ∧ sn xs k ≤ r ∧ (y = cl (fs xs k * 1048576) r ∨ ∃ j, j < xs.length ∧ (r < sn xs j ∧ fs xs j < fs xs k) ∧ y = cr (fs xs j) (sn xs j) (fs xs k) (sn xs k) r) := by
  rw [mem_dis]
  constructor
  · rintro ⟨k, hk, h⟩
    unfold dsb at h
    by_cases hc : sn xs k ≤ r
    · rw [if_pos hc, List.mem_cons, mem_crs] at h
      exact ⟨k, hk, hc, h⟩
    · rw [if_neg hc] at h; cases h
  · rintro ⟨k, hk, hc, h⟩
    refine ⟨k, hk, ?_⟩
    unfold dsb
    rw [if_pos hc, List.mem_cons, mem_crs]
    exact h
theorem clr_bd {xs : List (Int × Int)} {r : Int} (hr : 1 ≤ r ∧ r ≤ 2097152) (hx : bksB xs = true) (hs : slB xs r = true) : 1 ≤ clr xs r ∧ clr xs r ≤ 1099511627776 := by
  have hb := fun k hk => bkB_iff.1 (bksB_iff.1 hx k hk)
  unfold clr
  constructor
  · rw [le_mn_iff (by decide)]
    intro y hy
    obtain ⟨k, hk, hc, h⟩ := mem_dis_iff.1 hy
    have hk' := hb k hk
    rcases h with rfl | ⟨j, hj, ⟨h1, h2⟩, rfl⟩
    · exact cl_pos (by omega) (by omega)
    · have hj' := hb j hj
      unfold cr
      refine cl_pos (Int.mul_pos (by omega) (by omega)) ?_
      have p1 := Int.mul_le_mul_of_nonneg_left (show (1 : Int) ≤ fs xs k by omega) (show 0 ≤ sn xs j - r by omega)
      have p2 := Int.mul_nonneg (show 0 ≤ r - sn xs k by omega) (show 0 ≤ fs xs j by omega)
      omega
  · rw [mn_le_iff (by decide)]
    obtain ⟨k, hk, hc⟩ := slB_iff.1 hs
    have hk' := hb k hk
    exact ⟨_, mem_dis_iff.2 ⟨k, hk, hc, .inl rfl⟩, Int.le_trans (cl_self_le (by omega) (by omega)) (by omega)⟩

/-- What Delay gives. -/
def deV (xs : List (Int × Int)) (r l : Int) : Int := if flE xs r l = 0 then l + clr xs r else 0
theorem deV_ok {xs : List (Int × Int)} {r l : Int} (h : flE xs r l = 0) : deV xs r l = l + clr xs r := by unfold deV; rw [if_pos h]
theorem deV_no {xs : List (Int × Int)} {r l : Int} (h : flE xs r l ≠ 0) : deV xs r l = 0 := by unfold deV; rw [if_neg h]

set_option maxHeartbeats 1000000 in
theorem delay_any (xs : List (Int × Int)) (A : Option Addr) (cap : Nat) (r l : Int) (w : World) (hn : (xs.length : Int) ≤ 9223372036854775807) (hT : Tr w A xs) :
    Calls Try.prog 33 #[.slice A xs.length cap, .agg #[.int .i64 r, .int .i64 l]] w fun e w' => e = .returned (.tuple #[.int .i64 (deV xs r l), .int .i64 (flE xs r l)]) ∧ Bl w w' := by
  have HT := Lib.hid hT; clear hT
  by_cases h : flE xs r l = 0
  · have KF := Lib.hid (fun w (h' : Tr w A xs) => by have := checkFlow_any xs A cap r l w hn h'; rw [h] at this; exact this)
    rw [deV_ok h, h]
    obtain ⟨f1, f2, f3, f4, f5⟩ := flE_ok.1 h
    obtain ⟨⟨r1, r2⟩, l1, l2⟩ := svB_iff.1 f4
    obtain ⟨c1, c2⟩ := clr_bd ⟨r1, r2⟩ f3 f5
    have KC := Lib.hid (fun w (h' : Tr w A xs) => (show Calls Try.prog 57 #[.slice A xs.length cap, .int .i64 r] w fun e w' => e = .returned (.int .i64 (clr xs r)) ∧ Bl w w' from clearing_any A cap xs r ⟨r1, r2⟩ f2 f3 w h'))
    generalize clr xs r = v at *
    have wl : IntKind.i64.wrap (l + v) = l + v := IntWalk.i64_in _ (by omega)
    clear h f1 f2 f3 f4 f5 r1 r2 l1 l2 c1 c2
    go_enter Try.func33, Try.ntmps33
    go_wp2_with fail
    refine (KF.out _ (HT.out.go ((Bl.refl w).alloc _))).mono ?_; rintro e w1 ⟨rfl, gr⟩
    have k0 := (gr.cell (p := ⟨w.heap.size, 0, none⟩) (by simp)).trans (show _ = some (Value.int .i64 r) by simp [go_sem])
    have k1 := (gr.cell (p := ⟨w.heap.size, 1, none⟩) (by simp)).trans (show _ = some (Value.int .i64 l) by simp [go_sem])
    have G := Lib.hid (Bl.trans ((Bl.refl w).alloc _) gr)
    clear gr
    have ha := cell_lt k0
    generalize w.heap.size = a at *
    have HD := Lib.hid (show ∀ w', Bl w1 w' → (w'.cell? ⟨a, 0, none⟩ = some (.int .i64 r) ∧ w'.cell? ⟨a, 1, none⟩ = some (.int .i64 l) ∧ Hid (Bl w1 w')) from fun w' g => ⟨(g.cell (p := ⟨a, 0, none⟩) ha).trans k0, (g.cell (p := ⟨a, 1, none⟩) ha).trans k1, g⟩)
    have KC2 := Lib.hid (fun w' (g : Bl w1 w') => KC.out w' (HT.out.go (G.out.trans g)))
    clear KC ha
    go_wp2_with fail
    go_region_held3 (fun w' => w'.cell? ⟨a, 0, none⟩ = some (.int .i64 r) ∧ w'.cell? ⟨a, 1, none⟩ = some (.int .i64 l) ∧ Hid (Bl w1 w'))
      (first | with_reducible assumption | (refine HD.out _ ?_; (repeat (first | exact BA.out | exact Bl.refl _ | with_reducible refine Bl.drew ?_)); done) | fail)
      (first | (go_at_call 57; rename _ ∧ _ ∧ Hid (Bl w1 _) => hq; (with_reducible refine (KC2.out _ hq.2.2.out).mono ?_); rintro e w2 ⟨rfl, hgr⟩; have BA := Lib.hid (Bl.trans (Hid.out hq.2.2) hgr)) | fail)
    all_goals go_wp2_with fail
    all_goals go_ret2
    all_goals exact ⟨rfl, G.out.trans (And.right (And.right (by assumption : _ ∧ _ ∧ Hid (Bl w1 _)))).out⟩
  · have KF := Lib.hid (fun w (h' : Tr w A xs) => checkFlow_any xs A cap r l w hn h')
    rw [deV_no h]
    generalize flE xs r l = v at *
    go_enter Try.func33, Try.ntmps33
    go_wp2_with fail
    refine (KF.out _ (HT.out.go ((Bl.refl w).alloc _))).mono ?_; rintro e w1 ⟨rfl, gr⟩
    have G := Lib.hid (Bl.trans ((Bl.refl w).alloc _) gr)
    clear gr
    go_wp2_with fail
    go_ret2
    exact ⟨rfl, G.out⟩

end Go.Proofs.Ytgbbglnbolihfaa
