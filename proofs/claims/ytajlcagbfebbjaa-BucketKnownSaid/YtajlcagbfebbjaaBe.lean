/-
  What overdrawn, First and Conforms of package bucket return.
-/
import Derived.Test.YtajlcagbfebbjaaBd
namespace Go.Proofs.Ytajlcagbfebbjaa
open Go.RowKit Go.Shelf

attribute [local go_sem] Oper.semAt_some

/-- The index of the first negative value, or -1. -/
def fneg (f : Nat → Int) : Nat → Int
  | 0 => -1
  | n + 1 => if fneg f n < 0 then (if f n < 0 then (n : Int) else -1) else fneg f n
theorem fneg_no {f : Nat → Int} {n : Nat} (h : ∀ j, j < n → 0 ≤ f j) : fneg f n = -1 := by
  induction n with
  | zero => rfl
  | succ n ih =>
    have h1 := ih (fun j hj => h j (by omega))
    have h2 := h n (by omega)
    show (if fneg f n < 0 then (if f n < 0 then (n : Int) else -1) else fneg f n) = -1
    rw [h1, if_pos (by decide), if_neg (by omega)]
theorem fneg_yes {f : Nat → Int} {n k : Nat} (hk : k < n) (h0 : f k < 0) (h : ∀ j, j < k → 0 ≤ f j) : fneg f n = k := by
  induction n with
  | zero => omega
  | succ n ih =>
    show (if fneg f n < 0 then (if f n < 0 then (n : Int) else -1) else fneg f n) = k
    rcases Nat.lt_or_ge k n with hlt | hge
    · rw [ih hlt, if_neg (by omega)]
    · obtain rfl : k = n := by omega
      rw [fneg_no h, if_pos (by decide), if_pos h0]
theorem fneg_ways (f : Nat → Int) (n : Nat) : (fneg f n = -1 ∧ ∀ j, j < n → 0 ≤ f j) ∨ (∃ k : Nat, k < n ∧ fneg f n = k ∧ f k < 0 ∧ ∀ j, j < k → 0 ≤ f j) := by
  induction n with
  | zero => exact .inl ⟨rfl, fun j hj => absurd hj (by omega)⟩
  | succ n ih =>
    rcases ih with ⟨e, h⟩ | ⟨k, hk, e, h0, h⟩
    · by_cases hn : f n < 0
      · exact .inr ⟨n, by omega, fneg_yes (by omega) hn h, hn, h⟩
      · have : ∀ j, j < n + 1 → 0 ≤ f j := fun j hj => by
          rcases Nat.lt_or_ge j n with hj' | hj'
          · exact h j hj'
          · obtain rfl : j = n := by omega
            omega
        exact .inl ⟨fneg_no this, this⟩
    · exact .inr ⟨k, by omega, fneg_yes (by omega) h0 h, h0, h⟩
theorem fneg_bd (f : Nat → Int) (n : Nat) : -1 ≤ fneg f n ∧ fneg f n < n ∨ n = 0 ∧ fneg f n = -1 := by
  rcases fneg_ways f n with ⟨e, _⟩ | ⟨k, hk, e, _⟩
  · rw [e]; omega
  · rw [e]; omega

theorem levels_in (F : Fence) (n : Nat) (h5 : F.fn 25) (hro : F.round = none) (u R : Int) (A : Option Addr) (len cap : Nat) (w : World) :
    CallsIn F n Try.prog 25 #[.agg #[.int .i64 u, .int .i64 R], .slice A len cap] w fun e w' => e = .returned (.func (.func 31) #[] #[.pointer (some ⟨w.heap.size, 0, none⟩), .pointer (some ⟨w.heap.size + 1, 0, none⟩)]) ∧ w' = (w.alloc (.cells #[.int .i64 u, .int .i64 R] 30)).alloc (.cells #[.slice A len cap] 32) := by
  refine callsIn_of_wp Try.func25 rfl h5 ?_ hro
  simp only [Try.ntmps25, List.size_toArray, List.length_cons, List.length_nil, Nat.reduceAdd, Nat.reduceSub, Array.replicate_succ, Array.replicate_zero, List.push_toArray, List.append_toArray, List.nil_append, List.cons_append]
  gi_wp2
  go_ret
  exact ⟨rfl, rfl⟩

theorem levels_stops (F : Fence) (n : Nat) (h8 : F.fn 31) (hro : F.round = none) (hn : 1 ≤ n) (Bb Bs n₀ : Nat) (A : Option Addr) (cap : Nat) (xs : List (Int × Int)) (u R : Int) (hu : 1 ≤ u ∧ u ≤ 1048576) (hR : 1 ≤ R ∧ R ≤ 2097152)
    (hx : xs.length ≤ 200 ∧ ∀ k, k < xs.length → okAt xs k) (w : World) (hn₀ : n₀ ≤ w.heap.size)
    (hBb0 : w.cell? ⟨Bb, 0, none⟩ = some (.int .i64 u)) (hBb1 : w.cell? ⟨Bb, 1, none⟩ = some (.int .i64 R)) (hBbl : Bb < n₀)
    (hBs : w.cell? ⟨Bs, 0, none⟩ = some (.slice A xs.length cap)) (hBsl : Bs < n₀) (hc : ∀ k, k < xs.length → ∃ b off, A = some ⟨b, off, none⟩ ∧ b < n₀ ∧ w.cell? ⟨b, off + k * 2, none⟩ = some (.int .i64 (fs xs k)) ∧ w.cell? ⟨b, off + k * 2 + 1, none⟩ = some (.int .i64 (sn xs k))) :
    SeqStopsK F n Try.prog 31 #[.pointer (some ⟨Bb, 0, none⟩), .pointer (some ⟨Bs, 0, none⟩)] (fun x : Nat × Int => #[Value.int .i64 (x.1 : Int), Value.int .i64 x.2]) (Below n₀) (fun ys => ys = upto (fun j => (j, lv xs R (u * 1048576) j)) xs.length)
      (fun pre => ∃ k, k ≤ xs.length ∧ pre = upto (fun j => (j, lv xs R (u * 1048576) j)) k) xs.length w := fun l J Jx W hW hJ _ hY h0 => by
  have hW' : Below n₀ w W := hW.mono hn₀
  exact levels1_in F n h8 hro hn l Bb Bs n₀ A cap xs u R hu hR hx J Jx hY W
    (fun pre W1 o _ hj => hJ pre W1 (W1.alloc o) none hj ⟨rfl, rfl, rfl, by simp, fun i hi _ => Below.heap_alloc _ _ _ hi⟩ (fun r e => by cases e))
    (Nat.le_trans hn₀ hW.size) ((hW'.cell (p := ⟨Bb, 0, none⟩) hBbl).trans hBb0) ((hW'.cell (p := ⟨Bb, 1, none⟩) hBbl).trans hBb1) hBbl
    ((hW'.cell (p := ⟨Bs, 0, none⟩) hBsl).trans hBs)
    (fun k hk => by
      obtain ⟨b, off, h1, h2, h3, h4⟩ := hc k hk
      exact ⟨b, off, h1, h2, (hW'.cell (p := ⟨b, _, none⟩) h2).trans h3, (hW'.cell (p := ⟨b, _, none⟩) h2).trans h4⟩) h0

set_option maxRecDepth 100000 in
set_option maxHeartbeats 2000000 in
theorem overdrawn_in (F : Fence) (n : Nat) (h4 : F.fn 20) (h6 : F.fn 25) (h8 : F.fn 31) (hro : F.round = none) (hn : 3 ≤ n) (A : Option Addr) (cap : Nat) (xs : List (Int × Int)) (u R : Int) (hu : 1 ≤ u ∧ u ≤ 1048576) (hR : 1 ≤ R ∧ R ≤ 2097152)
    (hx : xs.length ≤ 200 ∧ ∀ k, k < xs.length → okAt xs k) (w : World) (hT : Tr w A xs) :
    CallsIn F n Try.prog 20 #[.agg #[.int .i64 u, .int .i64 R], .slice A xs.length cap] w fun e W' =>
      e = .returned (.int .i64 (fneg (lv xs R (u * 1048576)) xs.length)) ∧ Below w.heap.size w W' := by
  have h1 : 1 ≤ n := by omega
  have HT := Lib.hid hT; clear hT
  have HX := Lib.hid hx; clear hx
  have HU := Lib.hid hu; clear hu
  have HR := Lib.hid hR; clear hR
  refine callsIn_of_wp_marks Try.func20 rfl h4 ?_ hro
  simp only [Try.ntmps20, List.size_toArray, List.length_cons, List.length_nil, Nat.reduceAdd, Nat.reduceSub, Array.replicate_succ, Array.replicate_zero, List.push_toArray, List.append_toArray, List.nil_append, List.cons_append]
  gi_wp2_with (gi_at_call 25; refine (levels_in F (n - 1) h6 hro _ _ _ _ _ _).mono ?_; rintro e w' ⟨rfl, rfl⟩)
  have bB := Boxed.new w 30 (.int .i64 u)
  have bR := Boxed.new (w.alloc (.cells #[.int .i64 u, .int .i64 R] 30)) 3 (.int .i64 0)
  rw [World.size_alloc] at bR
  have hB0 : Below w.heap.size w ((((w.alloc (.cells #[.int .i64 u, .int .i64 R] 30)).alloc (.cells #[.int .i64 0] 3)).alloc (.cells #[.int .i64 u, .int .i64 R] 30)).alloc (.cells #[.slice A xs.length cap] 32)) :=
    ((((Below.refl _ w).alloc (Nat.le_refl _) _).alloc (by simp) _).alloc (by simp; omega) _).alloc (by simp; omega) _
  have hT2 := Tr.go (w' := (((w.alloc (.cells #[.int .i64 u, .int .i64 R] 30)).alloc (.cells #[.int .i64 0] 3)).alloc (.cells #[.int .i64 u, .int .i64 R] 30)).alloc (.cells #[.slice A xs.length cap] 32)) HT.out hB0
  refine wpIn_rangeFunc_ownG hro h1 (gf := 31) (lb := #[.pointer (some ⟨w.heap.size + 1 + 1, 0, none⟩), .pointer (some ⟨w.heap.size + 1 + 1 + 1, 0, none⟩)]) rfl h8 (enters_of Try.func31 (by kernel_rfl) rfl)
    (levels_stops F (n - 1) h8 hro (by omega) (w.heap.size + 1 + 1) (w.heap.size + 1 + 1 + 1) (w.heap.size + 1 + 1 + 1 + 1) A cap xs u R HU.out HR.out HX.out ((((w.alloc (.cells #[.int .i64 u, .int .i64 R] 30)).alloc (.cells #[.int .i64 0] 3)).alloc (.cells #[.int .i64 u, .int .i64 R] 30)).alloc (.cells #[.slice A xs.length cap] 32)) (by simp) (by simp [go_sem]) (by simp [go_sem]) (by omega) (by simp [go_sem]) (by omega)
      (fun k hk => by
        obtain ⟨b, off, e1, e2, e3, e4⟩ := hT2 k hk
        refine ⟨b, off, e1, ?_, e3, e4⟩
        simpa using e2)) belowK_t (belowK_b (by simp)) (Below.refl _ _) (fun _ => rfl)
    (fun pre W => ((∀ p ∈ pre, 0 ≤ p.2) ∧ W.cell? ⟨w.heap.size + 1, 0, none⟩ = some (.int .i64 0) ∧ W.frozen? ⟨w.heap.size + 1, 0, none⟩ = false) ∧ Below w.heap.size w W)
    (fun c pre W => (c = .ret ∧ ∃ ini last, pre = ini ++ [last] ∧ (∀ p ∈ ini, 0 ≤ p.2) ∧ last.2 < 0 ∧ W.cell? ⟨w.heap.size + 1, 0, none⟩ = some (.int .i64 (last.1 : Int))) ∧ Below w.heap.size w W)
    (OwnFrom.and (Own.from (fun s A B row hs hg hr => ⟨hs.1, cell_kept hs.2.1 hg hr, (frozen_kept hs.2.1 hg hr).trans hs.2.2⟩) _) (ownFrom_below (Nat.le_refl _) (by simp; omega)))
    (fun c => OwnFrom.and (Own.from (fun s A B row hs hg hr => by obtain ⟨hc, ini, last, e1, e2, e3, e4⟩ := hs; exact ⟨hc, ini, last, e1, e2, e3, cell_kept e4 hg hr⟩) _) (ownFrom_below (Nat.le_refl _) (by simp; omega)))
    ⟨⟨by simp, by simp [go_sem], by simp [go_sem]⟩, hB0⟩
    (fun x => { tmps := #[.agg #[.int .i64 u, .int .i64 R], .slice A xs.length cap, .pointer (some ⟨w.heap.size, 0, none⟩), undef, .pointer (some ⟨w.heap.size + 1, 0, none⟩), .int .i64 (x.1 : Int), .int .i64 x.2, .agg #[.int .i64 u, .int .i64 R], .slice A xs.length cap, .func (.func 31) #[] #[.pointer (some ⟨w.heap.size + 1 + 1, 0, none⟩), .pointer (some ⟨w.heap.size + 1 + 1 + 1, 0, none⟩)], .int .i64 (x.1 : Int), .int .i64 x.2, undef, undef, undef], defers := [] }) ?assign ?body ?done ?stop
  case assign =>
    intro l x W K hK
    gi_wp2
    exact hK
  case body =>
    rintro l pre x W ⟨⟨hp, hcr, hfr⟩, hB⟩ _
    gi_wp2
    · have hx : x.2 < 0 := by assumption
      exact ⟨(KeepsOthers.setCell _ _ _).from _, ⟨rfl, pre, x, rfl, hp, hx, World.cell?_setCell_same' _ _ _ (by rw [hcr]; rfl)⟩, hB.setCell (p := ⟨w.heap.size + 1, 0, none⟩) (by simp) _⟩
    · have hx : 0 ≤ x.2 := by assumption
      exact ⟨KeepsFrom.refl _ _, Below.refl _ _, ⟨fun p hp' => (List.mem_append.1 hp').elim (hp p) (fun e => by simp at e; subst e; exact hx), hcr, hfr⟩, hB⟩
  case done =>
    rintro D ys W hD rfl ⟨⟨hne, hcr, hfr⟩, hB⟩ hK
    gi_wp2
    have hK' := (KeepsOthers.setCell W ⟨w.heap.size + 1, 0, none⟩ (.int .i64 (-1))).same D _ hK rfl
    refine ⟨by simp, .inl ⟨_, _, rfl, run_takeDeferred hK', ?_⟩⟩
    have hc5 := cell_kept (World.cell?_setCell_same' W ⟨w.heap.size + 1, 0, none⟩ (.int .i64 (-1)) (by rw [hcr]; rfl)) (grownBy_putObj' _ D (.deferred none)) (fun r e => by cases e; exact ⟨_, hK', rfl⟩)
    have hf : fneg (lv xs R (u * 1048576)) xs.length = -1 := fneg_no (fun j hj => hne (j, lv xs R (u * 1048576) j) (by simp only [upto, List.mem_map, List.mem_range]; exact ⟨j, hj, rfl⟩))
    refine ⟨.int .i64 (-1), ?_, by rw [hf], (hB.setCell (p := ⟨w.heap.size + 1, 0, none⟩) (by simp) _).trans (belowK_b (w := w) (Nat.le_refl _) _ D _ _ (by simp at hD; omega) hK' rfl rfl)⟩
    simp [results, Try.f20, go_sem, hc5]
  case stop =>
    rintro D c pre W hD ⟨k, hk, rfl⟩ ⟨⟨rfl, ini, last, e1, e2, e3, hcr⟩, hB⟩ hK
    gi_wp2
    refine ⟨by simp, .inl ⟨_, _, rfl, run_takeDeferred hK, ?_⟩⟩
    have hc5 := cell_kept hcr (grownBy_putObj' _ D (.deferred none)) (fun r e => by cases e; exact ⟨_, hK, rfl⟩)
    obtain ⟨k', rfl⟩ : ∃ k', k = k' + 1 := by
      cases k with
      | zero => simp [upto] at e1
      | succ k' => exact ⟨k', rfl⟩
    rw [upto_succ] at e1
    obtain ⟨rfl, e5⟩ := List.append_inj' e1 rfl
    obtain rfl : (k', lv xs R (u * 1048576) k') = last := by simpa using e5
    have hf : fneg (lv xs R (u * 1048576)) xs.length = (k' : Int) := fneg_yes (by omega) e3 (fun j hj => e2 (j, lv xs R (u * 1048576) j) (by simp only [upto, List.mem_map, List.mem_range]; exact ⟨j, hj, rfl⟩))
    refine ⟨.int .i64 (k' : Int), ?_, by rw [hf], hB.trans (belowK_b (w := w) (Nat.le_refl _) W D _ _ (by simp at hD; omega) hK rfl rfl)⟩
    simp [results, Try.f20, go_sem, hc5]

theorem overdrawn_any (A : Option Addr) (cap : Nat) (xs : List (Int × Int)) (u R : Int) (hu : bkB u R = true) (hx : rtB xs = true) (w : World) (hT : Tr w A xs) :
    Calls Try.prog 20 #[.agg #[.int .i64 u, .int .i64 R], .slice A xs.length cap] w fun e W' =>
      e = .returned (.int .i64 (fneg (lv xs R (u * 1048576)) xs.length)) ∧ Bl w W' :=
  callsIn_wide.1 (overdrawn_in Fence.wide 3 trivial trivial trivial rfl (Nat.le_refl _) A cap xs u R (bkB_iff.1 hu).1 (bkB_iff.1 hu).2 (rtB_iff.1 hx) w hT)
theorem overdrawn_v {xs : List (Int × Int)} {u R v : Int} (hv : fneg (lv xs R (u * 1048576)) xs.length = v) (A : Option Addr) (cap : Nat) (hu : bkB u R = true) (hx : rtB xs = true) (w : World) (hT : Tr w A xs) :
    Calls Try.prog 20 #[.agg #[.int .i64 u, .int .i64 R], .slice A xs.length cap] w fun e W' => e = .returned (.int .i64 v) ∧ Bl w W' := by
  have := overdrawn_any A cap xs u R hu hx w hT; rw [hv] at this; exact this

end Go.Proofs.Ytajlcagbfebbjaa
