/-
  What trace, fits and first of the law's package return.
-/
import Derived.Test.YtajlcagbfebbjaaBj
import Derived.Test.YtajlcagbfebbjaaBo
import Derived.Test.YtajlcagbfebbjaaBk
import Derived.OwnWalk
import Derived.Deep.AppendLies
import Derived.Deep.OwnRows
namespace Go.Proofs.Ytajlcagbfebbjaa
open Go.RowKit

/-- The cells of a list of pairs. -/
def flat (ps : List (Int × Int)) : List Value := ps.flatMap (fun p => [.int .i64 p.1, .int .i64 p.2])
theorem flat_nil : flat [] = [] := rfl
theorem flat_cons (p : Int × Int) (ps : List (Int × Int)) : flat (p :: ps) = .int .i64 p.1 :: .int .i64 p.2 :: flat ps := rfl
theorem flat_append (ps qs : List (Int × Int)) : flat (ps ++ qs) = flat ps ++ flat qs := by simp [flat]
theorem flat_one (x y : Int) : flat [(x, y)] = [.int .i64 x, .int .i64 y] := rfl
theorem flat_len (ps : List (Int × Int)) : (flat ps).length = ps.length * 2 := by
  induction ps with
  | nil => rfl
  | cons p ps ih => rw [flat_cons]; simp [ih]; omega
theorem flat_get (ps : List (Int × Int)) : ∀ k, k < ps.length → (flat ps)[k * 2]? = some (.int .i64 (fs ps k)) ∧ (flat ps)[k * 2 + 1]? = some (.int .i64 (sn ps k)) := by
  induction ps with
  | nil => intro k hk; simp at hk
  | cons p ps ih =>
    intro k hk
    rw [flat_cons]
    cases k with
    | zero => exact ⟨rfl, rfl⟩
    | succ k =>
      have h := ih k (by simp at hk; omega)
      have e : (k + 1) * 2 = k * 2 + 2 := by omega
      rw [e]
      have f1 : fs (p :: ps) (k + 1) = fs ps k := by unfold fs; simp [List.getD_eq_getElem?_getD]
      have f2 : sn (p :: ps) (k + 1) = sn ps k := by unfold sn; simp [List.getD_eq_getElem?_getD]
      rw [f1, f2]
      exact ⟨by simpa using h.1, by simpa using h.2⟩
theorem take_snoc (ps : List (Int × Int)) (k : Nat) (h : k < ps.length) : ps.take (k + 1) = ps.take k ++ [(fs ps k, sn ps k)] := by
  rw [List.take_succ_eq_append_getElem h]
  congr 2
  unfold fs sn
  simp [List.getD_eq_getElem?_getD, h]
theorem add0 (g j : Nat) : (⟨g, 0, none⟩ : Addr).add j = ⟨g, j, none⟩ := by unfold Addr.add; split <;> simp_all
/-- A row of the call's own, read as a list. -/
theorem Tr.of_own {w : World} {base : Nat} {e : TypeId} {v : Value} {n : Nat} {ps : List (Int × Int)} (h : w.ownsRow base e 2 v n (flat ps)) :
    n = ps.length ∧ ∃ A c, v = .slice A n c ∧ n ≤ c ∧ c ≤ maxLen ∧ Tr w A ps ∧ ∀ b off, A = some ⟨b, off, none⟩ → base ≤ b := by
  have hl : n = ps.length := by have := h.1; rw [flat_len] at this; omega
  refine ⟨hl, ?_⟩
  rcases h.2 with ⟨rfl, h0⟩ | ⟨g, cap, cur, rfl, hb, hg, h1, h2, h3, h4⟩
  · subst h0
    have : ps = [] := List.eq_nil_of_length_eq_zero hl.symm
    subst this
    exact ⟨none, 0, rfl, Nat.le_refl _, by unfold maxLen; omega, Tr.nil, fun b off h => by cases h⟩
  · refine ⟨_, cap, rfl, h1, h2, fun k hk => ⟨g, 0, rfl, ?_, ?_, ?_⟩, fun b off h => by cases h; exact hb⟩
    · rcases Nat.lt_or_ge g w.heap.size with hlt | hge
      · exact hlt
      · rw [Array.getElem?_eq_none hge] at hg; cases hg
    · have := (flat_get ps k hk).1
      rw [← h4, List.getElem?_take_of_lt (by omega)] at this
      rw [cell_of_row w g _ cur e (0, 0) hg, Nat.zero_add]
      simpa using this
    · have := (flat_get ps k hk).2
      rw [← h4, List.getElem?_take_of_lt (by omega)] at this
      rw [cell_of_row w g _ cur e (0, 0) hg, Nat.zero_add]
      simpa using this
/-- What a call that makes a trace gives. -/
def TrRes (w : World) (ps : List (Int × Int)) (e : Ending) (w' : World) : Prop := ∃ A c, e = .returned (.slice A ps.length c) ∧ ps.length ≤ c ∧ Tr w' A ps ∧ Bl w w' ∧ ∀ b off, A = some ⟨b, off, none⟩ → w.heap.size ≤ b
theorem own_block_ge {w : World} {base : Nat} {e : TypeId} {size : Nat} {v : Value} {n : Nat} {xs : List Value} (h : w.ownsRow base e size v n xs) : ∀ k, v.ownBlock = some k → base ≤ k := by
  intro k hk
  rcases h.2 with ⟨rfl, _⟩ | ⟨g, cap, cur, rfl, hb, _⟩
  · simp [Value.ownBlock] at hk
  · simp [Value.ownBlock] at hk; omega
theorem own_ne {w : World} {base : Nat} {e : TypeId} {size : Nat} {v : Value} {n : Nat} {xs : List Value} (h : w.ownsRow base e size v n xs) {b : Nat} (hb : b < base) : v.ownBlock ≠ some b := fun e' => by
  have := own_block_ge h b e'; omega

theorem Bl.grownBy {a w w' : World} {row : Option Nat} (h : Bl a w) (hg : w.grownBy w' row) (hr : ∀ k, row = some k → a.heap.size ≤ k) : Bl a w' := Below.grown h hg h.size hr

theorem info_arr : (Try.prog.info? 35).map (fun i => (i.zero, i.size, i.bytes)) = some (some (.agg #[.int .i64 0, .int .i64 0]), 2, 16) := by kernel_rfl

set_option maxRecDepth 100000 in
set_option maxHeartbeats 2000000 in
theorem trace_any (ps : List (Int × Int)) (b len cap : Nat) (w : World) (hlen : len = ps.length * 2) (hn : ps.length ≤ 1000) (hT : Tr w (some ⟨b, 0, none⟩) ps) (hb : b < w.heap.size) :
    Calls Try.prog 11 #[.slice (some ⟨b, 0, none⟩) len cap] w (TrRes w ps) := by
  obtain ⟨i0, hi, hz0, hz1, hz2⟩ := info_parts info_arr
  have T0 := Lib.hid hT
  have HL := Lib.hid hlen
  have hlen2 : len ≤ 2000 := by omega
  clear hT hlen
  have HI := Lib.hid hi
  have HZ0 := Lib.hid hz0
  have HZ1 := Lib.hid hz1
  have HZ2 := Lib.hid hz2
  clear hi hz0 hz1 hz2
  go_enter Try.func11, Try.ntmps11
  go_wp2_with fail
  go_loopw [3, 4] (fun v iv wr => ∃ k I : Nat, k ≤ ps.length ∧ I ≤ len ∧ Hid (I = k * 2) ∧ iv = .int .i64 I ∧ Hid (wr.ownsRow w.heap.size 35 2 v k (flat (ps.take k))) ∧ Hid (Bl w wr)) (fun _ iv _ => len - (intOf iv).toNat)
  case atStart => exact ⟨0, 0, Nat.zero_le _, Nat.zero_le _, rfl, rfl, World.ownsRow_nil _ _ _ _, Bl.refl _⟩
  case round =>
    obtain ⟨k, I, hk, hI, hkI, rfl, hown, hw⟩ := hrel
    by_cases hlt : k < ps.length
    · obtain ⟨b', off', ea, _, c0, c1⟩ := T0.out.go hw.out k hlt
      obtain ⟨rfl, rfl⟩ : b = b' ∧ 0 = off' := by simpa using ea
      clear ea
      rw [Nat.zero_add, ← hkI.out] at c0 c1
      have hIl : I + 1 < len := by have := hkI.out; have := HL.out; omega
      have ts := take_snoc ps k hlt
      obtain ⟨x, hx⟩ : ∃ x, fs ps k = x := ⟨_, rfl⟩
      obtain ⟨y, hy⟩ : ∃ y, sn ps k = y := ⟨_, rfl⟩
      rw [hx] at c0 ts
      rw [hy] at c1 ts
      have TS := Lib.hid ts
      clear ts hx hy
      have bw : b < wr.heap.size := Nat.lt_of_lt_of_le hb hw.out.size
      have ag := own_ne hown.out hb
      have AG := Lib.hid ag
      clear ag
      have j0 : (0 : Int) ≤ (I : Int) := by omega
      have j1 : (I : Int) < (len : Int) := by omega
      have j2 : (0 : Int) ≤ (I : Int) + 1 := by omega
      have j3 : (I : Int) + 1 < (len : Int) := by omega
      have j5 : ((I : Int) + 1).toNat = I + 1 := by omega
      have j4 : IntKind.i64.wrap ((I : Int) + 1) = (I : Int) + 1 := IntWalk.i64_in _ (by omega)
      have j6 : IntKind.i64.wrap ((I : Int) + 2) = (I : Int) + 2 := IntWalk.i64_in _ (by omega)
      go_wp2_with fail
      go_region_held3 (fun w' => w'.cell? ⟨b, I, none⟩ = some (.int .i64 x) ∧ w'.cell? ⟨b, I + 1, none⟩ = some (.int .i64 y))
        (first
          | go_keep
          | (go_split_ands
             refine ⟨?_, ?_⟩
             · (rw [hgrow.cell_far _ (by simp; omega) (Ne.symm AG.out)]; assumption)
             · (rw [hgrow.cell_far _ (by simp; omega) (Ne.symm AG.out)]; assumption)))
        ((refine step_append_lies _ (by rfl) _ _ _ (by rfl) w.heap.size 35 i0 _ 2 16 Try.underlying32 HI.out HZ0.out HZ1.out HZ2.out rfl (by omega) _ k (flat (ps.take k)) (by rfl) ((hown.out.alloc _).drew)
            ⟨wr.heap.size, 0, none⟩ 1 1 [.int .i64 x, .int .i64 y] (by rfl) (by rfl) (World.news_of_block (cs := #[.int .i64 x, .int .i64 y]) (t := 35) (fr := (0, 0)) (heap_alloc_new wr _)) (by simp [Value.oneCell'])
            (by omega) (by unfold maxLen; omega) (by omega) (by have := hw.out.size; simp; omega) (wr.heap.size + 1) (by simp) ?_; intro gg cap' w1 hown1 hgrow hat hlt2))
      have hw2 : Bl w w1 := Bl.grownBy (hw.out.alloc _).drew hgrow (fun j e => own_block_ge hown.out j e)
      have HW2 := Lib.hid hw2
      have HO2 := Lib.hid hown1
      have hI2 : I + 2 ≤ len := by have := hkI.out; have := HL.out; omega
      clear hgrow hat hlt2 hw2 hown1
      go_wp2_with fail
      go_roundw
      case rel => exact ⟨k + 1, I + 2, by omega, hI2, by have := hkI.out; unfold Hid; omega, by go_num, by rw [TS.out, flat_append, flat_one]; exact HO2.out, HW2.out⟩
      case measure => simp [intOf]; omega
    · have hIl : ¬ I + 1 < len := by have := hkI.out; have := HL.out; omega
      have hIl2 : ¬ (I : Int) + 1 < (len : Int) := by omega
      have e : k = ps.length := by omega
      have ho := hown.out
      rw [e, List.take_length] at ho
      obtain ⟨_, A, c, rfl, h1, _, h3, h4⟩ := Tr.of_own ho
      have H4 := Lib.hid h4
      have H1 := Lib.hid h1
      have H3 := Lib.hid h3
      clear ho hown h1 h3 h4 e
      go_wp2_with fail
      go_ret
      exact ⟨A, c, rfl, H1.out, H3.out, hw.out, H4.out⟩

end Go.Proofs.Ytajlcagbfebbjaa
