/-
  What Join of package curve and of its reference return.
-/
import Derived.Test.YtgbbglnbolihfaaCf
import Derived.Test.YtgbbglnbolihfaaBt
namespace Go.Proofs.Ytgbbglnbolihfaa
open Go.RowKit Go.Shelf

theorem first2 {f1 f2 : FuncId} {c1 c2 : Array Value} {e1 e2 : Int} {b cap : Nat} {w : World} (hb : b < w.heap.size)
    (h0 : w.cell? ⟨b, 0, none⟩ = some (.func (.func f1) #[] c1)) (h1 : w.cell? ⟨b, 1, none⟩ = some (.func (.func f2) #[] c2)) (E1 : Enters Try.prog f1) (E2 : Enters Try.prog f2)
    (K1 : ∀ w', Bl w w' → Calls Try.prog f1 c1 w' fun e w'' => e = .returned (.int .i64 e1) ∧ Bl w' w'')
    (K2 : ∀ w', Bl w w' → Calls Try.prog f2 c2 w' fun e w'' => e = .returned (.int .i64 e2) ∧ Bl w' w'') :
    Calls Try.prog 52 #[.slice (some ⟨b, 0, none⟩) 2 cap] w fun e w' => e = .returned (.int .i64 (if e1 = 0 then e2 else e1)) ∧ Bl w w' := by
  have h := cfirst_any 2 b cap (fun k => if k = 0 then f1 else f2) (fun k => if k = 0 then c1 else c2) (fun k => if k = 0 then e1 else e2) w (by omega) hb
    (fun k hk => by obtain rfl | rfl : k = 0 ∨ k = 1 := by omega
                    · exact E1
                    · exact E2)
    (fun k hk => by obtain rfl | rfl : k = 0 ∨ k = 1 := by omega
                    · exact h0
                    · exact h1)
    (fun k hk => by obtain rfl | rfl : k = 0 ∨ k = 1 := by omega
                    · exact K1
                    · exact K2)
  have e : fstE (fun k => if k = 0 then e1 else e2) 2 = (if e1 = 0 then e2 else e1) := by
    by_cases hz : e1 = 0
    · simp [fstE, hz]
    · simp [fstE, hz]
  rw [e] at h; exact h

theorem join1 (b : Nat) (r l : Int) (w : World) (k0 : w.cell? ⟨b, 0, none⟩ = some (.int .i64 r)) (k1 : w.cell? ⟨b, 1, none⟩ = some (.int .i64 l)) :
    Calls Try.prog 53 #[.pointer (some ⟨b, 0, none⟩)] w fun e w' => e = .returned (.int .i64 (svE r l)) ∧ Bl w w' := by
  have K := Lib.hid (fun w => scheck_any r l w)
  go_enter Try.func53, Try.ntmps53
  go_wp2_with fail
  refine (K.out _).mono ?_; rintro e w1 ⟨rfl, gr⟩
  have G := Lib.hid gr; clear gr
  go_wp2_with fail
  go_ret
  exact ⟨rfl, G.out⟩
theorem join2 (b : Nat) (r l : Int) (w : World) (k0 : w.cell? ⟨b, 0, none⟩ = some (.int .i64 r)) (k1 : w.cell? ⟨b, 1, none⟩ = some (.int .i64 l)) :
    Calls Try.prog 54 #[.pointer (some ⟨b, 0, none⟩)] w fun e w' => e = .returned (.int .i64 (svE r l)) ∧ Bl w w' := by
  have K := Lib.hid (fun w => scheck_any r l w)
  go_enter Try.func54, Try.ntmps54
  go_wp2_with fail
  refine (K.out _).mono ?_; rintro e w1 ⟨rfl, gr⟩
  have G := Lib.hid gr; clear gr
  go_wp2_with fail
  go_ret
  exact ⟨rfl, G.out⟩

/-- What Join gives: the error, the rate, the latency. -/
def joE (r l r' l' : Int) : Int := if svB r l && svB r' l' then (if l + l' ≤ 268435456 then 0 else 6) else 140
def joR (r l r' l' : Int) : Int := if joE r l r' l' = 0 then min r r' else 0
def joL (r l r' l' : Int) : Int := if joE r l r' l' = 0 then l + l' else 0

theorem joE_ok {r l r' l' : Int} (h : svB r l = true) (h' : svB r' l' = true) (hl : l + l' ≤ 268435456) : joE r l r' l' = 0 := by unfold joE; rw [h, h']; simp [hl]
theorem joE_big {r l r' l' : Int} (h : svB r l = true) (h' : svB r' l' = true) (hl : ¬ l + l' ≤ 268435456) : joE r l r' l' = 6 := by unfold joE; rw [h, h']; simp; omega
theorem joE_no {r l r' l' : Int} (h : (svB r l && svB r' l') = false) : joE r l r' l' = 140 := by unfold joE; rw [h]; rfl
theorem joRL_no {r l r' l' : Int} (h : joE r l r' l' ≠ 0) : joR r l r' l' = 0 ∧ joL r l r' l' = 0 := by unfold joR joL; rw [if_neg h, if_neg h]; exact ⟨rfl, rfl⟩
theorem joRL_ok {r l r' l' : Int} (h : joE r l r' l' = 0) : joR r l r' l' = min r r' ∧ joL r l r' l' = l + l' := by unfold joR joL; rw [if_pos h, if_pos h]; exact ⟨rfl, rfl⟩

set_option maxHeartbeats 1000000 in
theorem join_any (r l r' l' : Int) (w : World) :
    Calls Try.prog 28 #[.agg #[.int .i64 r, .int .i64 l], .agg #[.int .i64 r', .int .i64 l']] w fun e w' => e = .returned (.tuple #[.agg #[.int .i64 (joR r l r' l'), .int .i64 (joL r l r' l')], .int .i64 (joE r l r' l')]) ∧ Bl w w' := by
  have KF := Lib.hid (fun (b b' c : Nat) (W : World) (hb : b < W.heap.size) (hb' : b' < W.heap.size) (hc : c < W.heap.size) (k0 : W.cell? ⟨b, 0, none⟩ = some (.int .i64 r)) (k1 : W.cell? ⟨b, 1, none⟩ = some (.int .i64 l)) (k2 : W.cell? ⟨b', 0, none⟩ = some (.int .i64 r')) (k3 : W.cell? ⟨b', 1, none⟩ = some (.int .i64 l'))
      (h0 : W.cell? ⟨c, 0, none⟩ = some (.func (.func 53) #[] #[.pointer (some ⟨b, 0, none⟩)])) (h1 : W.cell? ⟨c, 1, none⟩ = some (.func (.func 54) #[] #[.pointer (some ⟨b', 0, none⟩)])) =>
    first2 (e1 := svE r l) (e2 := svE r' l') (cap := 2) hc h0 h1 (enters_of Try.func53 (by kernel_rfl) rfl) (enters_of Try.func54 (by kernel_rfl) rfl)
      (fun w' g => join1 b r l w' ((g.cell (p := ⟨b, 0, none⟩) hb).trans k0) ((g.cell (p := ⟨b, 1, none⟩) hb).trans k1))
      (fun w' g => join2 b' r' l' w' ((g.cell (p := ⟨b', 0, none⟩) hb').trans k2) ((g.cell (p := ⟨b', 1, none⟩) hb').trans k3)))
  go_enter Try.func28, Try.ntmps28
  go_wp2_with fail
  refine (KF.out w.heap.size (w.heap.size + 1) _ _ (by simp <;> omega) (by simp <;> omega) (by simp <;> omega) (by simp [go_sem]) (by simp [go_sem]) (by simp [go_sem]) (by simp [go_sem]) (by simp [go_sem]) (by simp [go_sem])).mono ?_; rintro e w1 ⟨rfl, gr⟩
  have G := Lib.hid ((((((Bl.refl w).alloc _).alloc _).alloc _).alloc _).trans gr)
  have k0 := (gr.cell (p := ⟨w.heap.size, 0, none⟩) (by simp <;> omega)).trans (show _ = some (Value.int .i64 r) by simp [go_sem])
  have k1 := (gr.cell (p := ⟨w.heap.size, 1, none⟩) (by simp <;> omega)).trans (show _ = some (Value.int .i64 l) by simp [go_sem])
  have k2 := (gr.cell (p := ⟨w.heap.size + 1, 0, none⟩) (by simp <;> omega)).trans (show _ = some (Value.int .i64 r') by simp [go_sem])
  have k3 := (gr.cell (p := ⟨w.heap.size + 1, 1, none⟩) (by simp <;> omega)).trans (show _ = some (Value.int .i64 l') by simp [go_sem])
  have SR := Sl.go (w' := w1) (a := w.heap.size + 1 + 1) (x := 0) (y := 0) (by
    have h := Sl.new ((w.alloc (.cells #[.int .i64 r, .int .i64 l] 54)).alloc (.cells #[.int .i64 r', .int .i64 l'] 54)) 0 0 54
    rw [World.size_alloc, World.size_alloc] at h
    exact h.go ((Bl.refl _).alloc _)) gr
  have hs : w.heap.size + 4 ≤ w1.heap.size := by have := gr.size; simp at this; omega
  clear gr KF
  have BS := Lib.hid (fun (w2 : World) (g : Bl w w2) (i : Nat) (v : Value) => g.setCell (p := ⟨w.heap.size + 1 + 1, i, none⟩) (show w.heap.size ≤ w.heap.size + 1 + 1 by omega) v)
  generalize w.heap.size = a at *
  have e0 : svE r l = 0 ∨ svE r l = 140 := by unfold svE; by_cases h : svB r l = true <;> simp [h]
  rcases bcase (svB r l && svB r' l') with hv | hv
  · obtain ⟨hv1, hv2⟩ := (Bool.and_eq_true _ _).mp hv
    have e1 : (if svE r l = 0 then svE r' l' else svE r l) = 0 := by rw [svE_t hv1, svE_t hv2, if_pos rfl]
    rw [e1]
    obtain ⟨⟨x1, x2⟩, x3, x4⟩ := svB_iff.1 hv1
    obtain ⟨⟨y1, y2⟩, y3, y4⟩ := svB_iff.1 hv2
    have wl : IntKind.i64.wrap (l + l') = l + l' := IntWalk.i64_in _ (by omega)
    have E0 : w1.cell? ⟨a + 1 + 1, 0, none⟩ = some (.int .i64 0) ∧ w1.cell? ⟨a + 1 + 1, 1, none⟩ = some (.int .i64 0) ∧ w1.frozen? ⟨a + 1 + 1, 0, none⟩ = false ∧ w1.frozen? ⟨a + 1 + 1, 1, none⟩ = false := ⟨SR.c0, SR.c1, SR.f0, SR.f1⟩
    have ha : a + 1 + 1 < w1.heap.size := SR.lt
    have SRX := Lib.hid SR
    clear SR
    by_cases hl : l + l' ≤ 268435456
    · have J := joE_ok hv1 hv2 hl
      have J1 := (joRL_ok J).1
      have J2 := (joRL_ok J).2
      have KC := Lib.hid (fun (m : Int) (hm : m = r ∨ m = r') w => scheck_v (svE_t (svB_iff.2 (show (1 ≤ m ∧ m ≤ 2097152) ∧ (0 ≤ l + l' ∧ l + l' ≤ 268435456) by omega))) w)
      have H := Lib.hid (And.intro J (And.intro J1 J2))
      clear J J1 J2 hv hv1 hv2 e1 e0
      go_wp2_with fail
      all_goals (
        first | (with_reducible refine (KC.out r (Or.inl rfl) _).mono ?_) | (with_reducible refine (KC.out r' (Or.inr rfl) _).mono ?_)
        rintro e w2 ⟨rfl, gr⟩
        have S2 := SRX.out.go (Bl.trans ((Bl.refl w1).alloc _) gr)
        have G2 := Lib.hid (Bl.trans (G.out.alloc _) gr)
        have n0 := Sl.newP gr
        have k4 := n0.c0
        have k5 := n0.c1
        have s0 := S2.c0
        have s1 := S2.c1
        have s2 := S2.f0
        have s3 := S2.f1
        clear n0 S2 gr k0 k1 k2 k3 E0
        go_wp2_with fail
        refine bodyPost_ret (v := .tuple #[.agg #[.int .i64 _, .int .i64 (l + l')], .int .i64 0]) (by simp [results, Try.results28, go_sem, s0, s1]; rfl) rfl ⟨?_, ?_⟩
        · rw [H.out.1, H.out.2.1, H.out.2.2]
          have e : ∀ x y : Int, x = y → Ending.returned (.tuple #[.agg #[.int .i64 x, .int .i64 (l + l')], .int .i64 0]) = Ending.returned (.tuple #[.agg #[.int .i64 y, .int .i64 (l + l')], .int .i64 0]) := fun x y h => by rw [h]
          exact e _ _ (by omega)
        · exact BS.out _ (BS.out _ G2.out _ _) _ _)
    · have J := joE_big hv1 hv2 hl
      have J1 := (joRL_no (show joE r l r' l' ≠ 0 by rw [J]; decide)).1
      have J2 := (joRL_no (show joE r l r' l' ≠ 0 by rw [J]; decide)).2
      have KC := Lib.hid (fun (m : Int) (_ : m = r ∨ m = r') w => scheck_v (svE_f (svB_not.2 (show ¬ ((1 ≤ m ∧ m ≤ 2097152) ∧ (0 ≤ l + l' ∧ l + l' ≤ 268435456)) by omega))) w)
      have H := Lib.hid (And.intro J (And.intro J1 J2))
      clear J J1 J2 hv hv1 hv2 e1 e0
      go_wp2_with fail
      all_goals (
        first | (with_reducible refine (KC.out r (Or.inl rfl) _).mono ?_) | (with_reducible refine (KC.out r' (Or.inr rfl) _).mono ?_)
        rintro e w2 ⟨rfl, gr⟩
        have S2 := SRX.out.go (Bl.trans ((Bl.refl w1).alloc _) gr)
        have G2 := Lib.hid (Bl.trans (G.out.alloc _) gr)
        have s0 := S2.c0
        have s1 := S2.c1
        have s2 := S2.f0
        have s3 := S2.f1
        clear S2 gr k0 k1 k2 k3 E0
        go_wp2_with fail
        refine bodyPost_ret (v := .tuple #[.agg #[.int .i64 0, .int .i64 0], .int .i64 6]) (by simp [results, Try.results28, go_sem, s0, s1]) rfl ⟨?_, ?_⟩
        · rw [H.out.1, H.out.2.1, H.out.2.2]
        · exact BS.out _ (BS.out _ G2.out _ _) _ _)
  · have J := joE_no hv
    have J1 := (joRL_no (show joE r l r' l' ≠ 0 by rw [J]; decide)).1
    have J2 := (joRL_no (show joE r l r' l' ≠ 0 by rw [J]; decide)).2
    have e1 : (if svE r l = 0 then svE r' l' else svE r l) = 140 := by
      rcases bcase (svB r l) with h1 | h1
      · rw [h1] at hv
        rw [svE_t h1, if_pos rfl, svE_f (by simpa using hv)]
      · rw [svE_f h1]; rfl
    rw [e1]
    have H := Lib.hid (And.intro J (And.intro J1 J2))
    have s0 := SR.c0
    have s1 := SR.c1
    have s2 := SR.f0
    have s3 := SR.f1
    clear J J1 J2 hv e1 e0 SR k0 k1 k2 k3
    go_wp2_with fail
    refine bodyPost_ret (v := .tuple #[.agg #[.int .i64 0, .int .i64 0], .int .i64 140]) (by simp [results, Try.results28, go_sem, s0, s1]) rfl ⟨?_, ?_⟩
    · rw [H.out.1, H.out.2.1, H.out.2.2]
    · exact BS.out _ (BS.out _ G.out _ _) _ _

end Go.Proofs.Ytgbbglnbolihfaa
