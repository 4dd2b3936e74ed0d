/-
  What Join and Of of the reference return.
-/
import Derived.Test.YtgbbglnbolihfaaCb
namespace Go.Proofs.Ytgbbglnbolihfaa
open Go.RowKit Go.Shelf

set_option maxHeartbeats 1000000 in
theorem rjoin_any (r l r' l' : Int) (w : World) :
    Calls Try.prog 29 #[.agg #[.int .i64 r, .int .i64 l], .agg #[.int .i64 r', .int .i64 l']] w fun e w' => e = .returned (.tuple #[.agg #[.int .i64 (joR r l r' l'), .int .i64 (joL r l r' l')], .int .i64 (joE r l r' l')]) ∧ Bl w w' := by
  have BS := Lib.hid (fun (w2 : World) (g : Bl w w2) (i : Nat) (v : Value) => g.setCell (p := ⟨w.heap.size + 1 + 1, i, none⟩) (show w.heap.size ≤ w.heap.size + 1 + 1 by omega) v)
  have HB := Lib.hid (show Bl w (((w.alloc (.cells #[.int .i64 r, .int .i64 l] 54)).alloc (.cells #[.int .i64 r', .int .i64 l'] 54)).alloc (.cells #[.int .i64 0, .int .i64 0] 54)) from (((Bl.refl w).alloc _).alloc _).alloc _)
  have HC := Lib.hid (show ∀ w1, Bl (((w.alloc (.cells #[.int .i64 r, .int .i64 l] 54)).alloc (.cells #[.int .i64 r', .int .i64 l'] 54)).alloc (.cells #[.int .i64 0, .int .i64 0] 54)) w1 →
      Sl w.heap.size r l w1 ∧ Sl (w.heap.size + 1) r' l' w1 ∧ Sl (w.heap.size + 1 + 1) 0 0 w1 from fun w1 g => by
    have h1 := Sl.new w r l 54
    have h2 := Sl.new (w.alloc (.cells #[.int .i64 r, .int .i64 l] 54)) r' l' 54
    have h3 := Sl.new ((w.alloc (.cells #[.int .i64 r, .int .i64 l] 54)).alloc (.cells #[.int .i64 r', .int .i64 l'] 54)) 0 0 54
    rw [World.size_alloc] at h2
    rw [World.size_alloc, World.size_alloc] at h3
    exact ⟨((h1.go ((Bl.refl _).alloc _)).go ((Bl.refl _).alloc _)).go g, (h2.go ((Bl.refl _).alloc _)).go g, h3.go g⟩)
  go_enter Try.func29, Try.ntmps29
  go_upto_region 1 with fail
  obtain ⟨A0, B0, R0⟩ := HC.out _ (Bl.refl _)
  generalize (((w.alloc (.cells #[.int .i64 r, .int .i64 l] 54)).alloc (.cells #[.int .i64 r', .int .i64 l'] 54)).alloc (.cells #[.int .i64 0, .int .i64 0] 54)) = W at *
  generalize w.heap.size = a at *
  have k0 := A0.c0
  have k1 := A0.c1
  have k2 := B0.c0
  have k3 := B0.c1
  have s0 := R0.c0
  have s1 := R0.c1
  have s2 := R0.f0
  have s3 := R0.f1
  clear A0 B0 R0
  rcases bcase (svB r l) with h1 | h1
  · have K1 := Lib.hid (fun w => sright_v h1 w)
    rcases bcase (svB r' l') with h2 | h2
    · have K2 := Lib.hid (fun w => sright_v h2 w)
      obtain ⟨⟨x1, x2⟩, x3, x4⟩ := svB_iff.1 h1
      obtain ⟨⟨y1, y2⟩, y3, y4⟩ := svB_iff.1 h2
      have wl : IntKind.i64.wrap (l + l') = l + l' := IntWalk.i64_in _ (by omega)
      by_cases hl : l + l' ≤ 268435456
      · have J := joE_ok h1 h2 hl
        have KC := Lib.hid (fun (m : Int) (hm : m = r ∨ m = r') w => sright_v (svB_iff.2 (show (1 ≤ m ∧ m ≤ 2097152) ∧ (0 ≤ l + l' ∧ l + l' ≤ 268435456) by omega)) w)
        have H := Lib.hid (And.intro J (And.intro (joRL_ok J).1 (joRL_ok J).2))
        clear J h1 h2
        go_wp2_with fail
        refine (K1.out _).mono ?_; rintro e w1 ⟨rfl, gr⟩
        obtain ⟨A1, B1, R1⟩ := HC.out w1 gr
        have G1 := Lib.hid gr
        clear gr k0 k1 k2 k3 s0 s1 s2 s3
        have k2 := B1.c0
        have k3 := B1.c1
        clear A1 B1 R1
        go_wp2_with fail
        refine (K2.out _).mono ?_; rintro e w2 ⟨rfl, gr⟩
        obtain ⟨A1, B1, R1⟩ := HC.out w2 (G1.out.trans gr)
        have G2 := Lib.hid (G1.out.trans gr)
        clear gr k2 k3 G1
        have k0 := A1.c0
        have k1 := A1.c1
        have k2 := B1.c0
        have k3 := B1.c1
        have bl := B1.lt
        clear A1 B1 R1
        go_wp2_with fail
        all_goals (
          first | (with_reducible refine (KC.out r (Or.inl rfl) _).mono ?_) | (with_reducible refine (KC.out r' (Or.inr rfl) _).mono ?_)
          rintro e w3 ⟨rfl, gr⟩
          have G3 := Lib.hid (G2.out.trans (Bl.trans ((Bl.refl w2).alloc _) gr))
          obtain ⟨A1, B1, R1⟩ := HC.out w3 G3.out
          have n0 := Sl.newP gr
          have k4 := n0.c0
          have k5 := n0.c1
          have s0 := R1.c0
          have s1 := R1.c1
          have s2 := R1.f0
          have s3 := R1.f1
          clear n0 A1 B1 R1 gr k0 k1 k2 k3 bl
          go_wp2_with fail
          refine bodyPost_ret (v := .tuple #[.agg #[.int .i64 _, .int .i64 (l + l')], .int .i64 0]) (by simp [results, Try.results29, go_sem, s0, s1]; rfl) rfl ⟨?_, ?_⟩
          · rw [H.out.1, H.out.2.1, H.out.2.2]
            have e : ∀ x y : Int, x = y → Ending.returned (.tuple #[.agg #[.int .i64 x, .int .i64 (l + l')], .int .i64 0]) = Ending.returned (.tuple #[.agg #[.int .i64 y, .int .i64 (l + l')], .int .i64 0]) := fun x y h => by rw [h]
            exact e _ _ (by omega)
          · exact BS.out _ (BS.out _ (HB.out.trans G3.out) _ _) _ _)
      · have J := joE_big h1 h2 hl
        have KC := Lib.hid (fun (m : Int) (_ : m = r ∨ m = r') w => sright_v (svB_not.2 (show ¬ ((1 ≤ m ∧ m ≤ 2097152) ∧ (0 ≤ l + l' ∧ l + l' ≤ 268435456)) by omega)) w)
        have H := Lib.hid (And.intro J (joRL_no (show joE r l r' l' ≠ 0 by rw [J]; decide)))
        clear J h1 h2
        go_wp2_with fail
        refine (K1.out _).mono ?_; rintro e w1 ⟨rfl, gr⟩
        obtain ⟨A1, B1, R1⟩ := HC.out w1 gr
        have G1 := Lib.hid gr
        clear gr k0 k1 k2 k3 s0 s1 s2 s3
        have k2 := B1.c0
        have k3 := B1.c1
        clear A1 B1 R1
        go_wp2_with fail
        refine (K2.out _).mono ?_; rintro e w2 ⟨rfl, gr⟩
        obtain ⟨A1, B1, R1⟩ := HC.out w2 (G1.out.trans gr)
        have G2 := Lib.hid (G1.out.trans gr)
        clear gr k2 k3 G1
        have k0 := A1.c0
        have k1 := A1.c1
        have k2 := B1.c0
        have k3 := B1.c1
        have bl := B1.lt
        clear A1 B1 R1
        go_wp2_with fail
        all_goals (
          first | (with_reducible refine (KC.out r (Or.inl rfl) _).mono ?_) | (with_reducible refine (KC.out r' (Or.inr rfl) _).mono ?_)
          rintro e w3 ⟨rfl, gr⟩
          have G3 := Lib.hid (G2.out.trans (Bl.trans ((Bl.refl w2).alloc _) gr))
          obtain ⟨A1, B1, R1⟩ := HC.out w3 G3.out
          have s0 := R1.c0
          have s1 := R1.c1
          have s2 := R1.f0
          have s3 := R1.f1
          clear A1 B1 R1 gr k0 k1 k2 k3 bl
          go_wp2_with fail
          refine bodyPost_ret (v := .tuple #[.agg #[.int .i64 0, .int .i64 0], .int .i64 6]) (by simp [results, Try.results29, go_sem, s0, s1]) rfl ⟨?_, ?_⟩
          · rw [H.out.1, H.out.2.1, H.out.2.2]
          · exact BS.out _ (BS.out _ (HB.out.trans G3.out) _ _) _ _)
    · have K2 := Lib.hid (fun w => sright_v h2 w)
      have J := joE_no (r := r) (l := l) (r' := r') (l' := l') (by rw [h2]; simp)
      have H := Lib.hid (And.intro J (joRL_no (show joE r l r' l' ≠ 0 by rw [J]; decide)))
      clear J h1 h2
      go_wp2_with fail
      refine (K1.out _).mono ?_; rintro e w1 ⟨rfl, gr⟩
      obtain ⟨A1, B1, R1⟩ := HC.out w1 gr
      have G1 := Lib.hid gr
      clear gr k0 k1 k2 k3 s0 s1 s2 s3
      have k2 := B1.c0
      have k3 := B1.c1
      clear A1 B1 R1
      go_wp2_with fail
      refine (K2.out _).mono ?_; rintro e w2 ⟨rfl, gr⟩
      obtain ⟨A1, B1, R1⟩ := HC.out w2 (G1.out.trans gr)
      have G2 := Lib.hid (G1.out.trans gr)
      have s0 := R1.c0
      have s1 := R1.c1
      have s2 := R1.f0
      have s3 := R1.f1
      clear gr k2 k3 G1 A1 B1 R1
      go_wp2_with fail
      refine bodyPost_ret (v := .tuple #[.agg #[.int .i64 0, .int .i64 0], .int .i64 140]) (by simp [results, Try.results29, go_sem, s0, s1]) rfl ⟨?_, ?_⟩
      · rw [H.out.1, H.out.2.1, H.out.2.2]
      · exact BS.out _ (BS.out _ (HB.out.trans G2.out) _ _) _ _
  · have K1 := Lib.hid (fun w => sright_v h1 w)
    have J := joE_no (r := r) (l := l) (r' := r') (l' := l') (by rw [h1]; simp)
    have H := Lib.hid (And.intro J (joRL_no (show joE r l r' l' ≠ 0 by rw [J]; decide)))
    clear J h1
    go_wp2_with fail
    refine (K1.out _).mono ?_; rintro e w1 ⟨rfl, gr⟩
    obtain ⟨A1, B1, R1⟩ := HC.out w1 gr
    have G1 := Lib.hid gr
    clear gr k0 k1 k2 k3 s0 s1 s2 s3
    have s0 := R1.c0
    have s1 := R1.c1
    have s2 := R1.f0
    have s3 := R1.f1
    clear A1 B1 R1
    go_wp2_with fail
    refine bodyPost_ret (v := .tuple #[.agg #[.int .i64 0, .int .i64 0], .int .i64 140]) (by simp [results, Try.results29, go_sem, s0, s1]) rfl ⟨?_, ?_⟩
    · rw [H.out.1, H.out.2.1, H.out.2.2]
    · exact BS.out _ (BS.out _ (HB.out.trans G1.out) _ _) _ _

/-- Of: a valid service for two numbers. -/
def ofR (m : Int) : Int := 1 + m % 2097152
def ofL (m : Int) : Int := m % 268435457
theorem of_ok (m n : Int) : svB (ofR m) (ofL n) = true := svB_iff.2 (by unfold ofR ofL; omega)
theorem of_any (m n : Int) (hm : 0 ≤ m ∧ m ≤ 4294967295) (hn : 0 ≤ n ∧ n ≤ 4294967295) (w : World) :
    Calls Try.prog 27 #[.int .u32 m, .int .u32 n] w fun e w' => e = .returned (.agg #[.int .i64 (ofR m), .int .i64 (ofL n)]) ∧ Bl w w' := by
  obtain ⟨m0, m1⟩ := hm
  obtain ⟨n0, n1⟩ := hn
  unfold ofR ofL
  go_enter Try.func27, Try.ntmps27
  go_wp2_with fail
  refine bodyPost_ret (v := .agg #[.int .i64 (1 + m % 2097152), .int .i64 (n % 268435457)]) (by simp [results, Try.results27, go_sem]) rfl ⟨rfl, ?_⟩
  repeat (first | exact Bl.refl _ | with_reducible refine Bl.alloc ?_ _ | with_reducible refine Bl.setCell ?_ (Nat.le_refl _) _)

end Go.Proofs.Ytgbbglnbolihfaa
