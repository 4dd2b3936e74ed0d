/-
  What Right, RightPiece, Check, CheckPiece of the reference return.
-/
import Derived.Test.YtnapelocjcoofaaEb
namespace Go.Proofs.Ytnapelocjcoofaa
open Go.RowKit Go.Proofs.Ytnapelocjcoofaa.Cr

set_option maxHeartbeats 2000000 in
theorem right_any (m : Ms) (hs : (m.data.size : Int) ≤ 8000) (w : World) :
    Calls Try.prog 46 #[m.v] w fun e w' => e = .returned (.bool (okM m)) ∧ Bl w w' := by
  obtain ⟨o, n, x, d⟩ := m
  unfold Ms.v
  dsimp only at *
  cases o
  · by_cases hz : n = 0 ∧ x = 0 ∧ d.size = 0
    · obtain ⟨rfl, rfl, h3⟩ := hz
      obtain rfl := size_nil h3
      have hE := (show okM ⟨false, 0, 0, ⟨#[]⟩⟩ = true from by decide)
      rw [hE]; clear hE
      go_enter Try.func46, Try.ntmps46
      go_wp2_with fail
      go_ret
      exact ⟨rfl, (Bl.refl _).alloc _⟩
    · rw [show okM ⟨false, n, x, d⟩ = false from by unfold okM; simpa using hz]
      by_cases hn : n = 0
      · by_cases hx : x = 0
        · have hd : ¬ d.toList = [] := fun hd => hz ⟨hn, hx, by rw [ByteArray.toList_eq] at hd; rw [← ByteArray.size_data, ← Array.length_toList, hd]; rfl⟩
          clear hz
          subst hn hx
          go_enter Try.func46, Try.ntmps46
          go_wp2_with fail
          go_ret
          exact ⟨rfl, (Bl.refl _).alloc _⟩
        · clear hz
          subst hn
          go_enter Try.func46, Try.ntmps46
          go_wp2_with fail
          go_ret
          exact ⟨rfl, (Bl.refl _).alloc _⟩
      · clear hz
        go_enter Try.func46, Try.ntmps46
        go_wp2_with fail
        go_ret
        exact ⟨rfl, (Bl.refl _).alloc _⟩
  · by_cases t4 : 0 ≤ n
    · by_cases t6 : n ≤ 3
      · by_cases t8 : 0 ≤ x
        · by_cases t10 : x ≤ 3
          · by_cases t12 : (60 : Int) ≤ d.size
            · by_cases t14 : (d.size : Int) ≤ 1518
              · have hE := (show okM ⟨true, n, x, d⟩ = true from decide_eq_true (by dsimp only; omega))
                rw [hE]; clear hE
                go_enter Try.func46, Try.ntmps46
                go_wp2_with fail
                go_ret
                exact ⟨rfl, (Bl.refl _).alloc _⟩
              · have hE := (show okM ⟨true, n, x, d⟩ = false from decide_eq_false (by dsimp only; omega))
                rw [hE]; clear hE
                go_enter Try.func46, Try.ntmps46
                go_wp2_with fail
                go_ret
                exact ⟨rfl, (Bl.refl _).alloc _⟩
            · have hE := (show okM ⟨true, n, x, d⟩ = false from decide_eq_false (by dsimp only; omega))
              rw [hE]; clear hE
              go_enter Try.func46, Try.ntmps46
              go_wp2_with fail
              go_ret
              exact ⟨rfl, (Bl.refl _).alloc _⟩
          · have hE := (show okM ⟨true, n, x, d⟩ = false from decide_eq_false (by dsimp only; omega))
            rw [hE]; clear hE
            go_enter Try.func46, Try.ntmps46
            go_wp2_with fail
            go_ret
            exact ⟨rfl, (Bl.refl _).alloc _⟩
        · have hE := (show okM ⟨true, n, x, d⟩ = false from decide_eq_false (by dsimp only; omega))
          rw [hE]; clear hE
          go_enter Try.func46, Try.ntmps46
          go_wp2_with fail
          go_ret
          exact ⟨rfl, (Bl.refl _).alloc _⟩
      · have hE := (show okM ⟨true, n, x, d⟩ = false from decide_eq_false (by dsimp only; omega))
        rw [hE]; clear hE
        go_enter Try.func46, Try.ntmps46
        go_wp2_with fail
        go_ret
        exact ⟨rfl, (Bl.refl _).alloc _⟩
    · have hE := (show okM ⟨true, n, x, d⟩ = false from decide_eq_false (by dsimp only; omega))
      rw [hE]; clear hE
      go_enter Try.func46, Try.ntmps46
      go_wp2_with fail
      go_ret
      exact ⟨rfl, (Bl.refl _).alloc _⟩

set_option maxHeartbeats 2000000 in
theorem rightPiece_any (p : Pc) (hs : (p.data.size : Int) ≤ 8000) (w : World) :
    Calls Try.prog 47 #[p.v] w fun e w' => e = .returned (.bool (okP p)) ∧ Bl w w' := by
  obtain ⟨s, n, c, d⟩ := p
  unfold Pc.v
  dsimp only at *
  cases s
  · by_cases t4 : 0 ≤ n
    · by_cases t6 : n ≤ 3
      · by_cases t8 : 0 ≤ c
        · by_cases t10 : c ≤ 3
          · by_cases t12 : (64 : Int) ≤ d.size
            · by_cases t14 : (d.size : Int) ≤ 1522
              · have hE := (show okP ⟨false, n, c, d⟩ = true from decide_eq_true (by dsimp only; simp; omega))
                rw [hE]; clear hE
                go_enter Try.func47, Try.ntmps47
                go_wp2_with fail
                go_ret
                exact ⟨rfl, (Bl.refl _).alloc _⟩
              · have hE := (show okP ⟨false, n, c, d⟩ = false from decide_eq_false (by dsimp only; simp; omega))
                rw [hE]; clear hE
                go_enter Try.func47, Try.ntmps47
                go_wp2_with fail
                go_ret
                exact ⟨rfl, (Bl.refl _).alloc _⟩
            · have hE := (show okP ⟨false, n, c, d⟩ = false from decide_eq_false (by dsimp only; simp; omega))
              rw [hE]; clear hE
              go_enter Try.func47, Try.ntmps47
              go_wp2_with fail
              go_ret
              exact ⟨rfl, (Bl.refl _).alloc _⟩
          · have hE := (show okP ⟨false, n, c, d⟩ = false from decide_eq_false (by dsimp only; simp; omega))
            rw [hE]; clear hE
            go_enter Try.func47, Try.ntmps47
            go_wp2_with fail
            go_ret
            exact ⟨rfl, (Bl.refl _).alloc _⟩
        · have hE := (show okP ⟨false, n, c, d⟩ = false from decide_eq_false (by dsimp only; simp; omega))
          rw [hE]; clear hE
          go_enter Try.func47, Try.ntmps47
          go_wp2_with fail
          go_ret
          exact ⟨rfl, (Bl.refl _).alloc _⟩
      · have hE := (show okP ⟨false, n, c, d⟩ = false from decide_eq_false (by dsimp only; simp; omega))
        rw [hE]; clear hE
        go_enter Try.func47, Try.ntmps47
        go_wp2_with fail
        go_ret
        exact ⟨rfl, (Bl.refl _).alloc _⟩
    · have hE := (show okP ⟨false, n, c, d⟩ = false from decide_eq_false (by dsimp only; simp; omega))
      rw [hE]; clear hE
      go_enter Try.func47, Try.ntmps47
      go_wp2_with fail
      go_ret
      exact ⟨rfl, (Bl.refl _).alloc _⟩
  · by_cases t4 : 0 ≤ n
    · by_cases t6 : n ≤ 3
      · by_cases t8 : 0 ≤ c
        · by_cases t10 : c ≤ 3
          · by_cases t12 : c = 0
            · by_cases t14 : (64 : Int) ≤ d.size
              · by_cases t16 : (d.size : Int) ≤ 1522
                · have hE := (show okP ⟨true, n, c, d⟩ = true from decide_eq_true (by dsimp only; simp; omega))
                  rw [hE]; clear hE
                  go_enter Try.func47, Try.ntmps47
                  go_wp2_with fail
                  go_ret
                  exact ⟨rfl, (Bl.refl _).alloc _⟩
                · have hE := (show okP ⟨true, n, c, d⟩ = false from decide_eq_false (by dsimp only; simp; omega))
                  rw [hE]; clear hE
                  go_enter Try.func47, Try.ntmps47
                  go_wp2_with fail
                  go_ret
                  exact ⟨rfl, (Bl.refl _).alloc _⟩
              · have hE := (show okP ⟨true, n, c, d⟩ = false from decide_eq_false (by dsimp only; simp; omega))
                rw [hE]; clear hE
                go_enter Try.func47, Try.ntmps47
                go_wp2_with fail
                go_ret
                exact ⟨rfl, (Bl.refl _).alloc _⟩
            · have q1 : (c == 0) = false := beq_eq_false_iff_ne.2 t12
              have q2 : (c != 0) = true := bne_iff_ne.2 t12
              have hE := (show okP ⟨true, n, c, d⟩ = false from decide_eq_false (by dsimp only; simp; omega))
              rw [hE]; clear hE
              go_enter Try.func47, Try.ntmps47
              go_wp2_with fail
              go_ret
              exact ⟨rfl, (Bl.refl _).alloc _⟩
          · have hE := (show okP ⟨true, n, c, d⟩ = false from decide_eq_false (by dsimp only; simp; omega))
            rw [hE]; clear hE
            go_enter Try.func47, Try.ntmps47
            go_wp2_with fail
            go_ret
            exact ⟨rfl, (Bl.refl _).alloc _⟩
        · have hE := (show okP ⟨true, n, c, d⟩ = false from decide_eq_false (by dsimp only; simp; omega))
          rw [hE]; clear hE
          go_enter Try.func47, Try.ntmps47
          go_wp2_with fail
          go_ret
          exact ⟨rfl, (Bl.refl _).alloc _⟩
      · have hE := (show okP ⟨true, n, c, d⟩ = false from decide_eq_false (by dsimp only; simp; omega))
        rw [hE]; clear hE
        go_enter Try.func47, Try.ntmps47
        go_wp2_with fail
        go_ret
        exact ⟨rfl, (Bl.refl _).alloc _⟩
    · have hE := (show okP ⟨true, n, c, d⟩ = false from decide_eq_false (by dsimp only; simp; omega))
      rw [hE]; clear hE
      go_enter Try.func47, Try.ntmps47
      go_wp2_with fail
      go_ret
      exact ⟨rfl, (Bl.refl _).alloc _⟩

theorem right_v {m : Ms} {b : Bool} (h : okM m = b) (hs : (m.data.size : Int) ≤ 8000) (w : World) :
    Calls Try.prog 46 #[m.v] w fun e w' => e = .returned (.bool b) ∧ Bl w w' := by subst h; exact right_any m hs w
theorem rightPiece_v {p : Pc} {b : Bool} (h : okP p = b) (hs : (p.data.size : Int) ≤ 8000) (w : World) :
    Calls Try.prog 47 #[p.v] w fun e w' => e = .returned (.bool b) ∧ Bl w w' := by subst h; exact rightPiece_any p hs w
set_option maxHeartbeats 400000 in
theorem rcheck_any (m : Ms) (hs : (m.data.size : Int) ≤ 8000) (w : World) :
    Calls Try.prog 23 #[m.v] w fun e w' => e = .returned (.int .i64 (cmE m)) ∧ Bl w w' := by
  unfold cmE
  rcases two_bool (okM m) with h | h <;> have K := Lib.hid (fun w => right_v h hs w) <;> simp only [h] <;> clear h <;> unfold Ms.v at *
  · go_enter Try.func23, Try.ntmps23
    go_wp2_with fail
    refine (K.out _).mono ?_; rintro e w1 ⟨rfl, gr⟩
    have G := Lib.hid gr; clear gr
    go_wp2_with fail
    go_ret
    exact ⟨by simp, ((Bl.refl _).alloc _).trans G.out⟩
  · go_enter Try.func23, Try.ntmps23
    go_wp2_with fail
    refine (K.out _).mono ?_; rintro e w1 ⟨rfl, gr⟩
    have G := Lib.hid gr; clear gr
    go_wp2_with fail
    go_ret
    exact ⟨by simp, ((Bl.refl _).alloc _).trans G.out⟩
set_option maxHeartbeats 400000 in
theorem rcheckPiece_any (m : Pc) (hs : (m.data.size : Int) ≤ 8000) (w : World) :
    Calls Try.prog 25 #[m.v] w fun e w' => e = .returned (.int .i64 (cpE m)) ∧ Bl w w' := by
  unfold cpE
  rcases two_bool (okP m) with h | h <;> have K := Lib.hid (fun w => rightPiece_v h hs w) <;> simp only [h] <;> clear h <;> unfold Pc.v at *
  · go_enter Try.func25, Try.ntmps25
    go_wp2_with fail
    refine (K.out _).mono ?_; rintro e w1 ⟨rfl, gr⟩
    have G := Lib.hid gr; clear gr
    go_wp2_with fail
    go_ret
    exact ⟨by simp, ((Bl.refl _).alloc _).trans G.out⟩
  · go_enter Try.func25, Try.ntmps25
    go_wp2_with fail
    refine (K.out _).mono ?_; rintro e w1 ⟨rfl, gr⟩
    have G := Lib.hid gr; clear gr
    go_wp2_with fail
    go_ret
    exact ⟨by simp, ((Bl.refl _).alloc _).trans G.out⟩

end Go.Proofs.Ytnapelocjcoofaa
