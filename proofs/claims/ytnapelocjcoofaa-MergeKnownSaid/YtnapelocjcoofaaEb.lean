/-
  What Check and CheckPiece of package merge return.
-/
import Derived.Test.YtnapelocjcoofaaEa
import Derived.BigQuiet
namespace Go.Proofs.Ytnapelocjcoofaa
open Go.RowKit Go.Proofs.Ytnapelocjcoofaa.Cr

/-- A state, a piece as values. -/
def Ms.v (m : Ms) : Value := .agg #[.bool m.on, .int .i64 m.num, .int .i64 m.next, .string m.data]
def Pc.v (p : Pc) : Value := .agg #[.bool p.start, .int .i64 p.num, .int .i64 p.cnt, .string p.data]
/-- The codes. -/
def cmE (m : Ms) : Int := if okM m = true then 0 else 182
def cpE (p : Pc) : Int := if okP p = true then 0 else 181
theorem okP_eq (p : Pc) : okP p = (rsB p.num && rsB p.cnt && (!p.start || p.cnt == 0) && szB p.data.size) := by
  unfold okP rsB szB
  rw [Bool.eq_iff_iff, decide_eq_true_iff]
  simp only [Bool.and_eq_true, Bool.or_eq_true, Bool.not_eq_true', decide_eq_true_iff, beq_iff_eq]
  constructor
  · rintro ⟨h1, h2, h3, h4, h5⟩
    refine ⟨⟨⟨h1, h2⟩, ?_⟩, by omega⟩
    cases h : p.start
    · exact .inl rfl
    · exact .inr (h3 h)
  · rintro ⟨⟨⟨h1, h2⟩, h3⟩, h4⟩
    refine ⟨h1, h2, fun h => ?_, by omega, by omega⟩
    rcases h3 with h3 | h3
    · rw [h] at h3; cases h3
    · exact h3
theorem okM_eq {m : Ms} (h : m.on = true) : okM m = (rsB m.num && rsB m.next && szB ((m.data.size : Int) + 4)) := by
  unfold rsB szB
  rw [Bool.eq_iff_iff, okM_on h]
  simp only [Bool.and_eq_true, decide_eq_true_iff]
  constructor
  · rintro ⟨h1, h2, h3, h4⟩
    exact ⟨⟨h1, h2⟩, by omega⟩
  · rintro ⟨⟨h1, h2⟩, h3⟩
    exact ⟨h1, h2, by omega, by omega⟩
theorem two_bool (b : Bool) : b = true ∨ b = false := by cases b <;> simp

set_option maxHeartbeats 1000000 in
theorem checkPiece_any (p : Pc) (hs : (p.data.size : Int) ≤ 8000) (w : World) :
    Calls Try.prog 24 #[p.v] w fun e w' => e = .returned (.int .i64 (cpE p)) ∧ Bl w w' := by
  obtain ⟨s, n, c, d⟩ := p
  unfold cpE
  rw [okP_eq]
  unfold Pc.v
  dsimp only at *
  have K1 := Lib.hid (fun b (h : rsB n = b) w => isResidue_v h w)
  have K2 := Lib.hid (fun b (h : rsB c = b) w => isResidue_v h w)
  have K3 := Lib.hid (fun b (h : szB d.size = b) w => isSize_v h w)
  rcases two_bool (rsB n) with h1 | h1 <;> have K1 := Lib.hid (K1.out _ h1) <;> simp only [h1] <;> clear h1
  · rcases two_bool (rsB c) with h2 | h2 <;> have K2 := Lib.hid (K2.out _ h2) <;> simp only [h2] <;> clear h2
    · cases s
      · rcases two_bool (szB d.size) with h3 | h3 <;> have K3 := Lib.hid (K3.out _ h3) <;> simp only [h3] <;> clear h3
        · go_enter Try.func24, Try.ntmps24
          go_wp2_with fail
          refine (K1.out _).mono ?_; rintro e w1 ⟨rfl, rfl⟩
          go_wp2_with fail
          refine (K2.out _).mono ?_; rintro e w1 ⟨rfl, rfl⟩
          go_wp2_with fail
          refine (K3.out _).mono ?_; rintro e w1 ⟨rfl, rfl⟩
          go_wp2_with fail
          go_ret
          exact ⟨by simp, (Bl.refl _).alloc _⟩
        · go_enter Try.func24, Try.ntmps24
          go_wp2_with fail
          refine (K1.out _).mono ?_; rintro e w1 ⟨rfl, rfl⟩
          go_wp2_with fail
          refine (K2.out _).mono ?_; rintro e w1 ⟨rfl, rfl⟩
          go_wp2_with fail
          refine (K3.out _).mono ?_; rintro e w1 ⟨rfl, rfl⟩
          go_wp2_with fail
          go_ret
          exact ⟨by simp, (Bl.refl _).alloc _⟩
      · by_cases hc : c = 0
        · subst hc
          rcases two_bool (szB d.size) with h3 | h3 <;> have K3 := Lib.hid (K3.out _ h3) <;> simp only [h3] <;> clear h3
          · go_enter Try.func24, Try.ntmps24
            go_wp2_with fail
            refine (K1.out _).mono ?_; rintro e w1 ⟨rfl, rfl⟩
            go_wp2_with fail
            refine (K2.out _).mono ?_; rintro e w1 ⟨rfl, rfl⟩
            go_wp2_with fail
            refine (K3.out _).mono ?_; rintro e w1 ⟨rfl, rfl⟩
            go_wp2_with fail
            go_ret
            exact ⟨by simp, (Bl.refl _).alloc _⟩
          · go_enter Try.func24, Try.ntmps24
            go_wp2_with fail
            refine (K1.out _).mono ?_; rintro e w1 ⟨rfl, rfl⟩
            go_wp2_with fail
            refine (K2.out _).mono ?_; rintro e w1 ⟨rfl, rfl⟩
            go_wp2_with fail
            refine (K3.out _).mono ?_; rintro e w1 ⟨rfl, rfl⟩
            go_wp2_with fail
            go_ret
            exact ⟨by simp, (Bl.refl _).alloc _⟩
        · rw [show (c == 0) = false from beq_eq_false_iff_ne.2 hc]
          go_enter Try.func24, Try.ntmps24
          go_wp2_with fail
          refine (K1.out _).mono ?_; rintro e w1 ⟨rfl, rfl⟩
          go_wp2_with fail
          refine (K2.out _).mono ?_; rintro e w1 ⟨rfl, rfl⟩
          go_wp2_with fail
          go_ret
          exact ⟨by simp, (Bl.refl _).alloc _⟩
    · go_enter Try.func24, Try.ntmps24
      go_wp2_with fail
      refine (K1.out _).mono ?_; rintro e w1 ⟨rfl, rfl⟩
      go_wp2_with fail
      refine (K2.out _).mono ?_; rintro e w1 ⟨rfl, rfl⟩
      go_wp2_with fail
      go_ret
      exact ⟨by simp, (Bl.refl _).alloc _⟩
  · go_enter Try.func24, Try.ntmps24
    go_wp2_with fail
    refine (K1.out _).mono ?_; rintro e w1 ⟨rfl, rfl⟩
    go_wp2_with fail
    go_ret
    exact ⟨by simp, (Bl.refl _).alloc _⟩

set_option maxHeartbeats 1000000 in
theorem check_any (m : Ms) (hs : (m.data.size : Int) ≤ 8000) (w : World) :
    Calls Try.prog 22 #[m.v] w fun e w' => e = .returned (.int .i64 (cmE m)) ∧ Bl w w' := by
  unfold cmE
  obtain ⟨o, n, x, d⟩ := m
  cases o
  · by_cases hz : n = 0 ∧ x = 0 ∧ d.size = 0
    · obtain ⟨rfl, rfl, h3⟩ := hz
      obtain rfl := size_nil h3
      rw [show okM ⟨false, 0, 0, ⟨#[]⟩⟩ = true from by decide]
      unfold Ms.v
      go_enter Try.func22, Try.ntmps22
      go_wp2_with fail
      go_ret
      exact ⟨by simp, (Bl.refl _).alloc _⟩
    · rw [show okM ⟨false, n, x, d⟩ = false from by unfold okM; simpa using hz]
      unfold Ms.v
      dsimp only at *
      by_cases hn : n = 0
      · by_cases hx : x = 0
        · have hd : ¬ d.toList = [] := fun hd => hz ⟨hn, hx, by rw [ByteArray.toList_eq] at hd; rw [← ByteArray.size_data, ← Array.length_toList, hd]; rfl⟩
          clear hz
          subst hn hx
          go_enter Try.func22, Try.ntmps22
          go_wp2_with fail
          go_ret
          exact ⟨by simp, (Bl.refl _).alloc _⟩
        · clear hz
          subst hn
          go_enter Try.func22, Try.ntmps22
          go_wp2_with fail
          go_ret
          exact ⟨by simp, (Bl.refl _).alloc _⟩
      · clear hz
        go_enter Try.func22, Try.ntmps22
        go_wp2_with fail
        go_ret
        exact ⟨by simp, (Bl.refl _).alloc _⟩
  · rw [okM_eq rfl]
    unfold Ms.v
    dsimp only at *
    have K1 := Lib.hid (fun b (h : rsB n = b) w => isResidue_v h w)
    have K2 := Lib.hid (fun b (h : rsB x = b) w => isResidue_v h w)
    have K3 := Lib.hid (fun b (h : szB ((d.size : Int) + 4) = b) w => isSize_v h w)
    rcases two_bool (rsB n) with h1 | h1 <;> have K1 := Lib.hid (K1.out _ h1) <;> simp only [h1] <;> clear h1
    · rcases two_bool (rsB x) with h2 | h2 <;> have K2 := Lib.hid (K2.out _ h2) <;> simp only [h2] <;> clear h2
      · rcases two_bool (szB ((d.size : Int) + 4)) with h3 | h3 <;> have K3 := Lib.hid (K3.out _ h3) <;> simp only [h3] <;> clear h3
        · go_enter Try.func22, Try.ntmps22
          go_wp2_with fail
          refine (K1.out _).mono ?_; rintro e w1 ⟨rfl, rfl⟩
          go_wp2_with fail
          refine (K2.out _).mono ?_; rintro e w1 ⟨rfl, rfl⟩
          go_wp2_with fail
          refine (K3.out _).mono ?_; rintro e w1 ⟨rfl, rfl⟩
          go_wp2_with fail
          go_ret
          exact ⟨by simp, (Bl.refl _).alloc _⟩
        · go_enter Try.func22, Try.ntmps22
          go_wp2_with fail
          refine (K1.out _).mono ?_; rintro e w1 ⟨rfl, rfl⟩
          go_wp2_with fail
          refine (K2.out _).mono ?_; rintro e w1 ⟨rfl, rfl⟩
          go_wp2_with fail
          refine (K3.out _).mono ?_; rintro e w1 ⟨rfl, rfl⟩
          go_wp2_with fail
          go_ret
          exact ⟨by simp, (Bl.refl _).alloc _⟩
      · go_enter Try.func22, Try.ntmps22
        go_wp2_with fail
        refine (K1.out _).mono ?_; rintro e w1 ⟨rfl, rfl⟩
        go_wp2_with fail
        refine (K2.out _).mono ?_; rintro e w1 ⟨rfl, rfl⟩
        go_wp2_with fail
        go_ret
        exact ⟨by simp, (Bl.refl _).alloc _⟩
    · go_enter Try.func22, Try.ntmps22
      go_wp2_with fail
      refine (K1.out _).mono ?_; rintro e w1 ⟨rfl, rfl⟩
      go_wp2_with fail
      go_ret
      exact ⟨by simp, (Bl.refl _).alloc _⟩

end Go.Proofs.Ytnapelocjcoofaa
