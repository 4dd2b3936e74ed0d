/-
  What the reassembler's methods of package merge do.
-/
import Derived.Test.YtnapelocjcoofaaEb
import Derived.Test.YtnapelocjcoofaaUa
namespace Go.Proofs.Ytnapelocjcoofaa
open Go.RowKit Go.Proofs.Ytnapelocjcoofaa.Cr

/-- A state as the cells of a block. -/
def Ms.l (m : Ms) : List Value := [.bool m.on, .int .i64 m.num, .int .i64 m.next, .string m.data]
def Pc.l (p : Pc) : List Value := [.bool p.start, .int .i64 p.num, .int .i64 p.cnt, .string p.data]
/-- What take gives. -/
def tkR (m : Ms) (s : ByteArray) : Ms × ByteArray :=
  if (szB s.size && chk s mkC) = true then ({ m with data := bef s }, ⟨#[]⟩) else if whB s = true then (zM, s) else (zM, ⟨#[]⟩)
theorem both_not {s : ByteArray} (h0 : chk s 0 = true) : chk s mkC = false := by
  cases h : chk s mkC
  · rfl
  · have h1 := (of_decide_eq_true h0).2
    have h2 := (of_decide_eq_true h).2
    have := seal_inj (m := 0) (n := mkC) (by decide) (by decide) (h1.trans h2.symm)
    cases this
theorem tk_jnD {s d : ByteArray} {n x : Int} (h : 64 ≤ s.size) : tkR ⟨true, n, x, d⟩ s = jnD s n x := by
  unfold tkR jnD whB
  by_cases h1 : 1522 < s.size
  · rw [if_pos h1, show szB s.size = false from decide_eq_false (by omega)]
    simp
  · rw [if_neg h1, show szB s.size = true from decide_eq_true (by omega)]
    simp only [Bool.true_and]
    by_cases h2 : chk s 0 = true
    · rw [both_not h2, h2]
      rfl
    · rw [if_neg h2, if_neg h2]

theorem Bk.zero4 {w : World} {b : Nat} {m : Ms} (h : Bk w b m.l) : Bk ((((w.setCell ⟨b, 0, none⟩ (.bool false)).setCell ⟨b, 1, none⟩ (.int .i64 0)).setCell ⟨b, 2, none⟩ (.int .i64 0)).setCell ⟨b, 3, none⟩ (.string ⟨#[]⟩)) b zM.l :=
  (((h.set (i := 0) (by show 0 < 4; omega) (.bool false) rfl).set (i := 1) (by show 1 < 4; omega) (.int .i64 0) rfl).set (i := 2) (by show 2 < 4; omega) (.int .i64 0) rfl).set (i := 3) (by show 3 < 4; omega) (.string ⟨#[]⟩) rfl
theorem Bl.four {u w : World} {b : Nat} (h : Bl u w) (hb : u.heap.size ≤ b) (v0 v1 v2 v3 : Value) : Bl u ((((w.setCell ⟨b, 0, none⟩ v0).setCell ⟨b, 1, none⟩ v1).setCell ⟨b, 2, none⟩ v2).setCell ⟨b, 3, none⟩ v3) :=
  (((h.setCell (p := ⟨b, 0, none⟩) hb v0).setCell (p := ⟨b, 1, none⟩) hb v1).setCell (p := ⟨b, 2, none⟩) hb v2).setCell (p := ⟨b, 3, none⟩) hb v3

set_option maxHeartbeats 1000000 in
theorem take_any (m : Ms) (s : ByteArray) (hs : (s.size : Int) ≤ 8000) (u w : World) (b : Nat) (hB : Bk w b m.l) (hU : Bl u w) (hb : u.heap.size ≤ b) :
    Calls Try.prog 64 #[.pointer (some ⟨b, 0, none⟩), .string s] w fun e w' => e = .returned (.string (tkR m s).2) ∧ Bl u w' ∧ Bk w' b (tkR m s).1.l := by
  have HB := Lib.hid hB; clear hB
  have HU := Lib.hid hU; clear hU
  have HG := Lib.hid hb; clear hb
  have KM := Lib.hid (fun w => marked_any s hs w)
  have KW := Lib.hid (fun w => isWhole_any s hs w)
  have KS := Lib.hid (fun w => isSize_any s.size w)
  rw [show (4294901760 : Nat) = mkC from rfl] at KM
  by_cases hM : (szB s.size && chk s mkC) = true
  · have e : tkR m s = ({ m with data := bef s }, ⟨#[]⟩) := by unfold tkR; rw [if_pos hM]
    have hM' := Bool.and_eq_true_iff.1 hM
    have h64 : 64 ≤ s.size := by have := of_decide_eq_true hM'.1; omega
    rw [e]
    rw [hM'.1] at KS
    rw [hM'.2] at KM
    clear e hM hM'
    have h64' : (64 : Int) ≤ s.size := by omega
    go_enter Try.func64, Try.ntmps64
    go_wp2_with fail
    refine (KS.out _).mono ?_; rintro e w1 ⟨rfl, rfl⟩
    go_wp2_with fail
    refine (KM.out _).mono ?_; rintro e w2 ⟨rfl, gr⟩
    have hB := HB.out.bl gr
    have G := Lib.hid (HU.out.trans gr); clear gr
    have c3 := hB.at 3 (by show 3 < 4; omega) rfl
    have f3 := hB.fr 3 (by show 3 < 4; omega)
    have HB2 := Lib.hid hB; clear hB
    go_wp2_with fail
    go_ret
    exact ⟨rfl, G.out.setCell (p := ⟨b, 3, none⟩) HG.out _, HB2.out.set (i := 3) (by show 3 < 4; omega) _ rfl⟩
  · have hm : ∀ c, szB s.size = c → (c && chk s mkC) = false := fun c h => by subst h; simpa using hM
    have e : tkR m s = if whB s = true then (zM, s) else (zM, ⟨#[]⟩) := by unfold tkR; rw [if_neg hM]
    rw [e]
    clear e
    have hE : --tk
      True := trivial
    clear hE
    rcases two_bool (szB s.size) with h1 | h1 <;> rw [h1] at KS <;> have h2 := hm _ h1 <;> clear h1 hm hM
    · rw [Bool.true_and] at h2
      rw [h2] at KM
      clear h2
      rcases two_bool (whB s) with h3 | h3 <;> rw [h3] at KW <;> simp only [h3, if_true, Bool.false_eq_true, if_false] <;> clear h3
      · go_enter Try.func64, Try.ntmps64
        go_wp2_with fail
        refine (KS.out _).mono ?_; rintro e w1 ⟨rfl, rfl⟩
        go_wp2_with fail
        refine (KM.out _).mono ?_; rintro e w2 ⟨rfl, gr⟩
        have hB := HB.out.bl gr
        have G := Lib.hid (HU.out.trans gr); clear gr
        have c0 := hB.at 0 (by show 0 < 4; omega) rfl
        have f0 := hB.fr 0 (by show 0 < 4; omega)
        have c1 := hB.at 1 (by show 1 < 4; omega) rfl
        have f1 := hB.fr 1 (by show 1 < 4; omega)
        have c2 := hB.at 2 (by show 2 < 4; omega) rfl
        have f2 := hB.fr 2 (by show 2 < 4; omega)
        have c3 := hB.at 3 (by show 3 < 4; omega) rfl
        have f3 := hB.fr 3 (by show 3 < 4; omega)
        have HB2 := Lib.hid hB.zero4; clear hB
        go_wp2_with fail
        refine (KW.out _).mono ?_; rintro e w3 ⟨rfl, gr⟩
        have HB3 := Lib.hid (HB2.out.bl gr)
        have G3 := Lib.hid ((G.out.four HG.out _ _ _ _).trans gr); clear gr
        go_wp2_with fail
        go_ret
        exact ⟨rfl, G3.out, HB3.out⟩
      · go_enter Try.func64, Try.ntmps64
        go_wp2_with fail
        refine (KS.out _).mono ?_; rintro e w1 ⟨rfl, rfl⟩
        go_wp2_with fail
        refine (KM.out _).mono ?_; rintro e w2 ⟨rfl, gr⟩
        have hB := HB.out.bl gr
        have G := Lib.hid (HU.out.trans gr); clear gr
        have c0 := hB.at 0 (by show 0 < 4; omega) rfl
        have f0 := hB.fr 0 (by show 0 < 4; omega)
        have c1 := hB.at 1 (by show 1 < 4; omega) rfl
        have f1 := hB.fr 1 (by show 1 < 4; omega)
        have c2 := hB.at 2 (by show 2 < 4; omega) rfl
        have f2 := hB.fr 2 (by show 2 < 4; omega)
        have c3 := hB.at 3 (by show 3 < 4; omega) rfl
        have f3 := hB.fr 3 (by show 3 < 4; omega)
        have HB2 := Lib.hid hB.zero4; clear hB
        go_wp2_with fail
        refine (KW.out _).mono ?_; rintro e w3 ⟨rfl, gr⟩
        have HB3 := Lib.hid (HB2.out.bl gr)
        have G3 := Lib.hid ((G.out.four HG.out _ _ _ _).trans gr); clear gr
        go_wp2_with fail
        go_ret
        exact ⟨rfl, G3.out, HB3.out⟩
    · clear h2
      rcases two_bool (whB s) with h3 | h3 <;> rw [h3] at KW <;> simp only [h3, if_true, Bool.false_eq_true, if_false] <;> clear h3
      · go_enter Try.func64, Try.ntmps64
        go_wp2_with fail
        refine (KS.out _).mono ?_; rintro e w1 ⟨rfl, rfl⟩
        have hB := HB.out
        have G := HU
        have c0 := hB.at 0 (by show 0 < 4; omega) rfl
        have f0 := hB.fr 0 (by show 0 < 4; omega)
        have c1 := hB.at 1 (by show 1 < 4; omega) rfl
        have f1 := hB.fr 1 (by show 1 < 4; omega)
        have c2 := hB.at 2 (by show 2 < 4; omega) rfl
        have f2 := hB.fr 2 (by show 2 < 4; omega)
        have c3 := hB.at 3 (by show 3 < 4; omega) rfl
        have f3 := hB.fr 3 (by show 3 < 4; omega)
        have HB2 := Lib.hid hB.zero4; clear hB
        go_wp2_with fail
        refine (KW.out _).mono ?_; rintro e w3 ⟨rfl, gr⟩
        have HB3 := Lib.hid (HB2.out.bl gr)
        have G3 := Lib.hid ((G.out.four HG.out _ _ _ _).trans gr); clear gr
        go_wp2_with fail
        go_ret
        exact ⟨rfl, G3.out, HB3.out⟩
      · go_enter Try.func64, Try.ntmps64
        go_wp2_with fail
        refine (KS.out _).mono ?_; rintro e w1 ⟨rfl, rfl⟩
        have hB := HB.out
        have G := HU
        have c0 := hB.at 0 (by show 0 < 4; omega) rfl
        have f0 := hB.fr 0 (by show 0 < 4; omega)
        have c1 := hB.at 1 (by show 1 < 4; omega) rfl
        have f1 := hB.fr 1 (by show 1 < 4; omega)
        have c2 := hB.at 2 (by show 2 < 4; omega) rfl
        have f2 := hB.fr 2 (by show 2 < 4; omega)
        have c3 := hB.at 3 (by show 3 < 4; omega) rfl
        have f3 := hB.fr 3 (by show 3 < 4; omega)
        have HB2 := Lib.hid hB.zero4; clear hB
        go_wp2_with fail
        refine (KW.out _).mono ?_; rintro e w3 ⟨rfl, gr⟩
        have HB3 := Lib.hid (HB2.out.bl gr)
        have G3 := Lib.hid ((G.out.four HG.out _ _ _ _).trans gr); clear gr
        go_wp2_with fail
        go_ret
        exact ⟨rfl, G3.out, HB3.out⟩

end Go.Proofs.Ytnapelocjcoofaa
