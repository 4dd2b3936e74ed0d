/-
  What begin and proceed of the reassembler do.
-/
import Derived.Test.YtnapelocjcoofaaEd
import Derived.BigQuiet
import Derived.Deep.RegionHeld3
namespace Go.Proofs.Ytnapelocjcoofaa
open Go.RowKit Go.Proofs.Ytnapelocjcoofaa.Cr

/-- What proceed gives. -/
def prR (m : Ms) (p : Pc) : Ms × ByteArray :=
  if m.on = true ∧ m.num = p.num ∧ m.next = p.cnt then tkR { m with next := (m.next + 1) % 4 } (m.data ++ p.data) else (zM, ⟨#[]⟩)
theorem pr_no {m : Ms} {p : Pc} (h : ¬ (m.on = true ∧ m.num = p.num ∧ m.next = p.cnt)) : prR m p = (zM, ⟨#[]⟩) := by unfold prR; rw [if_neg h]
theorem Bk.four {w : World} {b : Nat} {m : Ms} (h : Bk w b m.l) (o : Bool) (n x : Int) (d : ByteArray) : Bk ((((w.setCell ⟨b, 0, none⟩ (.bool o)).setCell ⟨b, 1, none⟩ (.int .i64 n)).setCell ⟨b, 2, none⟩ (.int .i64 x)).setCell ⟨b, 3, none⟩ (.string d)) b (Ms.l ⟨o, n, x, d⟩) :=
  (((h.set (i := 0) (by show 0 < 4; omega) (.bool o) rfl).set (i := 1) (by show 1 < 4; omega) (.int .i64 n) rfl).set (i := 2) (by show 2 < 4; omega) (.int .i64 x) rfl).set (i := 3) (by show 3 < 4; omega) (.string d) rfl
theorem Pc.boxed (w : World) (p : Pc) (t : TypeId) : Bk (w.alloc (.cells #[.bool p.start, .int .i64 p.num, .int .i64 p.cnt, .string p.data] t)) w.heap.size p.l := Bk.new w p.l t
theorem Ms.boxed (w : World) (m : Ms) (t : TypeId) : Bk (w.alloc (.cells #[.bool m.on, .int .i64 m.num, .int .i64 m.next, .string m.data] t)) w.heap.size m.l := Bk.new w m.l t

set_option maxHeartbeats 1000000 in
theorem begin_any (m : Ms) (p : Pc) (hs : (p.data.size : Int) ≤ 4000) (u w : World) (b : Nat) (hB : Bk w b m.l) (hU : Bl u w) (hb : u.heap.size ≤ b) :
    Calls Try.prog 45 #[.pointer (some ⟨b, 0, none⟩), p.v] w fun e w' => e = .returned (.string (tkR ⟨true, p.num, 0, ⟨#[]⟩⟩ p.data).2) ∧ Bl u w' ∧ Bk w' b (tkR ⟨true, p.num, 0, ⟨#[]⟩⟩ p.data).1.l := by
  have HG := Lib.hid hb; clear hb
  have hB1 := hB.alloc (.cells #[.bool p.start, .int .i64 p.num, .int .i64 p.cnt, .string p.data] 45)
  have G1 := Lib.hid (hU.alloc (.cells #[.bool p.start, .int .i64 p.num, .int .i64 p.cnt, .string p.data] 45))
  have hP := Pc.boxed w p 45
  have KT := Lib.hid (fun w hB hU => take_any ⟨true, p.num, 0, ⟨#[]⟩⟩ p.data (by omega) u w b hB hU HG.out)
  have c0 := hB1.at 0 (by show 0 < 4; omega) (v := .bool m.on) rfl
  have f0 := hB1.fr 0 (by show 0 < 4; omega)
  have c1 := hB1.at 1 (by show 1 < 4; omega) (v := .int .i64 m.num) rfl
  have f1 := hB1.fr 1 (by show 1 < 4; omega)
  have c2 := hB1.at 2 (by show 2 < 4; omega) (v := .int .i64 m.next) rfl
  have f2 := hB1.fr 2 (by show 2 < 4; omega)
  have c3 := hB1.at 3 (by show 3 < 4; omega) (v := .string m.data) rfl
  have f3 := hB1.fr 3 (by show 3 < 4; omega)
  have p0 := hP.at 0 (by show 0 < 4; omega) (v := .bool p.start) rfl
  have p1 := hP.at 1 (by show 1 < 4; omega) (v := .int .i64 p.num) rfl
  have p2 := hP.at 2 (by show 2 < 4; omega) (v := .int .i64 p.cnt) rfl
  have p3 := hP.at 3 (by show 3 < 4; omega) (v := .string p.data) rfl
  have HB2 := Lib.hid (hB1.four true p.num 0 ⟨#[]⟩)
  have G2 := Lib.hid (G1.out.four HG.out (.bool true) (.int .i64 p.num) (.int .i64 0) (.string ⟨#[]⟩))
  have hne : b ≠ w.heap.size := fun e => Nat.lt_irrefl _ (e ▸ hB.1)
  clear hB hU hB1 hP
  unfold Pc.v
  go_enter Try.func45, Try.ntmps45
  go_wp2_with fail
  refine (KT.out _ HB2.out G2.out).mono ?_; rintro e w3 ⟨rfl, g3, h3⟩
  have G3 := Lib.hid g3; have HB3 := Lib.hid h3; clear g3 h3
  go_wp2_with fail
  go_ret
  exact ⟨rfl, G3.out, HB3.out⟩

set_option maxHeartbeats 1000000 in
theorem proceed_any (m : Ms) (p : Pc) (hs : (p.data.size : Int) ≤ 4000) (hm : (m.data.size : Int) ≤ 4000) (hn : 0 ≤ m.next ∧ m.next ≤ 3) (u w : World) (b : Nat) (hB : Bk w b m.l) (hU : Bl u w) (hb : u.heap.size ≤ b) :
    Calls Try.prog 44 #[.pointer (some ⟨b, 0, none⟩), p.v] w fun e w' => e = .returned (.string (prR m p).2) ∧ Bl u w' ∧ Bk w' b (prR m p).1.l := by
  have HG := Lib.hid hb; clear hb
  have hB1 := hB.alloc (.cells #[.bool p.start, .int .i64 p.num, .int .i64 p.cnt, .string p.data] 45)
  have G1 := Lib.hid (hU.alloc (.cells #[.bool p.start, .int .i64 p.num, .int .i64 p.cnt, .string p.data] 45))
  have hP := Pc.boxed w p 45
  have hne : b ≠ w.heap.size := fun e => Nat.lt_irrefl _ (e ▸ hB.1)
  have hlt : b < (w.alloc (.cells #[.bool p.start, .int .i64 p.num, .int .i64 p.cnt, .string p.data] 45)).heap.size := hB1.1
  have c0 := hB1.at 0 (by show 0 < 4; omega) (v := .bool m.on) rfl
  have f0 := hB1.fr 0 (by show 0 < 4; omega)
  have c1 := hB1.at 1 (by show 1 < 4; omega) (v := .int .i64 m.num) rfl
  have f1 := hB1.fr 1 (by show 1 < 4; omega)
  have c2 := hB1.at 2 (by show 2 < 4; omega) (v := .int .i64 m.next) rfl
  have f2 := hB1.fr 2 (by show 2 < 4; omega)
  have c3 := hB1.at 3 (by show 3 < 4; omega) (v := .string m.data) rfl
  have f3 := hB1.fr 3 (by show 3 < 4; omega)
  have p0 := hP.at 0 (by show 0 < 4; omega) (v := .bool p.start) rfl
  have p1 := hP.at 1 (by show 1 < 4; omega) (v := .int .i64 p.num) rfl
  have p2 := hP.at 2 (by show 2 < 4; omega) (v := .int .i64 p.cnt) rfl
  have p3 := hP.at 3 (by show 3 < 4; omega) (v := .string p.data) rfl
  have HZ := Lib.hid (fun n => (hB1.bl (((Bl.refl _).drewN n))).zero4)
  have GZ := Lib.hid (fun n => ((G1.out.drewN n).four HG.out (.bool false) (.int .i64 0) (.int .i64 0) (.string ⟨#[]⟩)))
  obtain ⟨o, n, x, d⟩ := m
  obtain ⟨s, q, c, z⟩ := p
  unfold Pc.v
  dsimp only at *
  cases o
  · rw [pr_no (by simp)]
    clear hB hU hB1 hP
    go_enter Try.func44, Try.ntmps44
    go_wp2_with fail
    go_quiet (fail)
    go_wp2_with fail
    go_ret
    exact ⟨rfl, GZ.out _, HZ.out _⟩
  · by_cases h1 : n = q
    · by_cases h2 : x = c
      · subst h1 h2
        have e : prR ⟨true, n, x, d⟩ ⟨s, n, x, z⟩ = tkR ⟨true, n, (x + 1) % 4, d⟩ (d ++ z) := by unfold prR; rw [if_pos ⟨rfl, rfl, rfl⟩]
        rw [e]
        clear e
        have KT := Lib.hid (fun w hB hU => take_any ⟨true, n, (x + 1) % 4, d⟩ (d ++ z) (by rw [ByteArray.size_append]; omega) u w b hB hU HG.out)
        have HB2 := Lib.hid (fun k => (hB1.bl (((Bl.refl _).drewN k))).set (i := 2) (by show 2 < 4; omega) (.int .i64 ((x + 1) % 4)) rfl)
        have G2 := Lib.hid (fun k => (G1.out.drewN k).setCell (p := ⟨b, 2, none⟩) HG.out (.int .i64 ((x + 1) % 4)))
        have HP := Lib.hid hP
        clear hB hU hB1 hP
        go_enter Try.func44, Try.ntmps44
        go_wp2_with fail
        go_quiet (fail)
        go_wp2_with fail
        have HB3 := Lib.hid (HB2.out nq)
        have HU3 := Lib.hid (G2.out nq)
        have HP3 := Lib.hid ((HP.out.bl ((Bl.refl _).drewN nq)).far (p := ⟨b, 2, none⟩) hne (.int .i64 ((x + 1) % 4)))
        clear HB2 G2 HP HZ GZ c0 c1 c2 c3 p0 p1 p2 p3 f0 f1 f2 f3
        generalize (((w.alloc (.cells #[.bool s, .int .i64 n, .int .i64 x, .string z] 45)).drewN nq).setCell ⟨b, 2, none⟩ (.int .i64 ((x + 1) % 4))) = wx at *
        have c3 := HB3.out.at 3 (by show 3 < 4; omega) (v := .string d) rfl
        have p3 := HP3.out.at 3 (by show 3 < 4; omega) (v := .string z) rfl
        go_region_with (first | (go_at_call 64; (with_reducible refine (KT.out _ HB3.out.drew HU3.out.drew).mono ?_); rintro e wn ⟨rfl, hbl, hbk⟩) | fail)
        all_goals (go_wp2_with fail; go_ret; exact ⟨rfl, hbl, hbk⟩)
      · rw [pr_no (by simp [h2])]
        have e2 : decide (x = c) = false := decide_eq_false h2
        have e3 : (x != c) = true := bne_iff_ne.2 h2
        clear hB hU hB1 hP
        subst h1
        go_enter Try.func44, Try.ntmps44
        go_wp2_with fail
        go_quiet (fail)
        go_wp2_with fail
        go_ret
        exact ⟨rfl, GZ.out _, HZ.out _⟩
    · rw [pr_no (by simp [h1])]
      have e2 : decide (n = q) = false := decide_eq_false h1
      have e3 : (n != q) = true := bne_iff_ne.2 h1
      clear hB hU hB1 hP
      go_enter Try.func44, Try.ntmps44
      go_wp2_with fail
      go_quiet (fail)
      go_wp2_with fail
      go_ret
      exact ⟨rfl, GZ.out _, HZ.out _⟩

end Go.Proofs.Ytnapelocjcoofaa
