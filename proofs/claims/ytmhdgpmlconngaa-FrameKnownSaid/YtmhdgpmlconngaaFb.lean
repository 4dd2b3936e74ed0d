/-
  A frame in a block of its own; what hasValidTags and Check of package frame return.
-/
import Derived.Test.YtmhdgpmlconngaaFa
namespace Go.Proofs.Ytmhdgpmlconngaa
open Go.RowKit Go.Proofs.Ytmhdgpmlconngaa.Cr

theorem n9_keep {W w' : World} {b : Nat} {d s p v q y : Int} {t r : Bool} {x : ByteArray} (hb : b < W.heap.size) (h : W.cell? ⟨b, 0, none⟩ = some (.int .i64 d) ∧ W.cell? ⟨b, 1, none⟩ = some (.int .i64 s) ∧ W.cell? ⟨b, 2, none⟩ = some (.bool t) ∧ W.cell? ⟨b, 3, none⟩ = some (.int .i64 p) ∧ W.cell? ⟨b, 4, none⟩ = some (.int .i64 v) ∧ W.cell? ⟨b, 5, none⟩ = some (.bool r) ∧ W.cell? ⟨b, 6, none⟩ = some (.int .i64 q) ∧ W.cell? ⟨b, 7, none⟩ = some (.int .i64 y) ∧ W.cell? ⟨b, 8, none⟩ = some (.string x)) (g : Bl W w') : w'.cell? ⟨b, 0, none⟩ = some (.int .i64 d) ∧ w'.cell? ⟨b, 1, none⟩ = some (.int .i64 s) ∧ w'.cell? ⟨b, 2, none⟩ = some (.bool t) ∧ w'.cell? ⟨b, 3, none⟩ = some (.int .i64 p) ∧ w'.cell? ⟨b, 4, none⟩ = some (.int .i64 v) ∧ w'.cell? ⟨b, 5, none⟩ = some (.bool r) ∧ w'.cell? ⟨b, 6, none⟩ = some (.int .i64 q) ∧ w'.cell? ⟨b, 7, none⟩ = some (.int .i64 y) ∧ w'.cell? ⟨b, 8, none⟩ = some (.string x) ∧ Hid (Bl W w') :=
  ⟨(g.cell hb).trans h.1, (g.cell hb).trans h.2.1, (g.cell hb).trans h.2.2.1, (g.cell hb).trans h.2.2.2.1, (g.cell hb).trans h.2.2.2.2.1, (g.cell hb).trans h.2.2.2.2.2.1, (g.cell hb).trans h.2.2.2.2.2.2.1, (g.cell hb).trans h.2.2.2.2.2.2.2.1, (g.cell hb).trans h.2.2.2.2.2.2.2.2, Lib.hid g⟩
theorem n9_new (w : World) (t1 : TypeId) (d s p v q y : Int) (t r : Bool) (x : ByteArray) : let W := w.alloc (.cells #[.int .i64 d, .int .i64 s, .bool t, .int .i64 p, .int .i64 v, .bool r, .int .i64 q, .int .i64 y, .string x] t1); let b := w.heap.size; W.cell? ⟨b, 0, none⟩ = some (.int .i64 d) ∧ W.cell? ⟨b, 1, none⟩ = some (.int .i64 s) ∧ W.cell? ⟨b, 2, none⟩ = some (.bool t) ∧ W.cell? ⟨b, 3, none⟩ = some (.int .i64 p) ∧ W.cell? ⟨b, 4, none⟩ = some (.int .i64 v) ∧ W.cell? ⟨b, 5, none⟩ = some (.bool r) ∧ W.cell? ⟨b, 6, none⟩ = some (.int .i64 q) ∧ W.cell? ⟨b, 7, none⟩ = some (.int .i64 y) ∧ W.cell? ⟨b, 8, none⟩ = some (.string x) := by
  simp [go_sem]
theorem quiet_eq {P : Program} {f : FuncId} {args : Array Value} {w : World} {n : Nat} {v : Value} (h : Calls P f args (w.drewN n) fun e w' => e = .returned v ∧ w.drewN n = w') : Calls P f args (w.drewN n) fun e w'' => e = .returned v ∧ ∃ m, w'' = w.drewN m :=
  h.mono fun _ _ ⟨he, hm⟩ => ⟨he, n, hm.symm⟩

set_option maxHeartbeats 1000000 in
theorem tags_any (f : Fr) (w : World) :
    Calls Try.prog 33 #[f.v] w fun e w' => e = .returned (.bool (gB f)) ∧ Bl w w' := by
  obtain ⟨d, s, t, p, v, r, q, y, x⟩ := f
  have e0 : gB ⟨d, s, t, p, v, r, q, y, x⟩ = (to p (ifs t 7) && to v (ifs t 4094) && to q (ifs r 65535)) := rfl
  rw [e0]; clear e0
  have I1 := Lib.hid (fun w => ifSet_any t 7 w)
  have I2 := Lib.hid (fun w => ifSet_any t 4094 w)
  have I3 := Lib.hid (fun w => ifSet_any r 65535 w)
  unfold Fr.v
  rcases bcase (to p (ifs t 7)) with h1 | h1
  · have K1 := Lib.hid (fun w => isTo_v h1 w)
    rcases bcase (to v (ifs t 4094)) with h2 | h2
    · have K2 := Lib.hid (fun w => isTo_v h2 w)
      have K3 := Lib.hid (fun w => isTo_any q (ifs r 65535) w)
      rw [h1, h2]
      clear h1 h2
      generalize ifs t 7 = m1 at *
      generalize ifs t 4094 = m2 at *
      generalize ifs r 65535 = m3 at *
      generalize to q m3 = b3 at *
      go_enter Try.func33, Try.ntmps33
      go_wp2_with fail
      go_quiet (first | (go_at_call 56; with_reducible exact quiet_eq (I1.out _)) | (go_at_call 56; with_reducible exact quiet_eq (I2.out _)) | (go_at_call 56; with_reducible exact quiet_eq (I3.out _)) | (go_at_call 32; with_reducible exact quiet_eq (K1.out _)) | (go_at_call 32; with_reducible exact quiet_eq (K2.out _)) | (go_at_call 32; with_reducible exact quiet_eq (K3.out _)) | fail)
      go_wp2_with fail
      go_ret
      exact ⟨rfl, ((Bl.refl _).alloc _).drewN _⟩
    · have K2 := Lib.hid (fun w => isTo_v h2 w)
      rw [h1, h2]
      clear h1 h2
      generalize ifs t 7 = m1 at *
      generalize ifs t 4094 = m2 at *
      generalize to q (ifs r 65535) = b3 at *
      go_enter Try.func33, Try.ntmps33
      go_wp2_with fail
      go_quiet (first | (go_at_call 56; with_reducible exact quiet_eq (I1.out _)) | (go_at_call 56; with_reducible exact quiet_eq (I2.out _)) | (go_at_call 32; with_reducible exact quiet_eq (K1.out _)) | (go_at_call 32; with_reducible exact quiet_eq (K2.out _)) | fail)
      go_wp2_with fail
      go_ret
      exact ⟨rfl, ((Bl.refl _).alloc _).drewN _⟩
  · have K1 := Lib.hid (fun w => isTo_v h1 w)
    rw [h1]
    clear h1
    generalize ifs t 7 = m1 at *
    generalize to v (ifs t 4094) = b2 at *
    generalize to q (ifs r 65535) = b3 at *
    go_enter Try.func33, Try.ntmps33
    go_wp2_with fail
    go_quiet (first | (go_at_call 56; with_reducible exact quiet_eq (I1.out _)) | (go_at_call 32; with_reducible exact quiet_eq (K1.out _)) | fail)
    go_wp2_with fail
    go_ret
    exact ⟨rfl, ((Bl.refl _).alloc _).drewN _⟩

end Go.Proofs.Ytmhdgpmlconngaa
