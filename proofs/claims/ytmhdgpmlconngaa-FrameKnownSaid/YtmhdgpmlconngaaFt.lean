/-
  The law's hello, size, back and malformed.
-/
import Derived.Test.YtmhdgpmlconngaaFj
import Derived.Test.YtmhdgpmlconngaaFn
namespace Go.Proofs.Ytmhdgpmlconngaa
open Go.RowKit Go.Proofs.Ytmhdgpmlconngaa.Cr

/-- The chapter's frame. -/
def helF : Fr := ⟨1, 2, false, 0, 0, false, 0, 2048, ⟨#[104, 101, 108, 108, 111]⟩⟩
set_option maxHeartbeats 1000000 in
theorem hello_any (w : World) : Calls Try.prog 27 #[] w fun e w' => e = .returned helF.v ∧ Bl w w' := by
  go_enter Try.func27, Try.ntmps27
  go_wp2
  exact bodyPost_ret (v := helF.v) (by simp [results, Try.results27, go_sem, helF, Fr.v]) rfl ⟨rfl, (Bl.refl w).alloc _⟩
theorem wiR_s {f : Fr} {n : Int} (h : okB f = true) (hn : n = ((bod f).size : Int) + 24) : wiR f = .returned (.tuple #[.int .i64 n, .int .i64 0]) := by rw [hn]; exact (wiR_ok h).symm
set_option maxHeartbeats 1000000 in
theorem size_t (f : Fr) (n : Int) (h : okB f = true) (hn : n = ((bod f).size : Int) + 24) (w : World) : Calls Try.prog 28 #[f.v, .int .i64 n] w fun e w' => e = .returned (.bool true) ∧ Bl w w' := by
  have KW := Lib.hid (fun w => (wiR_s h hn) ▸ wire_any f w)
  clear hn h
  obtain ⟨d, s, t, p, v, r, q, y, x⟩ := f
  unfold Fr.v at *
  go_enter Try.func28, Try.ntmps28
  go_wp2_with fail
  refine (KW.out _).mono ?_; rintro e wn ⟨rfl, hgr⟩
  have G := Lib.hid (Bl.trans ((Bl.refl w).alloc _) hgr); clear hgr
  go_wp2_with fail
  go_ret
  exact ⟨rfl, G.out⟩
theorem two_box {w2 : World} (w : World) (t : TypeId) (f g : Fr) (h : Bl ((w.alloc (.cells #[.int .i64 f.dst, .int .i64 f.src, .bool f.tag, .int .i64 f.prio, .int .i64 f.vid, .bool f.red, .int .i64 f.seq, .int .i64 f.typ, .string f.data] t)).alloc (.cells #[.int .i64 g.dst, .int .i64 g.src, .bool g.tag, .int .i64 g.prio, .int .i64 g.vid, .bool g.red, .int .i64 g.seq, .int .i64 g.typ, .string g.data] t)) w2) :
    (w2.cell? ⟨w.heap.size + 1, 0, none⟩ = some (.int .i64 g.dst) ∧ w2.cell? ⟨w.heap.size + 1, 1, none⟩ = some (.int .i64 g.src) ∧ w2.cell? ⟨w.heap.size + 1, 2, none⟩ = some (.bool g.tag) ∧ w2.cell? ⟨w.heap.size + 1, 3, none⟩ = some (.int .i64 g.prio) ∧ w2.cell? ⟨w.heap.size + 1, 4, none⟩ = some (.int .i64 g.vid) ∧ w2.cell? ⟨w.heap.size + 1, 5, none⟩ = some (.bool g.red) ∧ w2.cell? ⟨w.heap.size + 1, 6, none⟩ = some (.int .i64 g.seq) ∧ w2.cell? ⟨w.heap.size + 1, 7, none⟩ = some (.int .i64 g.typ) ∧ w2.cell? ⟨w.heap.size + 1, 8, none⟩ = some (.string g.data)) ∧ w.heap.size + 1 < w2.heap.size ∧ Bl w w2 := by
  have hF := Fb.new (w.alloc (.cells #[.int .i64 f.dst, .int .i64 f.src, .bool f.tag, .int .i64 f.prio, .int .i64 f.vid, .bool f.red, .int .i64 f.seq, .int .i64 f.typ, .string f.data] t)) t g
  rw [World.size_alloc] at hF
  have h2 := hF.go (Only.of (b := w.heap.size + 2) h) (by omega)
  exact ⟨h2.cells, h2.1, (((Bl.refl w).alloc _).alloc _).trans h⟩
theorem enR_s {f : Fr} (h : okB f = true) : enR f = .returned (.tuple #[.string (enc f), .int .i64 0]) := (enR_ok h).symm
set_option maxHeartbeats 1000000 in
theorem malformed_t (s : ByteArray) (hs : (s.size : Int) ≤ 8000) (h : dec s = none) (w : World) : Calls Try.prog 25 #[.string s] w fun e w' => e = .returned (.bool true) ∧ Bl w w' := by
  have KD := Lib.hid (fun w => deR_no h ▸ fdecode_any s hs w)
  clear h
  go_enter Try.func25, Try.ntmps25
  go_wp2_with fail
  refine (KD.out _).mono ?_; rintro e wn ⟨rfl, hgr⟩
  have G := Lib.hid hgr; clear hgr
  go_wp2_with fail
  go_ret
  exact ⟨rfl, G.out.alloc _⟩
set_option maxHeartbeats 1000000 in
theorem back_t (f g : Fr) (h : Ok f) (hd : dec (enc f) = some g) (w : World) : Calls Try.prog 23 #[f.v, g.v] w fun e w' => e = .returned (.bool true) ∧ Bl w w' := by
  have KE := Lib.hid (fun w => (enR_s (ok_iff.2 h)) ▸ encode_any f w)
  have KD := Lib.hid (fun w => deR_ok hd ▸ fdecode_any (enc f) (by have := h.bod_le; have := enc_size f; omega) w)
  clear h hd
  generalize enc f = z at *
  have HF := Lib.hid (fun (w w2 : World) (g2 : Bl ((w.alloc (.cells #[.int .i64 f.dst, .int .i64 f.src, .bool f.tag, .int .i64 f.prio, .int .i64 f.vid, .bool f.red, .int .i64 f.seq, .int .i64 f.typ, .string f.data] 23)).alloc (.cells #[.int .i64 g.dst, .int .i64 g.src, .bool g.tag, .int .i64 g.prio, .int .i64 g.vid, .bool g.red, .int .i64 g.seq, .int .i64 g.typ, .string g.data] 23)) w2) => (two_box w 23 f g g2))
  obtain ⟨d, s, t, p, v, r, q, y, x⟩ := f
  obtain ⟨d', s', t', p', v', r', q', y', x'⟩ := g
  unfold Fr.v at *
  go_enter Try.func23, Try.ntmps23
  go_wp2_with fail
  refine (KE.out _).mono ?_; rintro e wn ⟨rfl, hgr⟩
  have G := Lib.hid hgr; clear hgr
  go_wp2_with fail
  refine (KD.out _).mono ?_; rintro e w2 ⟨rfl, hgr⟩
  replace G := Lib.hid (Bl.trans G.out hgr); clear hgr
  obtain ⟨⟨c0, c1, c2, c3, c4, c5, c6, c7, c8⟩, hl, hb⟩ := HF.out _ _ G.out
  have hne : ¬ w.heap.size + 1 = w2.heap.size := by omega
  clear HF G
  go_wp2_with fail
  go_ret
  exact ⟨rfl, hb.alloc _⟩

end Go.Proofs.Ytmhdgpmlconngaa
