/-
  A frame with its Data cut; which of three frames stands at a place.
-/
import Derived.Test.YtmhdgpmlconngaaFy
namespace Go.Proofs.Ytmhdgpmlconngaa
open Go.RowKit Go.Proofs.Ytmhdgpmlconngaa.Cr

/-- A frame with Data of at most 1502 octets. -/
def cutF (f : Fr) : Fr := { f with data := f.data.extract 0 (min f.data.size 1502) }
set_option maxRecDepth 20000 in
set_option maxHeartbeats 4000000 in
theorem cut_any (f : Fr) (hx : f.data.size ≤ maxLen) (w : World) :
    Calls Try.prog 10 #[f.v] w fun e w' => e = .returned (cutF f).v ∧ Bl w w' := by
  unfold maxLen at hx
  obtain ⟨d, sr, t, p, v, r, q, y, x⟩ := f
  dsimp only at hx
  obtain ⟨m, hm1, hm2, hm3⟩ : ∃ m : Nat, min (x.size : Int) 1502 = (m : Int) ∧ min x.size 1502 = m ∧ (m : Int) ≤ (x.size : Int) := ⟨min x.size 1502, by omega, rfl, by omega⟩
  have hm4 : (if (1502 : Int) < (x.size : Int) then 1502 else (x.size : Int)) = (m : Int) := by split <;> omega
  have HC : Hid (cutF ⟨d, sr, t, p, v, r, q, y, x⟩ = { dst := d, src := sr, tag := t, prio := p, vid := v, red := r, seq := q, typ := y, data := x.extract 0 m }) := Lib.hid (by unfold cutF; rw [hm2])
  generalize cutF ⟨d, sr, t, p, v, r, q, y, x⟩ = R at *
  clear hm2 hx
  unfold Fr.v
  go_enter Try.func10, Try.ntmps10
  go_upto_region 1 with fail
  have F := Lib.hid (Fb.alloc (Fb.new w 23 { dst := d, src := sr, tag := t, prio := p, vid := v, red := r, seq := q, typ := y, data := x }) (.cells (fc zoF) 23))
  have Z := Lib.hid (Fb.new (w.alloc (.cells #[.int .i64 d, .int .i64 sr, .bool t, .int .i64 p, .int .i64 v, .bool r, .int .i64 q, .int .i64 y, .string x] 23)) 23 zoF)
  have G := Lib.hid (((Bl.refl w).alloc (.cells #[.int .i64 d, .int .i64 sr, .bool t, .int .i64 p, .int .i64 v, .bool r, .int .i64 q, .int .i64 y, .string x] 23)).alloc (.cells (fc zoF) 23))
  have hs : (w.alloc (.cells #[.int .i64 d, .int .i64 sr, .bool t, .int .i64 p, .int .i64 v, .bool r, .int .i64 q, .int .i64 y, .string x] 23)).heap.size = w.heap.size + 1 := World.size_alloc _ _
  rw [hs] at Z
  clear hs
  unfold fc zoF at F G
  unfold zoF at Z
  dsimp only at F Z G
  have hne : w.heap.size ≠ w.heap.size + 1 := by omega
  have hla : w.heap.size ≤ w.heap.size := Nat.le_refl _
  have hlb : w.heap.size ≤ w.heap.size + 1 := by omega
  generalize w.heap.size + 1 = c at *
  generalize hA : w.heap.size = a at *
  have hla2 : w.heap.size ≤ a := by rw [hA]; exact hla
  have hlb2 : w.heap.size ≤ c := by rw [hA]; exact hlb
  clear hA hla hlb
  generalize World.alloc _ _ = wn at *
  obtain ⟨q0, q1, q2, q3, q4, q5, q6, q7, q8⟩ := F.out.cells
  obtain ⟨-, -, -, -, -, -, -, -, qf8⟩ := F.out.frozen
  go_upto_region 2 with fail
  clear q0 q1 q2 q3 q4 q5 q6 q7 q8 qf8
  replace F := Lib.hid (F.out.put (i := 8) (g := { dst := d, src := sr, tag := t, prio := p, vid := v, red := r, seq := q, typ := y, data := x.extract 0 m }) (by decide) (.string (x.extract 0 m)) (nine_cases rfl rfl rfl rfl rfl rfl rfl rfl rfl))
  replace Z := Lib.hid (Z.out.far (p := ⟨a, 8, none⟩) hne (.string (x.extract 0 m)))
  replace G := Lib.hid (G.out.setCell (p := ⟨a, 8, none⟩) hla2 (.string (x.extract 0 m)))
  generalize World.setCell _ _ _ = wn at *
  refine frame_copy (f := { dst := d, src := sr, tag := t, prio := p, vid := v, red := r, seq := q, typ := y, data := x.extract 0 m }) (g := zoF) rfl rfl rfl F.out Z.out ?_
  have hz := st9_fb Z.out { dst := d, src := sr, tag := t, prio := p, vid := v, red := r, seq := q, typ := y, data := x.extract 0 m }
  have hbz := st9_bl G.out hlb2 { dst := d, src := sr, tag := t, prio := p, vid := v, red := r, seq := q, typ := y, data := x.extract 0 m }
  generalize st9 wn c _ = wz at *
  clear F Z G
  simp only [Act.put, List.setIfInBounds_toArray, List.set_cons_zero, List.set_cons_succ]
  go_wp2_with fail
  exact bodyPost_ret (results_frame rfl _ _ c { dst := d, src := sr, tag := t, prio := p, vid := v, red := r, seq := q, typ := y, data := x.extract 0 m } rfl hz) rfl ⟨by rw [HC.out]; rfl, hbz⟩
theorem three_frames (a b c : Fr) (k : Nat) (hk : k < 3) :
    ∃ z : Fr, (z = a ∨ z = b ∨ z = c) ∧ ∀ w, (Instr.index 31 (.agg #[.int .i64 a.dst, .int .i64 a.src, .bool a.tag, .int .i64 a.prio, .int .i64 a.vid, .bool a.red, .int .i64 a.seq, .int .i64 a.typ, .string a.data, .int .i64 b.dst, .int .i64 b.src, .bool b.tag, .int .i64 b.prio, .int .i64 b.vid, .bool b.red, .int .i64 b.seq, .int .i64 b.typ, .string b.data, .int .i64 c.dst, .int .i64 c.src, .bool c.tag, .int .i64 c.prio, .int .i64 c.vid, .bool c.red, .int .i64 c.seq, .int .i64 c.typ, .string c.data]) (.int .i64 k)).run Try.prog w = .ok z.v w := by
  match k, hk with
  | 0, _ => exact ⟨a, .inl rfl, fun _ => by kernel_rfl⟩
  | 1, _ => exact ⟨b, .inr (.inl rfl), fun _ => by kernel_rfl⟩
  | 2, _ => exact ⟨c, .inr (.inr rfl), fun _ => by kernel_rfl⟩

end Go.Proofs.Ytmhdgpmlconngaa
