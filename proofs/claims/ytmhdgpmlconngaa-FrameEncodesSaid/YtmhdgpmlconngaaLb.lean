/-
  FrameEncodes: Check, Encode and Wire return what the chapter specifies.
-/
import Derived.Test.YtmhdgpmlconngaaGb
import Derived.Test.YtmhdgpmlconngaaPq
import Derived.Test.YtmhdgpmlconngaaLa
import Derived.Test.YtmhdgpmlconngaaFs
import Derived.Test.YtmhdgpmlconngaaKn
import Derived.Deep.CutBlock
import Derived.Deep.RegionHeld3
namespace Go.Proofs.Ytmhdgpmlconngaa
open Go.RowKit Go.Proofs.Ytmhdgpmlconngaa.Cr

theorem Fb.drew {w : World} {c : Nat} {f : Fr} (h : Fb w c f) : Fb w.drew c f := h
theorem u64_nonneg (n : Int) : 0 ≤ IntKind.u64.wrap n := by
  have h : IntKind.u64.wrap n = n % 18446744073709551616 := by unfold IntKind.wrap; rfl
  omega
def fenV (f0 f1 f3 f4 f6 f7 : Int) (f2 f5 : Bool) (f8 : ByteArray) (o0 o1 o3 o4 o6 o7 : Int) (o2 o5 : Bool) (o8 : ByteArray) (a0 a1 a3 a4 a6 a7 : Int) (a2 a5 : Bool) (a8 : ByteArray) (b0 b1 b3 b4 b6 b7 : Int) (b2 b5 : Bool) (b8 : ByteArray) (h0 h1 h3 h4 h6 h7 : Int) (h2 h5 : Bool) (h8 : ByteArray) : Nat → Value
  | 0 => .agg #[.int .i64 f0, .int .i64 f1, .bool f2, .int .i64 f3, .int .i64 f4, .bool f5, .int .i64 f6, .int .i64 f7, .string f8]
  | 1 => .agg #[.int .i64 a0, .int .i64 a1, .bool a2, .int .i64 a3, .int .i64 a4, .bool a5, .int .i64 a6, .int .i64 a7, .string a8]
  | 2 => .agg #[.int .i64 o0, .int .i64 o1, .bool o2, .int .i64 o3, .int .i64 o4, .bool o5, .int .i64 o6, .int .i64 o7, .string o8]
  | 3 => .agg #[.int .i64 h0, .int .i64 h1, .bool h2, .int .i64 h3, .int .i64 h4, .bool h5, .int .i64 h6, .int .i64 h7, .string h8]
  | 4 => .agg #[.int .i64 b0, .int .i64 b1, .bool b2, .int .i64 b3, .int .i64 b4, .bool b5, .int .i64 b6, .int .i64 b7, .string b8]
  | 5 => .agg #[.int .i64 a0, .int .i64 a1, .bool a2, .int .i64 a3, .int .i64 a4, .bool a5, .int .i64 a6, .int .i64 a7, .string a8, .int .i64 o0, .int .i64 o1, .bool o2, .int .i64 o3, .int .i64 o4, .bool o5, .int .i64 o6, .int .i64 o7, .string o8, .int .i64 b0, .int .i64 b1, .bool b2, .int .i64 b3, .int .i64 b4, .bool b5, .int .i64 b6, .int .i64 b7, .string b8]
  | 6 => .int .i64 0
  | _ => undef
set_option maxRecDepth 20000 in
set_option maxHeartbeats 4000000 in
theorem encodes_law (f : Fr) (a b l g k q : Nat) (x : ByteArray) (n : Int) (u : Nat) (hf : f.data.size ≤ maxLen) (ha : a < 65536) (hb : b < 65536) (hl : l < 65536) (hg : g < 256) (hk : k < 256) (hq : q < 65536) (hx : x.size ≤ maxLen) (hn : -9223372036854775808 ≤ n ∧ n ≤ 9223372036854775807) (hu : u < 256) (w : World) :
    Calls Try.prog 3 #[f.v, dfV a b l g k q x, .int .i64 n, .int .u8 (u : Int)] w fun e w' => e = .returned (.bool true) ∧ Bl w w' := by
  have KW := Lib.hid (fun w => works_any w)
  have KF := Lib.hid (fun w => draft_any a b l g k q x ha hb hl hg hk hq hx w)
  have KX := Lib.hid (fun w => cut_any f hf w)
  have HB := Lib.hid (fun (w w' : World) (g2 : Bl (w.alloc (.cells #[.int .u16 (a : Int), .int .u16 (b : Int), .int .u16 (l : Int), .int .u8 (g : Int), .int .u8 (k : Int), .int .u16 (q : Int), .string x] 26)) w') => box_keep w w' a b l g k q x 26 g2)
  clear hx ha hb hl hg hk hq
  obtain ⟨hn1, hn2⟩ := hn
  generalize cutF f = fa at *
  obtain ⟨f0, f1, f2, f3, f4, f5, f6, f7, f8⟩ := f
  unfold dfV Fr.v at *
  dsimp only at *
  go_enter Try.func3, Try.ntmps3
  go_upto_region 1 with fail
  have hs1 : (w.alloc (.cells #[.int .i64 f0, .int .i64 f1, .bool f2, .int .i64 f3, .int .i64 f4, .bool f5, .int .i64 f6, .int .i64 f7, .string f8] 23)).heap.size = w.heap.size + 1 := World.size_alloc _ _
  obtain ⟨hG, x0, x1, x2, x3, x4, x5, x6⟩ := HB.out (w.alloc (.cells #[.int .i64 f0, .int .i64 f1, .bool f2, .int .i64 f3, .int .i64 f4, .bool f5, .int .i64 f6, .int .i64 f7, .string f8] 23)) _ (Bl.refl _)
  rw [hs1] at x0 x1 x2 x3 x4 x5 x6
  have hF := Fb.alloc (Fb.new w 23 { dst := f0, src := f1, tag := f2, prio := f3, vid := f4, red := f5, seq := f6, typ := f7, data := f8 }) (.cells #[.int .u16 (a : Int), .int .u16 (b : Int), .int .u16 (l : Int), .int .u8 (g : Int), .int .u8 (k : Int), .int .u16 (q : Int), .string x] 26)
  dsimp only at hF
  have F4 := Lib.hid hF
  have G := Lib.hid (Bl.trans ((Bl.refl w).alloc _) hG)
  have hbw : w.heap.size < w.heap.size + 1 := Nat.lt_succ_self _
  generalize World.alloc (World.alloc w _) _ = wn at *
  clear hG HB hF hs1
  generalize w.heap.size + 1 = c5 at *
  have hlw : w.heap.size ≤ w.heap.size := Nat.le_refl _
  generalize hA : w.heap.size = c4 at *
  have hl4 : w.heap.size ≤ c4 := by rw [hA]; exact hlw
  clear hlw hA hbw
  go_wp2_with fail
  refine (KF.out _).mono ?_; rintro e wn ⟨⟨fo, hfo, rfl⟩, gr⟩
  replace G := Lib.hid (Bl.trans G.out gr)
  replace F4 := Lib.hid (F4.out.bl gr)
  clear gr x0 x1 x2 x3 x4 x5 x6 KF
  have hds := hfo.size
  clear hfo
  obtain ⟨o0, o1, o2, o3, o4, o5, o6, o7, o8⟩ := fo
  dsimp only at hds ⊢
  have h4n := F4.out.1
  go_upto_region 2 with fail
  have hl9 : w.heap.size ≤ wn.heap.size := by omega
  have hn49 : wn.heap.size ≠ c4 := by omega
  have F9 := Lib.hid (Fb.new wn 23 { dst := o0, src := o1, tag := o2, prio := o3, vid := o4, red := o5, seq := o6, typ := o7, data := o8 })
  replace F4 := Lib.hid (F4.out.alloc (.cells #[.int .i64 o0, .int .i64 o1, .bool o2, .int .i64 o3, .int .i64 o4, .bool o5, .int .i64 o6, .int .i64 o7, .string o8] 23))
  replace G := Lib.hid (Bl.alloc G.out (.cells #[.int .i64 o0, .int .i64 o1, .bool o2, .int .i64 o3, .int .i64 o4, .bool o5, .int .i64 o6, .int .i64 o7, .string o8] 23))
  dsimp only at F9
  generalize wn.heap.size = c9 at *
  generalize wn.alloc (.cells #[.int .i64 o0, .int .i64 o1, .bool o2, .int .i64 o3, .int .i64 o4, .bool o5, .int .i64 o6, .int .i64 o7, .string o8] 23) = wn at *
  obtain ⟨q0, q1, q2, q3, q4, q5, q6, q7, q8⟩ := F9.out.cells
  have h9n := F9.out.1
  go_upto_region 3 with fail
  clear q0 q1 q2 q3 q4 q5 q6 q7 q8
  have hl10 : w.heap.size ≤ wn.heap.size := by omega
  have hn40 : wn.heap.size ≠ c4 := by have := F4.out.1; omega
  have hn90 : wn.heap.size ≠ c9 := by omega
  have F0 := Lib.hid (Fb.new wn 23 { dst := o0, src := o1, tag := o2, prio := o3, vid := o4, red := o5, seq := o6, typ := o7, data := o8 })
  replace F4 := Lib.hid (F4.out.alloc (.cells #[.int .i64 o0, .int .i64 o1, .bool o2, .int .i64 o3, .int .i64 o4, .bool o5, .int .i64 o6, .int .i64 o7, .string o8] 23))
  replace F9 := Lib.hid (F9.out.alloc (.cells #[.int .i64 o0, .int .i64 o1, .bool o2, .int .i64 o3, .int .i64 o4, .bool o5, .int .i64 o6, .int .i64 o7, .string o8] 23))
  replace G := Lib.hid (Bl.alloc G.out (.cells #[.int .i64 o0, .int .i64 o1, .bool o2, .int .i64 o3, .int .i64 o4, .bool o5, .int .i64 o6, .int .i64 o7, .string o8] 23))
  dsimp only at F0
  generalize wn.heap.size = c10 at *
  generalize wn.alloc (.cells #[.int .i64 o0, .int .i64 o1, .bool o2, .int .i64 o3, .int .i64 o4, .bool o5, .int .i64 o6, .int .i64 o7, .string o8] 23) = wn at *
  clear h4n h9n hn49
  obtain ⟨i, hI, hi⟩ : ∃ i : Nat, (u : Int) % 9 = (i : Int) ∧ i < 9 := ⟨u % 9, by omega, Nat.mod_lt _ (by decide)⟩
  go_upto_block 0 with fail
  go_cut [36] from 21 to 71 (fun _ wx => Hid (∃ h : Fr, h.data.size ≤ 4000 ∧ Fb wx c4 { dst := f0, src := f1, tag := f2, prio := f3, vid := f4, red := f5, seq := f6, typ := f7, data := f8 } ∧ Fb wx c9 { dst := o0, src := o1, tag := o2, prio := o3, vid := o4, red := o5, seq := o6, typ := o7, data := o8 } ∧ Fb wx c10 h ∧ Bl w wx))
  case first =>
    match i, hi with
    | 0, _ =>
      obtain ⟨e0, -, -, -, -, -, -, -, -⟩ := F0.out.cells
      obtain ⟨ef0f, -, -, -, -, -, -, -, -⟩ := F0.out.frozen
      go_wp2_with fail
      clear e0 ef0f
      go_meet
      exact Lib.hid ⟨{ dst := n, src := o1, tag := o2, prio := o3, vid := o4, red := o5, seq := o6, typ := o7, data := o8 }, by simp; omega, F4.out.far (p := ⟨c10, 0, none⟩) hn40 _, F9.out.far (p := ⟨c10, 0, none⟩) hn90 _, F0.out.put (i := 0) (by decide) (.int .i64 n) (nine_cases rfl rfl rfl rfl rfl rfl rfl rfl rfl), G.out.setCell (p := ⟨c10, 0, none⟩) hl10 _⟩
    | 1, _ =>
      obtain ⟨-, e1, -, -, -, -, -, -, -⟩ := F0.out.cells
      obtain ⟨-, ef1f, -, -, -, -, -, -, -⟩ := F0.out.frozen
      go_wp2_with fail
      clear e1 ef1f
      go_meet
      exact Lib.hid ⟨{ dst := o0, src := n, tag := o2, prio := o3, vid := o4, red := o5, seq := o6, typ := o7, data := o8 }, by simp; omega, F4.out.far (p := ⟨c10, 1, none⟩) hn40 _, F9.out.far (p := ⟨c10, 1, none⟩) hn90 _, F0.out.put (i := 1) (by decide) (.int .i64 n) (nine_cases rfl rfl rfl rfl rfl rfl rfl rfl rfl), G.out.setCell (p := ⟨c10, 1, none⟩) hl10 _⟩
    | 2, _ =>
      obtain ⟨-, -, -, e3, -, -, -, -, -⟩ := F0.out.cells
      obtain ⟨-, -, -, ef3f, -, -, -, -, -⟩ := F0.out.frozen
      go_wp2_with fail
      clear e3 ef3f
      go_meet
      exact Lib.hid ⟨{ dst := o0, src := o1, tag := o2, prio := n, vid := o4, red := o5, seq := o6, typ := o7, data := o8 }, by simp; omega, F4.out.far (p := ⟨c10, 3, none⟩) hn40 _, F9.out.far (p := ⟨c10, 3, none⟩) hn90 _, F0.out.put (i := 3) (by decide) (.int .i64 n) (nine_cases rfl rfl rfl rfl rfl rfl rfl rfl rfl), G.out.setCell (p := ⟨c10, 3, none⟩) hl10 _⟩
    | 3, _ =>
      obtain ⟨-, -, -, -, e4, -, -, -, -⟩ := F0.out.cells
      obtain ⟨-, -, -, -, ef4f, -, -, -, -⟩ := F0.out.frozen
      go_wp2_with fail
      clear e4 ef4f
      go_meet
      exact Lib.hid ⟨{ dst := o0, src := o1, tag := o2, prio := o3, vid := n, red := o5, seq := o6, typ := o7, data := o8 }, by simp; omega, F4.out.far (p := ⟨c10, 4, none⟩) hn40 _, F9.out.far (p := ⟨c10, 4, none⟩) hn90 _, F0.out.put (i := 4) (by decide) (.int .i64 n) (nine_cases rfl rfl rfl rfl rfl rfl rfl rfl rfl), G.out.setCell (p := ⟨c10, 4, none⟩) hl10 _⟩
    | 4, _ =>
      obtain ⟨-, -, -, -, -, -, e6, -, -⟩ := F0.out.cells
      obtain ⟨-, -, -, -, -, -, ef6f, -, -⟩ := F0.out.frozen
      go_wp2_with fail
      clear e6 ef6f
      go_meet
      exact Lib.hid ⟨{ dst := o0, src := o1, tag := o2, prio := o3, vid := o4, red := o5, seq := n, typ := o7, data := o8 }, by simp; omega, F4.out.far (p := ⟨c10, 6, none⟩) hn40 _, F9.out.far (p := ⟨c10, 6, none⟩) hn90 _, F0.out.put (i := 6) (by decide) (.int .i64 n) (nine_cases rfl rfl rfl rfl rfl rfl rfl rfl rfl), G.out.setCell (p := ⟨c10, 6, none⟩) hl10 _⟩
    | 5, _ =>
      obtain ⟨-, -, -, -, -, -, -, e7, -⟩ := F0.out.cells
      obtain ⟨-, -, -, -, -, -, -, ef7f, -⟩ := F0.out.frozen
      go_wp2_with fail
      clear e7 ef7f
      go_meet
      exact Lib.hid ⟨{ dst := o0, src := o1, tag := o2, prio := o3, vid := o4, red := o5, seq := o6, typ := n, data := o8 }, by simp; omega, F4.out.far (p := ⟨c10, 7, none⟩) hn40 _, F9.out.far (p := ⟨c10, 7, none⟩) hn90 _, F0.out.put (i := 7) (by decide) (.int .i64 n) (nine_cases rfl rfl rfl rfl rfl rfl rfl rfl rfl), G.out.setCell (p := ⟨c10, 7, none⟩) hl10 _⟩
    | 6, _ =>
      obtain ⟨-, -, q2, -, -, -, -, -, -⟩ := F9.out.cells
      obtain ⟨-, -, e2, -, -, -, -, -, -⟩ := F0.out.cells
      obtain ⟨-, -, ef2f, -, -, -, -, -, -⟩ := F0.out.frozen
      go_wp2_with fail
      clear q2 e2 ef2f
      go_meet
      exact Lib.hid ⟨{ dst := o0, src := o1, tag := (!o2), prio := o3, vid := o4, red := o5, seq := o6, typ := o7, data := o8 }, by simp; omega, F4.out.far (p := ⟨c10, 2, none⟩) hn40 _, F9.out.far (p := ⟨c10, 2, none⟩) hn90 _, F0.out.put (i := 2) (by decide) (.bool (!o2)) (nine_cases rfl rfl rfl rfl rfl rfl rfl rfl rfl), G.out.setCell (p := ⟨c10, 2, none⟩) hl10 _⟩
    | 7, _ =>
      obtain ⟨-, -, -, -, -, q5, -, -, -⟩ := F9.out.cells
      obtain ⟨-, -, -, -, -, e5, -, -, -⟩ := F0.out.cells
      obtain ⟨-, -, -, -, -, ef5f, -, -, -⟩ := F0.out.frozen
      go_wp2_with fail
      clear q5 e5 ef5f
      go_meet
      exact Lib.hid ⟨{ dst := o0, src := o1, tag := o2, prio := o3, vid := o4, red := (!o5), seq := o6, typ := o7, data := o8 }, by simp; omega, F4.out.far (p := ⟨c10, 5, none⟩) hn40 _, F9.out.far (p := ⟨c10, 5, none⟩) hn90 _, F0.out.put (i := 5) (by decide) (.bool (!o5)) (nine_cases rfl rfl rfl rfl rfl rfl rfl rfl rfl), G.out.setCell (p := ⟨c10, 5, none⟩) hl10 _⟩
    | 8, _ =>
      obtain ⟨r, hr, hr1⟩ : ∃ r : Nat, IntKind.u64.wrap n % 1502 = (r : Int) ∧ r < 1502 := ⟨(IntKind.u64.wrap n % 1502).toNat, by omega, by omega⟩
      have hr2 : (IntKind.u64.wrap n).tmod 1502 = (r : Int) := by rw [Int.tmod_eq_emod_of_nonneg (u64_nonneg n)]; exact hr
      have hr3 : (r : Int) < 1502 := by omega
      have hr4 : IntKind.i64.wrap (r : Int) = (r : Int) := IntWalk.i64_in _ (by omega)
      have hmk := fun W => make_u8 r (by omega) W
      have HZ := Lib.hid (fun W w' (g : Bl (W.alloc (.cells (Array.replicate r (.int .u8 0)) 5)) w') => back w' W.heap.size r (List.replicate r 0) ((zeros_in W r 5).keep g))
      have hz1 := HZ.out wn _ (Bl.refl _).drew
      have hz2 := HZ.out wn.drew _ (Bl.refl _)
      rw [List.length_replicate] at hz1 hz2
      have ha3 : ∀ W : World, (Op.stringOp .add o8 (bstr (List.replicate r 0))).run Try.prog W = .ok (.string (o8 ++ bstr (List.replicate r 0))) W := fun W => run_string_add W _ _ (by omega) (by rw [bstr_size, List.length_replicate]; omega)
      have ho3 : (o8 ++ bstr (List.replicate r 0)).size ≤ 4000 := by rw [ByteArray.size_append, bstr_size, List.length_replicate]; omega
      generalize o8 ++ bstr (List.replicate r 0) = zz at *
      go_upto_region 4 with fail
      have q8 := F9.out.drew.cells.2.2.2.2.2.2.2.2
      have e8 := (F0.out.alloc (.cells (Array.replicate r (.int .u8 0)) 5)).drew.cells.2.2.2.2.2.2.2.2
      have e8f := (F0.out.alloc (.cells (Array.replicate r (.int .u8 0)) 5)).drew.frozen.2.2.2.2.2.2.2.2
      have p8 := (F9.out.alloc (.cells (Array.replicate r (.int .u8 0)) 5)).drew.cells.2.2.2.2.2.2.2.2
      dsimp only at q8 e8 p8
      go_region
      clear q8 e8 p8 e8f hz1 hz2 hmk ha3
      go_wp2_with fail
      go_meet
      exact Lib.hid ⟨{ dst := o0, src := o1, tag := o2, prio := o3, vid := o4, red := o5, seq := o6, typ := o7, data := zz }, ho3, ((F4.out.alloc _).far (p := ⟨c10, 8, none⟩) hn40 _).drew, ((F9.out.alloc _).far (p := ⟨c10, 8, none⟩) hn90 _).drew, ((F0.out.alloc _).put (i := 8) (g := { dst := o0, src := o1, tag := o2, prio := o3, vid := o4, red := o5, seq := o6, typ := o7, data := zz }) (by decide) (.string zz) (nine_cases rfl rfl rfl rfl rfl rfl rfl rfl rfl)).drew, ((G.out.alloc _).setCell (p := ⟨c10, 8, none⟩) hl10 _).drew⟩
  clear F4 F9 F0 G hl9 hl10 hn40 hn90 hds
  have HH := Lib.hid hcut.out
  clear hcut
  obtain ⟨h, hh, A4, A9, A0, AG⟩ := HH.out
  clear HH
  rename World => wn
  have F4 := Lib.hid A4
  have F9 := Lib.hid A9
  have F0 := Lib.hid A0
  have G := Lib.hid AG
  have KY := Lib.hid (fun w => cut_any h (by unfold maxLen; omega) w)
  clear A4 A9 A0 AG hh
  generalize cutF h = fb at *
  obtain ⟨h0, h1, h2, h3, h4, h5, h6, h7, h8⟩ := h
  obtain ⟨a0, a1, a2, a3, a4, a5, a6, a7, a8⟩ := fa
  obtain ⟨b0, b1, b2, b3, b4, b5, b6, b7, b8⟩ := fb
  unfold Fr.v at *
  dsimp only at *
  go_upto_region 21 with fail
  go_cut [77, 78] from 21 to 78 (fun s77 s78 wx => s77 = .agg #[.int .i64 a0, .int .i64 a1, .bool a2, .int .i64 a3, .int .i64 a4, .bool a5, .int .i64 a6, .int .i64 a7, .string a8, .int .i64 o0, .int .i64 o1, .bool o2, .int .i64 o3, .int .i64 o4, .bool o5, .int .i64 o6, .int .i64 o7, .string o8, .int .i64 b0, .int .i64 b1, .bool b2, .int .i64 b3, .int .i64 b4, .bool b5, .int .i64 b6, .int .i64 b7, .string b8] ∧ s78 = .int .i64 0 ∧ Hid (Bl wn wx))
  case first =>
    refine wp_region_pool (by kernel_rfl) Bl (poolR (fun _ => none) (fenV f0 f1 f3 f4 f6 f7 f2 f5 f8 o0 o1 o3 o4 o6 o7 o2 o5 o8 a0 a1 a3 a4 a6 a7 a2 a5 a8 b0 b1 b3 b4 b6 b7 b2 b5 b8 h0 h1 h3 h4 h6 h7 h2 h5 h8)) (slo 72) Bl.trans Bl.refl ?hinj ?hsz (okAfter_spec (by kernel_rfl)) poolR.go ?hstep ?hend
    case hinj => intro i j _ _ h; have h' : 72 + i = 72 + j := h; omega
    case hsz => intro i hi; have h' : i < 7 := hi; show 72 + i < 128; omega
    case hstep =>
      intro i o ho K a' w' hsa hg hrest hdeps hk
      clear hsa
      rcases i with _ | _ | _ | _ | _ | _ | _ | i
      · obtain rfl := Option.some.inj ho
        have y4 : a'.eval (.tmp 4) = .pointer (some ⟨c4, 0, none⟩) := (hrest 4 (fun j _ h => by have h' : 72 + j = 4 := h; omega)).trans rfl
        simp only [Act.eval, Array.getD_eq_getD_getElem?] at y4
        clear hrest hdeps
        obtain ⟨k0, k1, k2, k3, k4, k5, k6, k7, k8⟩ := (F4.out.bl (Bl.trans ((Bl.refl wn).drew) hg)).cells
        dsimp only at k0 k1 k2 k3 k4 k5 k6 k7 k8
        refine wpOp_step (o := _) rfl (fun K' hK => ?_)
        go_simp
        exact hK _ _ (hk _ _ (Bl.refl _) rfl)
      · obtain rfl := Option.some.inj ho
        have y72 : a'.eval (.tmp 72) = .agg #[.int .i64 f0, .int .i64 f1, .bool f2, .int .i64 f3, .int .i64 f4, .bool f5, .int .i64 f6, .int .i64 f7, .string f8] := hdeps ⟨0, .data⟩ (by simp) rfl
        simp only [Act.eval, Array.getD_eq_getD_getElem?] at y72
        clear hrest hdeps
        refine wpOp_step (o := _) rfl (fun K' hK => ?_)
        go_simp
        go_at_call 10
        (with_reducible refine (KX.out _).mono ?_)
        rintro e w9 ⟨rfl, hgr⟩
        exact hK _ _ (hk _ _ hgr rfl)
      · obtain rfl := Option.some.inj ho
        have y9 : a'.eval (.tmp 9) = .pointer (some ⟨c9, 0, none⟩) := (hrest 9 (fun j _ h => by have h' : 72 + j = 9 := h; omega)).trans rfl
        simp only [Act.eval, Array.getD_eq_getD_getElem?] at y9
        clear hrest hdeps
        obtain ⟨k0, k1, k2, k3, k4, k5, k6, k7, k8⟩ := (F9.out.bl (Bl.trans ((Bl.refl wn).drew) hg)).cells
        dsimp only at k0 k1 k2 k3 k4 k5 k6 k7 k8
        refine wpOp_step (o := _) rfl (fun K' hK => ?_)
        go_simp
        exact hK _ _ (hk _ _ (Bl.refl _) rfl)
      · obtain rfl := Option.some.inj ho
        have y10 : a'.eval (.tmp 10) = .pointer (some ⟨c10, 0, none⟩) := (hrest 10 (fun j _ h => by have h' : 72 + j = 10 := h; omega)).trans rfl
        simp only [Act.eval, Array.getD_eq_getD_getElem?] at y10
        clear hrest hdeps
        obtain ⟨k0, k1, k2, k3, k4, k5, k6, k7, k8⟩ := (F0.out.bl (Bl.trans ((Bl.refl wn).drew) hg)).cells
        dsimp only at k0 k1 k2 k3 k4 k5 k6 k7 k8
        refine wpOp_step (o := _) rfl (fun K' hK => ?_)
        go_simp
        exact hK _ _ (hk _ _ (Bl.refl _) rfl)
      · obtain rfl := Option.some.inj ho
        have y75 : a'.eval (.tmp 75) = .agg #[.int .i64 h0, .int .i64 h1, .bool h2, .int .i64 h3, .int .i64 h4, .bool h5, .int .i64 h6, .int .i64 h7, .string h8] := hdeps ⟨3, .data⟩ (by simp) rfl
        simp only [Act.eval, Array.getD_eq_getD_getElem?] at y75
        clear hrest hdeps
        refine wpOp_step (o := _) rfl (fun K' hK => ?_)
        go_simp
        go_at_call 10
        (with_reducible refine (KY.out _).mono ?_)
        rintro e w9 ⟨rfl, hgr⟩
        exact hK _ _ (hk _ _ hgr rfl)
      · obtain rfl := Option.some.inj ho
        have y73 : a'.eval (.tmp 73) = .agg #[.int .i64 a0, .int .i64 a1, .bool a2, .int .i64 a3, .int .i64 a4, .bool a5, .int .i64 a6, .int .i64 a7, .string a8] := hdeps ⟨1, .data⟩ (by simp) rfl
        have y74 : a'.eval (.tmp 74) = .agg #[.int .i64 o0, .int .i64 o1, .bool o2, .int .i64 o3, .int .i64 o4, .bool o5, .int .i64 o6, .int .i64 o7, .string o8] := hdeps ⟨2, .data⟩ (by simp) rfl
        have y76 : a'.eval (.tmp 76) = .agg #[.int .i64 b0, .int .i64 b1, .bool b2, .int .i64 b3, .int .i64 b4, .bool b5, .int .i64 b6, .int .i64 b7, .string b8] := hdeps ⟨4, .data⟩ (by simp) rfl
        simp only [Act.eval, Array.getD_eq_getD_getElem?] at y73 y74 y76
        clear hrest hdeps
        refine wpOp_step (o := _) rfl (fun K' hK => ?_)
        go_simp
        exact hK _ _ (hk _ _ (Bl.refl _) rfl)
      · obtain rfl := Option.some.inj ho
        clear hrest hdeps
        refine wpOp_step (o := _) rfl (fun K' hK => ?_)
        go_simp
        exact hK _ _ (hk _ _ (Bl.refl _) rfl)
      · have h1 := ho; simp at h1
    case hend =>
      intro a' w' hd hs hg hrest hdone
      obtain ⟨f, hf⟩ : ∃ f : Nat → Value, ∀ i, f i = a'.eval (.tmp (slo 72 i)) := ⟨_, fun _ => rfl⟩
      have e77 : f 5 = .agg #[.int .i64 a0, .int .i64 a1, .bool a2, .int .i64 a3, .int .i64 a4, .bool a5, .int .i64 a6, .int .i64 a7, .string a8, .int .i64 o0, .int .i64 o1, .bool o2, .int .i64 o3, .int .i64 o4, .bool o5, .int .i64 o6, .int .i64 o7, .string o8, .int .i64 b0, .int .i64 b1, .bool b2, .int .i64 b3, .int .i64 b4, .bool b5, .int .i64 b6, .int .i64 b7, .string b8] := by rw [hf]; exact hdone 5 (by simp)
      have e78 : f 6 = .int .i64 0 := by rw [hf]; exact hdone 6 (by simp)
      have ha := act_puts (n := 7) (ds := slo 72) hd hs (fun i hi => by show 72 + i < 128; omega) (fun t ht => hrest t ht)
      simp only [← hf] at ha
      clear hd hs hrest hdone hf
      subst ha
      simp only [show List.range 7 = [0, 1, 2, 3, 4, 5, 6] from rfl, List.foldl_cons, List.foldl_nil, Act.put, List.setIfInBounds_toArray, slo, Nat.reduceAdd, List.set_cons_zero, List.set_cons_succ, e77, e78]
      go_wp2_with fail
      go_meet
      exact ⟨rfl, rfl, Lib.hid (Bl.trans (Bl.drew (Bl.refl _)) hg)⟩
  obtain ⟨rfl, rfl, hbl⟩ := hcut
  replace G := Lib.hid (Bl.trans G.out hbl.out)
  clear hbl KX KY F4 F9 F0 hI hi hu hn1 hn2
  have FS := Lib.hid (three_frames { dst := a0, src := a1, tag := a2, prio := a3, vid := a4, red := a5, seq := a6, typ := a7, data := a8 } { dst := o0, src := o1, tag := o2, prio := o3, vid := o4, red := o5, seq := o6, typ := o7, data := o8 } { dst := b0, src := b1, tag := b2, prio := b3, vid := b4, red := b5, seq := b6, typ := b7, data := b8 })
  dsimp only at FS
  rename World => wz
  go_wp2_with fail
  go_loopw [78] (fun i wr => ∃ j : Nat, j ≤ 3 ∧ i = .int .i64 (j : Int) ∧ Hid (Bl w wr)) (fun i _ => 3 - (intOf i).toNat)
  case atStart => exact ⟨0, by omega, rfl, G⟩
  case round =>
    clear G
    obtain ⟨j, hj, rfl, G⟩ := hrel
    by_cases hlt : j < 3
    · obtain ⟨z, -, hrun⟩ := FS.out j hlt
      clear FS KW
      have K1 := Lib.hid (fun w => encode_any z w)
      have K2 := Lib.hid (fun w => rencode_any z w)
      have K3 := Lib.hid (fun w => wire_any z w)
      have K4 := Lib.hid (fun w => rwire_any z w)
      have K5 := Lib.hid (fun w => check_any z w)
      have K6 := Lib.hid (fun w => rcheck_any z w)
      unfold enR at K1 K2
      unfold wiR at K3 K4
      generalize enS z = zs at *
      generalize chE z = zc at *
      generalize wiV z = zw at *
      obtain ⟨z0, z1, z2, z3, z4, z5, z6, z7, z8⟩ := z
      unfold Fr.v at *
      dsimp only at *
      have hse : (zs.toList != zs.toList) = false := bne_self_eq_false _
      go_upto_region 24 with fail
      have F := Lib.hid (Fb.new wr 23 { dst := z0, src := z1, tag := z2, prio := z3, vid := z4, red := z5, seq := z6, typ := z7, data := z8 })
      replace G := Lib.hid (Bl.alloc G.out (.cells #[.int .i64 z0, .int .i64 z1, .bool z2, .int .i64 z3, .int .i64 z4, .bool z5, .int .i64 z6, .int .i64 z7, .string z8] 23))
      dsimp only at F
      generalize wr.heap.size = c3 at *
      generalize wr.alloc (.cells #[.int .i64 z0, .int .i64 z1, .bool z2, .int .i64 z3, .int .i64 z4, .bool z5, .int .i64 z6, .int .i64 z7, .string z8] 23) = wn at *
      obtain ⟨q0, q1, q2, q3, q4, q5, q6, q7, q8⟩ := F.out.cells
      go_wp2_with fail
      refine (K1.out _).mono ?_; rintro e wn ⟨rfl, gr⟩
      replace F := Lib.hid (F.out.bl gr)
      replace G := Lib.hid (Bl.trans G.out gr)
      clear gr q0 q1 q2 q3 q4 q5 q6 q7 q8
      obtain ⟨q0, q1, q2, q3, q4, q5, q6, q7, q8⟩ := F.out.cells
      go_wp2_with fail
      refine (K2.out _).mono ?_; rintro e wn ⟨rfl, gr⟩
      replace F := Lib.hid (F.out.bl gr)
      replace G := Lib.hid (Bl.trans G.out gr)
      clear gr q0 q1 q2 q3 q4 q5 q6 q7 q8
      obtain ⟨q0, q1, q2, q3, q4, q5, q6, q7, q8⟩ := F.out.cells
      go_wp2_with fail
      refine (K3.out _).mono ?_; rintro e wn ⟨rfl, gr⟩
      replace F := Lib.hid (F.out.bl gr)
      replace G := Lib.hid (Bl.trans G.out gr)
      clear gr q0 q1 q2 q3 q4 q5 q6 q7 q8
      obtain ⟨q0, q1, q2, q3, q4, q5, q6, q7, q8⟩ := F.out.cells
      go_wp2_with fail
      refine (K4.out _).mono ?_; rintro e wn ⟨rfl, gr⟩
      replace F := Lib.hid (F.out.bl gr)
      replace G := Lib.hid (Bl.trans G.out gr)
      clear gr q0 q1 q2 q3 q4 q5 q6 q7 q8
      have hce : (zc != zc) = false := bne_self_eq_false _
      have hwe : (zw != zw) = false := bne_self_eq_false _
      go_upto_region 28 with fail
      have HN : Hid (∀ w', Bl wn w' → (w'.cell? ⟨c3, 0, none⟩ = some (.int .i64 z0) ∧ w'.cell? ⟨c3, 1, none⟩ = some (.int .i64 z1) ∧ w'.cell? ⟨c3, 2, none⟩ = some (.bool z2) ∧ w'.cell? ⟨c3, 3, none⟩ = some (.int .i64 z3) ∧ w'.cell? ⟨c3, 4, none⟩ = some (.int .i64 z4) ∧ w'.cell? ⟨c3, 5, none⟩ = some (.bool z5) ∧ w'.cell? ⟨c3, 6, none⟩ = some (.int .i64 z6) ∧ w'.cell? ⟨c3, 7, none⟩ = some (.int .i64 z7) ∧ w'.cell? ⟨c3, 8, none⟩ = some (.string z8) ∧ Hid (Bl wn w'))) := Lib.hid (fun w' g => by have h := (F.out.bl g).cells; exact ⟨h.1, h.2.1, h.2.2.1, h.2.2.2.1, h.2.2.2.2.1, h.2.2.2.2.2.1, h.2.2.2.2.2.2.1, h.2.2.2.2.2.2.2.1, h.2.2.2.2.2.2.2.2, Lib.hid g⟩)
      clear F
      go_region_held3 (fun w' => w'.cell? ⟨c3, 0, none⟩ = some (.int .i64 z0) ∧ w'.cell? ⟨c3, 1, none⟩ = some (.int .i64 z1) ∧ w'.cell? ⟨c3, 2, none⟩ = some (.bool z2) ∧ w'.cell? ⟨c3, 3, none⟩ = some (.int .i64 z3) ∧ w'.cell? ⟨c3, 4, none⟩ = some (.int .i64 z4) ∧ w'.cell? ⟨c3, 5, none⟩ = some (.bool z5) ∧ w'.cell? ⟨c3, 6, none⟩ = some (.int .i64 z6) ∧ w'.cell? ⟨c3, 7, none⟩ = some (.int .i64 z7) ∧ w'.cell? ⟨c3, 8, none⟩ = some (.string z8) ∧ Hid (Bl wn w')) (first | with_reducible assumption | exact HN.out _ (Bl.refl _) | exact HN.out _ ((Bl.refl _).drew) | (refine HN.out _ ?_; with_reducible refine Bl.trans ?_ hgr; rename _ ∧ _ ∧ _ ∧ _ ∧ _ ∧ _ ∧ _ ∧ _ ∧ _ ∧ Hid (Bl wn _) => hq; exact hq.2.2.2.2.2.2.2.2.2.out) | fail) (first | (go_at_call 15; (with_reducible refine (K5.out _).mono ?_); rintro e w9 ⟨rfl, hgr⟩) | (go_at_call 16; (with_reducible refine (K6.out _).mono ?_); rintro e w9 ⟨rfl, hgr⟩) | fail)
      all_goals (rename _ ∧ _ ∧ _ ∧ _ ∧ _ ∧ _ ∧ _ ∧ _ ∧ _ ∧ Hid (Bl wn _) => hz; replace G := Lib.hid (Bl.trans G.out hz.2.2.2.2.2.2.2.2.2.out); clear hz HN K5 K6; go_wp2_with fail; go_roundw; (case rel => exact ⟨j + 1, by omega, by go_num, G⟩); (case measure => simp [intOf]; omega))
    · go_wp2_with fail
      refine (KW.out _).mono ?_; rintro e wn ⟨rfl, gr⟩
      replace G := Lib.hid (Bl.trans G.out gr); clear gr
      go_wp2_with fail
      go_ret
      exact ⟨rfl, G.out⟩
end Go.Proofs.Ytmhdgpmlconngaa
