/-
  Frames extended by their padding; the frames of the chapter's examples; copies of a frame in new blocks.
-/
import Derived.Test.YtmhdgpmlconngaaFt
namespace Go.Proofs.Ytmhdgpmlconngaa
open Go.RowKit Go.Proofs.Ytmhdgpmlconngaa.Cr

/-- A frame with its padding in Data. -/
def pad (f : Fr) : Fr := if f.typ = 0 then f else { f with data := f.data ++ cop 0 (60 - (hdr f + f.data.size)) }
theorem cop_zero (c : UInt8) : (cop c 0).data.toList = [] := by unfold cop; rw [bstr_list]; rfl
theorem cop_list (c : UInt8) (n : Nat) : (cop c n).data.toList = List.replicate n c := by unfold cop; rw [bstr_list]
theorem pad_dec {f : Fr} (hf : Ok f) : Dec (enc f) (pad f) := by
  unfold pad
  split
  · rename_i hy
    exact ⟨hf, .inl hy, rfl⟩
  · rename_i hy
    have hk := bod_size f
    have hh := hdr_le f
    have hds : (f.data ++ cop 0 (60 - (hdr f + f.data.size))).size = f.data.size + (60 - (hdr f + f.data.size)) := by rw [ByteArray.size_append, cop_size]
    have hhd : hdr { f with data := f.data ++ cop 0 (60 - (hdr f + f.data.size)) } = hdr f := rfl
    refine ⟨⟨hf.dst, hf.src, hf.prio, hf.vid, hf.seq, hf.typ, ?_⟩, .inr ?_, ?_⟩
    · have h1 := hf.data
      have h2 : 1494 ≤ rm f.red := by cases f.red <;> simp [rm]
      show ((f.data ++ cop 0 (60 - (hdr f + f.data.size))).size : Int) ≤ rm f.red
      rw [hds]
      omega
    · rw [hhd]
      show 60 ≤ hdr f + (f.data ++ cop 0 (60 - (hdr f + f.data.size))).size
      rw [hds]
      omega
    · unfold enc
      congr 1
      apply bytes_ext
      rw [bod_list, bod_list]
      have e1 : tl { f with data := f.data ++ cop 0 (60 - (hdr f + f.data.size)) } = tl f := by unfold tl; rw [if_neg hy, if_neg hy]
      have e2 : pdL { f with data := f.data ++ cop 0 (60 - (hdr f + f.data.size)) } = [] := by
        unfold pdL
        rw [b3_size, hhd]
        show List.replicate (60 - (hdr f + (f.data ++ cop 0 (60 - (hdr f + f.data.size))).size)) 0 = []
        rw [hds, show 60 - (hdr f + (f.data.size + (60 - (hdr f + f.data.size)))) = 0 by omega]
        rfl
      rw [e1, e2, List.append_nil]
      show _ ++ (_ ++ (tgL f ++ (rdL f ++ (_ ++ (f.data ++ cop 0 (60 - (hdr f + f.data.size))).data.toList)))) = _
      rw [app_list, cop_list]
      unfold pdL
      rw [b3_size]
theorem back_pad {f : Fr} (hf : Ok f) : dec (enc f) = some (pad f) := dec_iff.2 (pad_dec hf)

/-- Storing a frame. -/
def st9 (w : World) (a : Nat) (f : Fr) : World := ((((((((w.setCell ⟨a, 0, none⟩ (.int .i64 f.dst)).setCell ⟨a, 1, none⟩ (.int .i64 f.src)).setCell ⟨a, 2, none⟩ (.bool f.tag)).setCell ⟨a, 3, none⟩ (.int .i64 f.prio)).setCell ⟨a, 4, none⟩ (.int .i64 f.vid)).setCell ⟨a, 5, none⟩ (.bool f.red)).setCell ⟨a, 6, none⟩ (.int .i64 f.seq)).setCell ⟨a, 7, none⟩ (.int .i64 f.typ)).setCell ⟨a, 8, none⟩ (.string f.data)
theorem st9_fb {w : World} {a : Nat} {g : Fr} (h : Fb w a g) (f : Fr) : Fb (st9 w a f) a f :=
  (store_nine h).congr (nine_cases rfl rfl rfl rfl rfl rfl rfl rfl rfl)
theorem st9_far {w : World} {a c : Nat} {g : Fr} (h : Fb w c g) (hac : a ≠ c) (f : Fr) : Fb (st9 w a f) c g :=
  (((((((((h.far hac _).far hac _).far hac _).far hac _).far hac _).far hac _).far hac _).far hac _).far (p := ⟨a, 8, none⟩) hac _)
theorem st9_bl {u w : World} {a : Nat} (h : Bl u w) (ha : u.heap.size ≤ a) (f : Fr) : Bl u (st9 w a f) := nine_bl h ha _ _ _ _ _ _ _ _ _
/-- A frame's cells. -/
def fc (f : Fr) : Array Value := #[.int .i64 f.dst, .int .i64 f.src, .bool f.tag, .int .i64 f.prio, .int .i64 f.vid, .bool f.red, .int .i64 f.seq, .int .i64 f.typ, .string f.data]
/-- Three copies of a frame, in new blocks. -/
theorem three_new (W : World) (t : TypeId) (f : Fr) : (∀ a, W.heap.size ≤ a → a ≤ W.heap.size + 2 → Fb (((W.alloc (.cells (fc f) t)).alloc (.cells (fc f) t)).alloc (.cells (fc f) t)).drew a f) ∧ Bl W (((W.alloc (.cells (fc f) t)).alloc (.cells (fc f) t)).alloc (.cells (fc f) t)).drew := by
  refine ⟨fun a h1 h2 => ?_, ((((Bl.refl W).alloc _).alloc _).alloc _).drew⟩
  have s1 : (W.alloc (.cells (fc f) t)).heap.size = W.heap.size + 1 := World.size_alloc _ _
  have s2 : ((W.alloc (.cells (fc f) t)).alloc (.cells (fc f) t)).heap.size = W.heap.size + 2 := by rw [World.size_alloc, s1]
  have f1 : Fb (W.alloc (.cells (fc f) t)) W.heap.size f := Fb.new W t f
  have f2 : Fb ((W.alloc (.cells (fc f) t)).alloc (.cells (fc f) t)) (W.alloc (.cells (fc f) t)).heap.size f := Fb.new _ t f
  have f3 : Fb (((W.alloc (.cells (fc f) t)).alloc (.cells (fc f) t)).alloc (.cells (fc f) t)) ((W.alloc (.cells (fc f) t)).alloc (.cells (fc f) t)).heap.size f := Fb.new _ t f
  rw [s1] at f2
  rw [s2] at f3
  rcases (by omega : a = W.heap.size ∨ a = W.heap.size + 1 ∨ a = W.heap.size + 2) with rfl | rfl | rfl
  · exact (f1.alloc _).alloc _
  · exact f2.alloc _
  · exact f3
/-- Four copies of a frame, in new blocks. -/
theorem four_new (W : World) (t : TypeId) (f : Fr) : (∀ a, W.heap.size ≤ a → a ≤ W.heap.size + 3 → Fb ((((W.alloc (.cells (fc f) t)).alloc (.cells (fc f) t)).alloc (.cells (fc f) t)).alloc (.cells (fc f) t)).drew a f) ∧ Bl W ((((W.alloc (.cells (fc f) t)).alloc (.cells (fc f) t)).alloc (.cells (fc f) t)).alloc (.cells (fc f) t)).drew := by
  refine ⟨fun a h1 h2 => ?_, (((((Bl.refl W).alloc _).alloc _).alloc _).alloc _).drew⟩
  have s3 : (((W.alloc (.cells (fc f) t)).alloc (.cells (fc f) t)).alloc (.cells (fc f) t)).heap.size = W.heap.size + 3 := by rw [World.size_alloc, World.size_alloc, World.size_alloc]
  rcases Nat.lt_or_ge a (W.heap.size + 3) with h | h
  · exact ((three_new W t f).1 a h1 (by omega)).alloc _
  · obtain rfl : a = W.heap.size + 3 := by omega
    have f4 : Fb ((((W.alloc (.cells (fc f) t)).alloc (.cells (fc f) t)).alloc (.cells (fc f) t)).alloc (.cells (fc f) t)) (((W.alloc (.cells (fc f) t)).alloc (.cells (fc f) t)).alloc (.cells (fc f) t)).heap.size f := Fb.new _ t f
    rw [s3] at f4
    exact f4
theorem Fb.put {w : World} {c : Nat} {f g : Fr} (h : Fb w c f) {i : Nat} (hi : i < 9) (v : Value) (e : ∀ j, j < 9 → (if j = i then v else frC f j) = frC g j) : Fb (w.setCell ⟨c, i, none⟩ v) c g := (Nine.set h hi v).congr e
theorem Fb.bl {w w' : World} {c : Nat} {f : Fr} (h : Fb w c f) (g : Bl w w') : Fb w' c f := Fb.go (b := c + 1) h (Only.of g) (by omega)

/-- The frames of the examples. -/
def lonF : Fr := { helF with data := cop 120 1500, tag := true, vid := 5 }
def padF : Fr := { helF with data := ⟨#[104, 101, 108, 108, 111]⟩ ++ cop 0 41 }
def plaF : Fr := { helF with typ := 0 }
def tagF : Fr := { helF with tag := true, prio := 5, vid := 3, red := true, seq := 258 }
theorem hel_ok : Ok helF := ok_iff.1 (by decide)
theorem pla_ok : Ok plaF := ok_iff.1 (by decide)
theorem tag_ok : Ok tagF := ok_iff.1 (by decide)
theorem lon_ok : Ok lonF := ⟨by decide, by decide, by decide, by decide, by decide, by decide, by show ((cop 120 1500).size : Int) ≤ 1500; rw [cop_size]; decide⟩
theorem hel_size : (enc helF).size = 64 := by rw [enc_size, bod_size]; decide
theorem tag_size : (enc tagF).size = 64 := by rw [enc_size, bod_size]; decide
theorem lon_wire : (1542 : Int) = ((bod lonF).size : Int) + 24 := by
  rw [bod_size, show hdr lonF = 18 from rfl, show lonF.data.size = 1500 from cop_size _ _]; decide
theorem hel_wire : (84 : Int) = ((bod helF).size : Int) + 24 := by rw [bod_size]; decide
theorem hel_pad : pad helF = padF := by
  unfold pad
  rw [if_neg (by decide)]
  rfl
theorem pla_pad : pad plaF = plaF := by unfold pad; rw [if_pos (by decide)]
theorem enc_bod (f : Fr) (k : Nat) (hk : k = (bod f).size) : (enc f).extract 0 k = bod f := by
  have h := bef_seal' (bod f) 0
  unfold bef at h
  rw [sealB_size, Nat.add_sub_cancel] at h
  rw [hk]
  exact h
theorem hel_head : (enc helF).extract 0 60 = ⟨#[0, 0, 0, 0, 0, 1, 0, 0, 0, 0, 0, 2, 8, 0, 104, 101, 108, 108, 111]⟩ ++ cop 0 41 := by
  rw [enc_bod helF 60 (by rw [bod_size]; decide)]
  rfl
theorem tag_head : (enc tagF).extract 12 24 = ⟨#[129, 0, 160, 3, 241, 193, 0, 0, 1, 2, 8, 0]⟩ := by
  have hl : (enc tagF).data.toList = (bod tagF).data.toList ++ (le4 (ofN (bod tagF).data.toList ^^^ 0)) := by
    unfold enc sealB
    rw [app_list, bstr_list]
  apply bytes_ext
  rw [bod_list] at hl
  exact ex_mid (A := (be tagF.dst 6).data.toList ++ (be tagF.src 6).data.toList) (B := [129, 0, 160, 3, 241, 193, 0, 0, 1, 2, 8, 0]) (by rw [hl]; rfl) rfl rfl
theorem zeros_bad : dec (cop 0 64) = none := by
  apply dec_chk
  apply decide_eq_false
  rintro ⟨_, h⟩
  have hb : bef (cop 0 64) = cop 0 60 := by
    unfold bef
    rw [cop_size]
    apply bytes_ext
    rw [extract_list, cop_list, cop_list]
    rfl
  rw [hb] at h
  have h2 := congrArg (fun b => b.data.toList) h
  unfold sealB at h2
  simp only [app_list, bstr_list, cop_list] at h2
  have h3 : List.replicate 64 (0 : UInt8) = List.replicate 60 0 ++ [0, 0, 0, 0] := rfl
  rw [h3] at h2
  have h4 := List.append_cancel_left h2
  have h5 : le4 (ofN (List.replicate 60 0) ^^^ 0) ≠ [0, 0, 0, 0] := by decide +kernel
  exact h5 h4
theorem bad1 : chE { helF with vid := 3 } = 170 := by decide
theorem bad2 : chE { helF with typ := 100 } = 170 := by decide
theorem bad3 : chE { helF with typ := 33024 } = 170 := by decide

end Go.Proofs.Ytmhdgpmlconngaa
