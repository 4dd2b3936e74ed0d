/-
  BucketLeasts: Least returns what the chapter specifies.
-/
import Derived.Test.YtlpbmhiipiaiaaaBw
import Derived.Test.YtlpbmhiipiaiaaaBx
import Derived.Test.YtlpbmhiipiaiaaaBr
namespace Go.Proofs.Ytlpbmhiipiaiaaa
open Go.ChangeShapes Go.WideShapes Go.ChangeAt Go.WideMaps Go.WideElems Go.RowKit

/-- The cells of a draft and of an arrival, and what was there. -/
def D6 (a0 : Nat) (B R : Int) (g s : Value) (x y : Int) (W w' : World) : Prop :=
  w'.cell? ⟨a0, 0, none⟩ = some (.int .u32 B) ∧ w'.cell? ⟨a0, 1, none⟩ = some (.int .u32 R) ∧ w'.cell? ⟨a0, 2, none⟩ = some g ∧ w'.cell? ⟨a0, 3, none⟩ = some s ∧ w'.cell? ⟨a0 + 1, 0, none⟩ = some (.int .i64 x) ∧ w'.cell? ⟨a0 + 1, 1, none⟩ = some (.int .i64 y) ∧ Hid (Bl W w')
theorem D6.step {a0 : Nat} {B R : Int} {g s : Value} {x y : Int} {W w1 w2 : World} (ha : Hid (a0 + 1 < W.heap.size)) (h : D6 a0 B R g s x y W w1) (k : Bl w1 w2) : D6 a0 B R g s x y W w2 := by
  obtain ⟨h0, h1, h2, h3, h4, h5, h6⟩ := h
  have hl1 : a0 + 1 < w1.heap.size := Nat.lt_of_lt_of_le ha.out h6.out.size
  have hl : a0 < w1.heap.size := by omega
  exact ⟨(k.cell (p := ⟨a0, 0, none⟩) hl).trans h0, (k.cell (p := ⟨a0, 1, none⟩) hl).trans h1, (k.cell (p := ⟨a0, 2, none⟩) hl).trans h2, (k.cell (p := ⟨a0, 3, none⟩) hl).trans h3, (k.cell (p := ⟨a0 + 1, 0, none⟩) hl1).trans h4, (k.cell (p := ⟨a0 + 1, 1, none⟩) hl1).trans h5, h6.out.trans k⟩
theorem D6.drew {a0 : Nat} {B R : Int} {g s : Value} {x y : Int} {W w1 : World} (h : D6 a0 B R g s x y W w1) : D6 a0 B R g s x y W w1.drew := ⟨h.1, h.2.1, h.2.2.1, h.2.2.2.1, h.2.2.2.2.1, h.2.2.2.2.2.1, Bl.drew h.2.2.2.2.2.2.out⟩
theorem D6.bl {a0 : Nat} {B R : Int} {g s : Value} {x y : Int} {W w1 : World} (h : D6 a0 B R g s x y W w1) : Bl W w1 := h.2.2.2.2.2.2.out
theorem three_slices {w : World} (A0 : Option Addr) (m0 c0 : Nat) (A1 : Option Addr) (c1 : Nat) (A2 : Option Addr) (c2 : Nat) (xs ys zs : List (Int × Int)) (hm : m0 = xs.length) (h0 : Tr w A0 xs) (h1 : Tr w A1 ys) (h2 : Tr w A2 zs) (l0 : xs.length ≤ 1000) (l1 : ys.length ≤ 1000) (l2 : zs.length ≤ 1000) (k : Nat) (hk : k < 3) :
    ∃ vs A c, Tr w A vs ∧ vs.length ≤ 1000 ∧ ∀ w, (Instr.index 54 (.agg #[.slice A0 m0 c0, .slice A1 ys.length c1, .slice A2 zs.length c2]) (.int .i64 k)).run Try.prog w = .ok (.slice A (List.length vs) c) w := by
  subst hm
  match k, hk with
  | 0, _ => exact ⟨xs, A0, c0, h0, l0, fun _ => by kernel_rfl⟩
  | 1, _ => exact ⟨ys, A1, c1, h1, l1, fun _ => by kernel_rfl⟩
  | 2, _ => exact ⟨zs, A2, c2, h2, l2, fun _ => by kernel_rfl⟩
theorem three_ints (a b c : Int) (k : Nat) (hk : k < 3) : ∃ v : Int, ∀ w, (Instr.index 38 (.agg #[.int .i64 a, .int .i64 b, .int .i64 c]) (.int .i64 k)).run Try.prog w = .ok (.int .i64 v) w := by
  match k, hk with
  | 0, _ => exact ⟨a, fun _ => by kernel_rfl⟩
  | 1, _ => exact ⟨b, fun _ => by kernel_rfl⟩
  | 2, _ => exact ⟨c, fun _ => by kernel_rfl⟩

set_option maxRecDepth 100000 in
set_option maxHeartbeats 8000000 in
theorem leasts_law (rate : Int) (xs : List (Int × Int)) (A : Option Addr) (cap n40 : Nat) (B R : Int) (gA : Option Addr) (gc : Nat) (sA : Option Addr) (sc : Nat) (gs ss : List Int) (x y t : Int) (w : World) (hrate : fits rate) (hl : (xs.length : Int) ≤ 9223372036854775807) (hcap : xs.length ≤ cap) (hT : Tr w A xs) (h40 : n40 = min xs.length 40)
    (hB : 0 ≤ B ∧ B ≤ 4294967295) (hR : 0 ≤ R ∧ R ≤ 4294967295) (hg : Us w gA gs) (hs : Us w sA ss) (ug : U16 gs) (us : U16 ss) (sl : (ss.length : Int) ≤ 9223372036854775807) (ht : 0 ≤ t ∧ t ≤ 255) :
    Calls Try.prog 5 #[.int .i64 rate, .slice A xs.length cap, drV B R gA gs.length gc sA ss.length sc, .agg #[.int .i64 x, .int .i64 y], .int .u8 t] w fun e w' => e = .returned (.bool true) ∧ Bl w w' := by
  unfold drV
  have HG := Lib.hid hg
  have HS := Lib.hid hs
  have KW := Lib.hid (fun w => works_any w)
  have HT0 := Lib.hid hT
  have H40 := Lib.hid h40
  obtain ⟨hr1, hr2⟩ := hrate
  have e40 : (n40 : Int) ≤ 40 ∧ (n40 : Int) ≤ (xs.length : Int) := by omega
  have m40 : (if (40 : Int) < (xs.length : Int) then (40 : Int) else (xs.length : Int)) = (n40 : Int) := by split <;> omega
  obtain ⟨e401, e402⟩ := e40
  have HTT := Lib.hid ht
  clear hT h40 ht
  go_enter Try.func5, Try.ntmps5
  go_wp2_with fail
  have hd : D6 w.heap.size B R (.slice gA gs.length gc) (.slice sA ss.length sc) x y ((w.alloc (.cells #[.int .u32 B, .int .u32 R, .slice gA gs.length gc, .slice sA ss.length sc] 27)).alloc (.cells #[.int .i64 x, .int .i64 y] 30)) ((w.alloc (.cells #[.int .u32 B, .int .u32 R, .slice gA gs.length gc, .slice sA ss.length sc] 27)).alloc (.cells #[.int .i64 x, .int .i64 y] 30)) :=
    ⟨by simp [go_sem], by simp [go_sem], by simp [go_sem], by simp [go_sem], by simp [go_sem], by simp [go_sem], Bl.refl _⟩
  have hb0 : Bl w ((w.alloc (.cells #[.int .u32 B, .int .u32 R, .slice gA gs.length gc, .slice sA ss.length sc] 27)).alloc (.cells #[.int .i64 x, .int .i64 y] 30)) := ((Bl.refl w).alloc _).alloc _
  have k4 : w.heap.size + 1 < ((w.alloc (.cells #[.int .u32 B, .int .u32 R, .slice gA gs.length gc, .slice sA ss.length sc] 27)).alloc (.cells #[.int .i64 x, .int .i64 y] 30)).heap.size := by simp
  have HD := Lib.hid hd
  have HB0 := Lib.hid hb0
  have K4 := Lib.hid k4
  clear hd hb0 k4
  generalize ((w.alloc (.cells #[.int .u32 B, .int .u32 R, .slice gA gs.length gc, .slice sA ss.length sc] 27)).alloc (.cells #[.int .i64 x, .int .i64 y] 30)) = W at *
  have H1 := Lib.hid (fun w' => (by have := dbucket_any B R gA gs.length gc sA ss.length sc w' hB hR; unfold drV at this; exact this : Calls Try.prog 10 #[.agg #[.int .u32 B, .int .u32 R, .slice gA gs.length gc, .slice sA ss.length sc]] w' fun e w'' => e = .returned (.agg #[.int .i64 (dBu B), .int .i64 (dRa R)]) ∧ Bl w' w''))
  have H2 := Lib.hid (fun (w' : World) (h : Bl W w') => (by have := dtrace_any B R gA gc sA sc gs ss w' (HG.out.go (HB0.out.trans h)) (HS.out.go (HB0.out.trans h)) ug us sl; unfold drV at this; exact this : Calls Try.prog 17 #[.agg #[.int .u32 B, .int .u32 R, .slice gA gs.length gc, .slice sA ss.length sc]] w' (TrRes w' (dTr gs ss))))
  have hlen : (dTr gs ss).length ≤ 30 := by unfold dTr; rw [dT_len]; omega
  clear hg hs ug us sl hB hR
  obtain ⟨dr, hdr⟩ : ∃ v, dRa R = v := ⟨_, rfl⟩
  rw [hdr] at H1
  clear hdr
  generalize dBu B = du at *
  generalize dTr gs ss = ys at *
  generalize w.heap.size = a0 at *
  refine (H1.out _).mono ?_; rintro e w1 ⟨rfl, gr⟩
  have D1 := Lib.hid (D6.step K4 HD.out gr)
  have G1 := Lib.hid gr
  clear gr
  have hfield : ∀ w, (Instr.field 23 (.agg #[.int .i64 du, .int .i64 dr]) 1).run Try.prog w = .ok (.int .i64 dr) w := fun _ => by kernel_rfl
  go_wp2_with fail
  obtain ⟨r3, hr3⟩ : ∃ v, wrap64 (1 + wrap64 ((IntKind.u64.wrap rate).tmod 2097152)) = v := ⟨_, rfl⟩
  rw [hr3]
  clear hr3 hfield m40
  have HTK := Lib.hid (show Tr w A (xs.take n40) from HT0.out.take n40)
  have HLK := Lib.hid (show n40 = (xs.take n40).length by rw [List.length_take]; have := H40.out; omega)
  have D1' := Lib.hid D1.out
  go_loopw [34] (fun kv wr => ∃ k : Nat, k ≤ 3 ∧ kv = .int .i64 k ∧ Hid (D6 a0 B R (.slice gA gs.length gc) (.slice sA ss.length sc) x y W wr)) (fun kv _ => 3 - (intOf kv).toNat)
  case atStart => exact ⟨0, by omega, rfl, D1.out⟩
  case round =>
    obtain ⟨k, hk, rfl, hd⟩ := hrel
    clear D1 D1' HD G1
    by_cases hk3 : k < 3
    · obtain ⟨rv, hrun⟩ := three_ints rate dr r3 k hk3
      have k0 := hd.out.1
      have k1 := hd.out.2.1
      have k2 := hd.out.2.2.1
      have k3 := hd.out.2.2.2.1
      have k5 := hd.out.2.2.2.2.1
      have k6 := hd.out.2.2.2.2.2.1
      go_wp2_with fail
      go_region_held3 (fun w' => w'.cell? ⟨a0, 0, none⟩ = some (.int .u32 B) ∧ w'.cell? ⟨a0, 1, none⟩ = some (.int .u32 R) ∧ w'.cell? ⟨a0, 2, none⟩ = some (.slice gA gs.length gc) ∧ w'.cell? ⟨a0, 3, none⟩ = some (.slice sA ss.length sc) ∧ w'.cell? ⟨a0 + 1, 0, none⟩ = some (.int .i64 x) ∧ w'.cell? ⟨a0 + 1, 1, none⟩ = some (.int .i64 y) ∧ Hid (Bl W w')) (first | with_reducible assumption | exact sb.out | exact D6.drew hd.out | fail) (first | (go_at_call 19; ((refine (bent_any ys A2 cb x y t wb (by omega) HTT.out hTb).mono ?_); rintro e wc ⟨A3, cc, rfl, hcc, hTc, hgrc, hfc⟩; have sc := sb; clear sb; have sb := Lib.hid (D6.step K4 sc.out hgrc))) | (go_at_call 17; have hx := hTa; have sa := sb; clear sb hx; ((refine (H2.out _ (D6.bl sa.out)).mono ?_); rintro e wb ⟨A2, cb, rfl, hcb, hTb, hgrb, hfb⟩; have sb := Lib.hid (D6.step K4 sa.out hgrb))) | (go_at_call 17; ((refine (H2.out _ (Bl.drew (D6.bl hd.out))).mono ?_); rintro e wa ⟨A1, ca, rfl, hca, hTa, hgra, hfa⟩; have sb := Lib.hid (D6.step K4 (D6.drew hd.out) hgra))) | fail)
      have TY := Lib.hid (hTa.go (hgrb.trans hgrc))
      have TZ := Lib.hid hTc
      have TX := Lib.hid (HTK.out.go (HB0.out.trans (D6.bl sb.out)))
      have SB := sb
      clear hTa hTb hTc hgra hgrb hgrc hca hcb hcc hfa hfb hfc k0 k1 k2 k3 k5 k6 hrun sb
      have HEL := Lib.hid (three_slices (w := wc) A n40 cap A1 ca A3 cc (xs.take n40) ys (bentL ys x y t) HLK.out TX.out TY.out TZ.out (by rw [← HLK.out]; omega) (by omega) (by rw [bentL_len]; omega))
      go_wp2_with fail
      go_loopw [46] (fun kv wr2 => ∃ k2 : Nat, k2 ≤ 3 ∧ kv = .int .i64 k2 ∧ Hid (Bl wc wr2)) (fun kv _ => 3 - (intOf kv).toNat)
      case atStart => exact ⟨0, by omega, rfl, Bl.refl _⟩
      case round =>
        obtain ⟨k2, hk2, rfl, hw2⟩ := hrel
        by_cases hk23 : k2 < 3
        · obtain ⟨zs, A9, c9, hT9, hl9, hrun2⟩ := HEL.out k2 hk23
          have T9 := Lib.hid (hT9.go hw2.out)
          obtain ⟨⟨v, E⟩, hv⟩ : ∃ q, leV rv zs = q := ⟨_, rfl⟩
          have KP := Lib.hid (fun w h => least_v hv A9 c9 w (by omega) h)
          have KR := Lib.hid (fun w h => rleast_v hv A9 c9 w (by omega) h)
          clear hT9 hv
          go_wp2_with fail
          refine (KP.out _ T9.out).mono ?_; rintro e w8 ⟨rfl, gr⟩
          have G8 := Lib.hid gr
          clear gr
          go_wp2_with fail
          refine (KR.out _ (T9.out.go G8.out)).mono ?_; rintro e w9 ⟨rfl, gr⟩
          have G9 := Lib.hid (G8.out.trans gr)
          clear gr
          go_wp2_with fail
          go_roundw
          case rel => exact ⟨k2 + 1, by omega, by go_num, hw2.out.trans G9.out⟩
          case measure => simp [intOf]; omega
        · go_wp2_with fail
          go_roundw
          case rel => exact ⟨k + 1, by omega, by go_num, D6.step K4 SB.out hw2.out⟩
          case measure => simp [intOf]; omega
    · go_wp2_with fail
      refine (KW.out _).mono ?_; rintro e w9 ⟨rfl, gr⟩
      have G9 := Lib.hid gr
      clear gr
      go_wp2_with fail
      go_ret
      exact ⟨rfl, (HB0.out.trans (D6.bl hd.out)).trans G9.out⟩

end Go.Proofs.Ytlpbmhiipiaiaaa
