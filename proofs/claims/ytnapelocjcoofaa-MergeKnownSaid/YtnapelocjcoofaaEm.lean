/-
  What Cut of the reference returns.
-/
import Derived.Test.YtnapelocjcoofaaEl
import Derived.Test.YtnapelocjcoofaaEc
import Derived.Deep.AppendLies
namespace Go.Proofs.Ytnapelocjcoofaa
open Go.RowKit Go.Proofs.Ytnapelocjcoofaa.Cr

theorem heap_lt {W : World} {i : Nat} {o : Obj} (h : W.heap[i]? = some o) : i < W.heap.size := (Array.getElem?_eq_some_iff.1 h).1
theorem own_bl {w w' : World} {base : Nat} {e : TypeId} {size : Nat} {v : Value} {n : Nat} {xs : List Value} (h : w.ownsRow base e size v n xs) (g : Bl w w') : w'.ownsRow base e size v n xs := by
  refine ⟨h.1, ?_⟩
  rcases h.2 with h0 | ⟨b, cap, cur, h1, h2, h3, h4⟩
  · exact .inl h0
  · exact .inr ⟨b, cap, cur, h1, h2, (Below.block g b (heap_lt h3)).trans h3, h4⟩
theorem own_block_ge {w : World} {base : Nat} {e : TypeId} {size : Nat} {v : Value} {n : Nat} {xs : List Value} (h : w.ownsRow base e size v n xs) : ∀ j, v.ownBlock = some j → base ≤ j := by
  intro j e1
  rcases h.2 with ⟨rfl, _⟩ | ⟨g, cap, cur, rfl, hb, _⟩
  · simp [Value.ownBlock] at e1
  · obtain rfl : g = j := by simpa [Value.ownBlock] using e1
    exact hb
theorem Bl.grownBy {w a b : World} {row : Option Nat} (h : Bl w a) (g : a.grownBy b row) (hr : ∀ j, row = some j → w.heap.size ≤ j) : Bl w b := Below.grown h g h.size hr
theorem new_at (W : World) (o : Obj) {n : Nat} (h : W.heap.size = n) : (W.alloc o).heap[n]? = some o := by subst h; exact heap_alloc_new W o
/-- The offset behind k rounds. -/
def lv (cs : List Int) (k : Nat) : Int := la cs (min k cs.length)
theorem rwhole_v {s : ByteArray} {b : Bool} (h : whB s = b) (hs : (s.size : Int) ≤ 8000) (w : World) :
    Calls Try.prog 41 #[.string s] w fun e w' => e = .returned (.bool b) ∧ Bl w w' := by subst h; exact rwhole_any s hs w
theorem allowed_v {s : ByteArray} {cs : List Int} {b : Bool} (h : okC s.size cs = b) (hn : (64 : Int) ≤ s.size ∧ (s.size : Int) ≤ 1522) (A : Option Addr) (cap : Nat) (w : World) (hl : (cs.length : Int) ≤ 9223372036854775807) (h64 : I64 cs) (hI : Iz w A cs) :
    Calls Try.prog 42 #[.string s, .slice A cs.length cap] w fun e w' => e = .returned (.bool b) ∧ w = w' := by subst h; exact allowed_any s hn cs A cap w hl h64 hI

set_option maxRecDepth 100000 in
set_option maxHeartbeats 4000000 in
theorem rcut_any (s : ByteArray) (hs : (s.size : Int) ≤ 8000) (num : Int) (hnum : -9223372036854775808 ≤ num ∧ num ≤ 9223372036854775807) (cs : List Int) (A : Option Addr) (cap : Nat) (w : World) (hl : (cs.length : Int) ≤ 9223372036854775807) (h64 : I64 cs) (hI : Iz w A cs) :
    Calls Try.prog 14 #[.string s, .int .i64 num, .slice A cs.length cap] w (CutRes w (cutA s num cs)) := by
  have HC := Lib.hid hI; clear hI
  have H6 := Lib.hid h64; clear h64
  obtain ⟨hnu1, hnu2⟩ := hnum
  rcases two_bool (whB s) with h1 | h1 <;> have KW := Lib.hid (fun w => rwhole_v h1 hs w)
  · by_cases h2 : 0 ≤ num ∧ num ≤ 3
    · have h2' : rsB num = true := decide_eq_true h2
      obtain ⟨h21, h22⟩ := h2
      obtain ⟨⟨hn1, hn2⟩, _⟩ := whB_iff.1 h1
      rcases two_bool (okC s.size cs) with h3 | h3 <;> have KA := Lib.hid (fun w hI => allowed_v h3 (by omega) A cap w hl H6.out hI)
      · rw [cut_yes h1 h2' h3]
        have hc := h3
        have hfew := few hc hn1 hn2
        clear h1 h2' h3
        obtain ⟨i0, hi, hz0, hz1, hz2⟩ := info_parts info_pc
        have HI0 := Lib.hid hi
        have HZ0 := Lib.hid hz0
        have HZ1 := Lib.hid hz1
        have HZ2 := Lib.hid hz2
        clear hi hz0 hz1 hz2
        unfold CutRes
        have hul : (upto (pcI s num cs) (cs.length + 1)).length = cs.length + 1 := upto_length _ _
        dsimp only
        rw [hul]
        clear hul
        go_enter Try.func14, Try.ntmps14
        go_wp2_with fail
        refine (KW.out _).mono ?_; rintro e w1 ⟨rfl, g1⟩
        have G1 := Lib.hid g1; clear g1
        go_wp2_with fail
        refine (KA.out _ (HC.out.go G1.out)).mono ?_; rintro e w2 ⟨rfl, rfl⟩
        go_wp2_with fail
        go_loopw [8, 9, 10] (fun ov lv' iv wr => ∃ k : Nat, k ≤ cs.length + 1 ∧ iv = .int .i64 k ∧ lv' = .int .i64 (lv cs k) ∧ Hid (wr.ownsRow w.heap.size 45 4 ov k (flP (upto (pcI s num cs) k))) ∧ Hid (Bl w wr)) (fun _ _ iv _ => cs.length + 1 - (intOf iv).toNat)
        case atStart => exact ⟨0, Nat.zero_le _, rfl, rfl, World.ownsRow_nil _ _ _ _, G1⟩
        case round =>
          obtain ⟨k, hk, rfl, rfl, hown, hw⟩ := hrel
          by_cases hlt : k < cs.length
          · have hp0 := la_nonneg hc (i := k) (by omega)
            have hp1 := la_le hc hn1 (i := k) (by omega)
            have e1 : lv cs k = la cs k := by unfold lv; rw [Nat.min_eq_left (by omega)]
            have e2 : lv cs (k + 1) = cu cs k := by unfold lv; rw [Nat.min_eq_left (by omega), la_succ]
            obtain ⟨b, off, ea, hbn, c1⟩ := HC.out.go hw.out k hlt
            have h2 := (okC_iff.1 hc) k hlt
            have hPD : pcD s cs k = (sealB (s.extract 0 (cu cs k).toNat) mkC).extract (la cs k).toNat ((cu cs k).toNat + 4) := by unfold pcD; rw [if_pos hlt]
            have hz : (s.extract 0 (cu cs k).toNat).size = (cu cs k).toNat := by rw [ByteArray.size_extract]; omega
            have KM := Lib.hid (fun w => rmark_any (s.extract 0 (cu cs k).toNat) (by omega) w)
            have hms : (sealB (s.extract 0 (cu cs k).toNat) mkC).size = (cu cs k).toNat + 4 := by rw [sealB_size, hz]
            rw [← hms] at hPD
            rw [show (4294901760 : Nat) = mkC from rfl] at KM
            have hx : (pcI s num cs k).l = [.bool (decide (k = 0)), .int .i64 num, .int .i64 (cn k), .string ((sealB (s.extract 0 (cu cs k).toNat) mkC).extract (la cs k).toNat (sealB (s.extract 0 (cu cs k).toNat) mkC).size)] := by rw [← hPD]; rfl
            have hsl : la cs k ≤ ((sealB (s.extract 0 (cu cs k).toNat) mkC).size : Int) := by omega
            obtain ⟨z, hzz⟩ : ∃ z, cu cs k = z := ⟨_, rfl⟩
            obtain ⟨p, hpp⟩ : ∃ p, la cs k = p := ⟨_, rfl⟩
            rw [hzz] at c1 h2 KM hsl hx e2
            rw [hpp] at h2 hp0 hp1 hsl hx e1
            rw [e1]
            have LV := Lib.hid e2
            obtain ⟨h21, h22, h23⟩ := h2
            clear hz hms hPD e2 e1
            have hzs : z ≤ (s.size : Int) := by omega
            have hps : p ≤ (s.size : Int) := by omega
            generalize (sealB (s.extract 0 z.toNat) mkC) = sm at *
            subst ea
            rcases Nat.eq_zero_or_pos k with h0 | h0
            · subst h0
              have c1 : wr.cell? ⟨b, off, none⟩ = some (.int .i64 z) := c1
              have HX := Lib.hid hx; clear hx
              have B1 := Pc.boxed wr ⟨true, num, 0, s.extract p.toNat s.size⟩ 45
              have GA := (Bl.refl wr).alloc (.cells #[.bool true, .int .i64 num, .int .i64 0, .string (s.extract p.toNat s.size)] 45)
              have HB := Lib.hid B1; have HG := Lib.hid GA
              clear B1 GA
              go_wp2_with fail
              refine (KM.out _).mono ?_; rintro e w3 ⟨rfl, g3⟩
              have B3 := HB.out.bl g3
              have G3 := HG.out.trans g3
              obtain ⟨b', off', ea', hb', c1'⟩ := (HC.out.go (hw.out.trans G3)) 0 hlt
              obtain ⟨rfl, rfl⟩ : b = b' ∧ off = off' := by cases ea'; exact ⟨rfl, rfl⟩
              clear ea' g3
              rw [hzz, Nat.add_zero] at c1'
              have d0 := B3.at 0 (by show 0 < 4; omega) (v := .bool true) rfl
              have df0 := B3.fr 0 (by show 0 < 4; omega)
              have d1 := B3.at 1 (by show 1 < 4; omega) (v := .int .i64 num) rfl
              have df1 := B3.fr 1 (by show 1 < 4; omega)
              have d2 := B3.at 2 (by show 2 < 4; omega) (v := .int .i64 0) rfl
              have df2 := B3.fr 2 (by show 2 < 4; omega)
              have d3 := B3.at 3 (by show 3 < 4; omega) (v := .string (s.extract p.toNat s.size)) rfl
              have df3 := B3.fr 3 (by show 3 < 4; omega)
              have B4 := B3.set (i := 3) (by show 3 < 4; omega) (.string (sm.extract p.toNat sm.size)) rfl
              have G4 := Lib.hid (G3.setCell (p := ⟨wr.heap.size, 3, none⟩) (Nat.le_refl _) (.string (sm.extract p.toNat sm.size)))
              have HO4 := Lib.hid (own_bl hown.out G4.out)
              have hbw : b ≠ wr.heap.size := by have := hw.out.size; omega
              clear B3 G3 B4 HB HG
              go_wp2_with (at_builtin; refine wpList_append_lies _ rfl _ _ _ rfl w.heap.size 45 i0 _ 4 40 Try.underlying35 HI0.out HZ0.out HZ1.out HZ2.out rfl (by omega) _ 0 (flP (upto (pcI s num cs) 0)) rfl (HO4.out.alloc _) ⟨w3.heap.size, 0, none⟩ 1 1 [.bool true, .int .i64 num, .int .i64 0, .string (sm.extract p.toNat sm.size)] rfl rfl (World.news_of_block (cs := #[.bool true, .int .i64 num, .int .i64 0, .string (sm.extract p.toNat sm.size)]) (t := 45) (fr := (0, 0)) (new_at (w3.setCell ⟨wr.heap.size, 3, none⟩ (.string (sm.extract p.toNat sm.size))) _ (by simp))) (by simp [Value.oneCell']) (by omega) (by unfold maxLen; omega) (by omega) (Nat.le_trans hw.out.size (Nat.le_trans G4.out.size (by simp only [World.size_alloc, World.size_setCell]; omega))) (w3.heap.size + 1) (by simp) ?_; intro gg cap' w9 hown1 hgrow hat hlt3)
              have hw9 : Bl w w9 := Bl.grownBy ((hw.out.trans G4.out).alloc _) hgrow (fun j e => own_block_ge HO4.out j e)
              have HW9 := Lib.hid hw9; have HO9 := Lib.hid hown1
              clear hgrow hat hlt3 hw9 hown1
              go_roundw
              case rel => exact ⟨0 + 1, by omega, by go_num, by rw [LV.out], by rw [upto_succ, flP_snoc, HX.out]; exact HO9.out, HW9.out⟩
              case measure => first | (simp [intOf]; omega) | simp [intOf]
            · rw [decide_eq_false (show ¬ k = 0 by omega), show cn k = ((k : Int) - 1) % 4 by unfold cn; omega] at hx
              have HX := Lib.hid hx; clear hx
              have hk0 : ((k : Int) == 0) = false := beq_eq_false_iff_ne.2 (by omega)
              have hk1 : decide (0 < (k : Int)) = true := decide_eq_true (by omega)
              have B1 := Pc.boxed wr ⟨false, num, (((k : Int) - 1) % 4), s.extract p.toNat s.size⟩ 45
              have GA := (Bl.refl wr).alloc (.cells #[.bool false, .int .i64 num, .int .i64 (((k : Int) - 1) % 4), .string (s.extract p.toNat s.size)] 45)
              have HB := Lib.hid B1; have HG := Lib.hid GA
              clear B1 GA
              go_wp2_with fail
              refine (KM.out _).mono ?_; rintro e w3 ⟨rfl, g3⟩
              have B3 := HB.out.bl g3
              have G3 := HG.out.trans g3
              obtain ⟨b', off', ea', hb', c1'⟩ := (HC.out.go (hw.out.trans G3)) k hlt
              obtain ⟨rfl, rfl⟩ : b = b' ∧ off = off' := by cases ea'; exact ⟨rfl, rfl⟩
              clear ea' g3
              rw [hzz] at c1'
              have d0 := B3.at 0 (by show 0 < 4; omega) (v := .bool false) rfl
              have df0 := B3.fr 0 (by show 0 < 4; omega)
              have d1 := B3.at 1 (by show 1 < 4; omega) (v := .int .i64 num) rfl
              have df1 := B3.fr 1 (by show 1 < 4; omega)
              have d2 := B3.at 2 (by show 2 < 4; omega) (v := .int .i64 (((k : Int) - 1) % 4)) rfl
              have df2 := B3.fr 2 (by show 2 < 4; omega)
              have d3 := B3.at 3 (by show 3 < 4; omega) (v := .string (s.extract p.toNat s.size)) rfl
              have df3 := B3.fr 3 (by show 3 < 4; omega)
              have B4 := B3.set (i := 3) (by show 3 < 4; omega) (.string (sm.extract p.toNat sm.size)) rfl
              have G4 := Lib.hid (G3.setCell (p := ⟨wr.heap.size, 3, none⟩) (Nat.le_refl _) (.string (sm.extract p.toNat sm.size)))
              have HO4 := Lib.hid (own_bl hown.out G4.out)
              have hbw : b ≠ wr.heap.size := by have := hw.out.size; omega
              clear B3 G3 B4 HB HG
              go_wp2_with (at_builtin; refine wpList_append_lies _ rfl _ _ _ rfl w.heap.size 45 i0 _ 4 40 Try.underlying35 HI0.out HZ0.out HZ1.out HZ2.out rfl (by omega) _ k (flP (upto (pcI s num cs) k)) rfl (HO4.out.alloc _) ⟨w3.heap.size, 0, none⟩ 1 1 [.bool false, .int .i64 num, .int .i64 (((k : Int) - 1) % 4), .string (sm.extract p.toNat sm.size)] rfl rfl (World.news_of_block (cs := #[.bool false, .int .i64 num, .int .i64 (((k : Int) - 1) % 4), .string (sm.extract p.toNat sm.size)]) (t := 45) (fr := (0, 0)) (new_at (w3.setCell ⟨wr.heap.size, 3, none⟩ (.string (sm.extract p.toNat sm.size))) _ (by simp))) (by simp [Value.oneCell']) (by omega) (by unfold maxLen; omega) (by omega) (Nat.le_trans hw.out.size (Nat.le_trans G4.out.size (by simp only [World.size_alloc, World.size_setCell]; omega))) (w3.heap.size + 1) (by simp) ?_; intro gg cap' w9 hown1 hgrow hat hlt3)
              have hw9 : Bl w w9 := Bl.grownBy ((hw.out.trans G4.out).alloc _) hgrow (fun j e => own_block_ge HO4.out j e)
              have HW9 := Lib.hid hw9; have HO9 := Lib.hid hown1
              clear hgrow hat hlt3 hw9 hown1
              go_roundw
              case rel => exact ⟨k + 1, by omega, by go_num, by rw [LV.out], by rw [upto_succ, flP_snoc, HX.out]; exact HO9.out, HW9.out⟩
              case measure => first | (simp [intOf]; omega) | simp [intOf]
          · by_cases hle : k ≤ cs.length
            · have hke : cs.length = k := by omega
              have hle' : (k : Int) ≤ (cs.length : Int) := by omega
              have hp0 := la_nonneg hc (i := k) (by omega)
              have hp1 := la_le hc hn1 (i := k) (by omega)
              have e1 : lv cs k = la cs k := by unfold lv; rw [Nat.min_eq_left (by omega)]
              have e2 : lv cs (k + 1) = la cs k := by unfold lv; rw [Nat.min_eq_right (by omega), hke]
              have hPD : pcD s cs k = s.extract (la cs k).toNat s.size := by unfold pcD; rw [if_neg hlt]
              have hx : (pcI s num cs k).l = [.bool (decide (k = 0)), .int .i64 num, .int .i64 (cn k), .string (s.extract (la cs k).toNat s.size)] := by rw [← hPD]; rfl
              obtain ⟨p, hpp⟩ : ∃ p, la cs k = p := ⟨_, rfl⟩
              rw [hpp] at hp0 hp1 hx e1 e2
              rw [e1]
              have LV := Lib.hid e2
              have HKE := Lib.hid hke
              clear hPD e2 e1 hpp hke
              have hps : p ≤ (s.size : Int) := by omega
              rcases Nat.eq_zero_or_pos k with h0 | h0
              · subst h0
                have HX := Lib.hid hx; clear hx
                have B1 := Pc.boxed wr ⟨true, num, 0, s.extract p.toNat s.size⟩ 45
                have GA := (Bl.refl wr).alloc (.cells #[.bool true, .int .i64 num, .int .i64 0, .string (s.extract p.toNat s.size)] 45)
                have HO4 := Lib.hid (own_bl hown.out GA)
                have G4 := Lib.hid GA
                clear B1 GA
                go_wp2_with (at_builtin; refine wpList_append_lies _ rfl _ _ _ rfl w.heap.size 45 i0 _ 4 40 Try.underlying35 HI0.out HZ0.out HZ1.out HZ2.out rfl (by omega) _ 0 (flP (upto (pcI s num cs) 0)) rfl (HO4.out.alloc _) ⟨(wr.heap.size + 1), 0, none⟩ 1 1 [.bool true, .int .i64 num, .int .i64 0, .string (s.extract p.toNat s.size)] rfl rfl (World.news_of_block (cs := #[.bool true, .int .i64 num, .int .i64 0, .string (s.extract p.toNat s.size)]) (t := 45) (fr := (0, 0)) (new_at (wr.alloc (.cells #[.bool true, .int .i64 num, .int .i64 0, .string (s.extract p.toNat s.size)] 45)) _ (by simp))) (by simp [Value.oneCell']) (by omega) (by unfold maxLen; omega) (by omega) (Nat.le_trans hw.out.size (Nat.le_trans G4.out.size (by simp only [World.size_alloc]; omega))) ((wr.heap.size + 1) + 1) (by simp) ?_; intro gg cap' w9 hown1 hgrow hat hlt3)
                have hw9 : Bl w w9 := Bl.grownBy ((hw.out.trans G4.out).alloc _) hgrow (fun j e => own_block_ge HO4.out j e)
                have HW9 := Lib.hid hw9; have HO9 := Lib.hid hown1
                clear hgrow hat hlt3 hw9 hown1
                go_roundw
                case rel => exact ⟨0 + 1, by omega, by go_num, by rw [LV.out], by rw [upto_succ, flP_snoc, HX.out]; exact HO9.out, HW9.out⟩
                case measure => first | (simp [intOf]; omega) | simp [intOf]
              · rw [decide_eq_false (show ¬ k = 0 by omega), show cn k = ((k : Int) - 1) % 4 by unfold cn; omega] at hx
                have HX := Lib.hid hx; clear hx
                have hk0 : ((k : Int) == 0) = false := beq_eq_false_iff_ne.2 (by omega)
                have hk1 : decide (0 < (k : Int)) = true := decide_eq_true (by omega)
                have B1 := Pc.boxed wr ⟨false, num, (((k : Int) - 1) % 4), s.extract p.toNat s.size⟩ 45
                have GA := (Bl.refl wr).alloc (.cells #[.bool false, .int .i64 num, .int .i64 (((k : Int) - 1) % 4), .string (s.extract p.toNat s.size)] 45)
                have HO4 := Lib.hid (own_bl hown.out GA)
                have G4 := Lib.hid GA
                clear B1 GA
                go_wp2_with (at_builtin; refine wpList_append_lies _ rfl _ _ _ rfl w.heap.size 45 i0 _ 4 40 Try.underlying35 HI0.out HZ0.out HZ1.out HZ2.out rfl (by omega) _ k (flP (upto (pcI s num cs) k)) rfl (HO4.out.alloc _) ⟨(wr.heap.size + 1), 0, none⟩ 1 1 [.bool false, .int .i64 num, .int .i64 (((k : Int) - 1) % 4), .string (s.extract p.toNat s.size)] rfl rfl (World.news_of_block (cs := #[.bool false, .int .i64 num, .int .i64 (((k : Int) - 1) % 4), .string (s.extract p.toNat s.size)]) (t := 45) (fr := (0, 0)) (new_at (wr.alloc (.cells #[.bool false, .int .i64 num, .int .i64 (((k : Int) - 1) % 4), .string (s.extract p.toNat s.size)] 45)) _ (by simp))) (by simp [Value.oneCell']) (by omega) (by unfold maxLen; omega) (by omega) (Nat.le_trans hw.out.size (Nat.le_trans G4.out.size (by simp only [World.size_alloc]; omega))) ((wr.heap.size + 1) + 1) (by simp) ?_; intro gg cap' w9 hown1 hgrow hat hlt3)
                have hw9 : Bl w w9 := Bl.grownBy ((hw.out.trans G4.out).alloc _) hgrow (fun j e => own_block_ge HO4.out j e)
                have HW9 := Lib.hid hw9; have HO9 := Lib.hid hown1
                clear hgrow hat hlt3 hw9 hown1
                go_roundw
                case rel => exact ⟨k + 1, by omega, by go_num, by rw [LV.out], by rw [upto_succ, flP_snoc, HX.out]; exact HO9.out, HW9.out⟩
                case measure => first | (simp [intOf]; omega) | simp [intOf]
            · obtain rfl : k = cs.length + 1 := by omega
              go_wp2_with fail
              go_ret2
              exact ⟨_, rfl, hown.out, hw.out⟩
      · rw [cut_cuts h1 h2' h3]
        clear h1 h2' h3
        unfold CutRes
        go_enter Try.func14, Try.ntmps14
        go_wp2_with fail
        refine (KW.out _).mono ?_; rintro e w1 ⟨rfl, g1⟩
        have G1 := Lib.hid g1; clear g1
        go_wp2_with fail
        refine (KA.out _ (HC.out.go G1.out)).mono ?_; rintro e w2 ⟨rfl, rfl⟩
        go_wp2_with fail
        go_ret2
        exact ⟨_, rfl, World.ownsRow_nil _ _ _ _, G1.out⟩
    · rw [cut_arg h1 (decide_eq_false h2)]
      clear h1
      unfold CutRes
      by_cases h0 : num < 0
      · clear h2
        go_enter Try.func14, Try.ntmps14
        go_wp2_with fail
        refine (KW.out _).mono ?_; rintro e w1 ⟨rfl, g1⟩
        have G1 := Lib.hid g1; clear g1
        go_wp2_with fail
        go_ret2
        exact ⟨_, rfl, World.ownsRow_nil _ _ _ _, G1.out⟩
      · have h3 : 3 < num := by omega
        clear h2
        go_enter Try.func14, Try.ntmps14
        go_wp2_with fail
        refine (KW.out _).mono ?_; rintro e w1 ⟨rfl, g1⟩
        have G1 := Lib.hid g1; clear g1
        go_wp2_with fail
        go_ret2
        exact ⟨_, rfl, World.ownsRow_nil _ _ _ _, G1.out⟩
  · rw [cut_form h1]
    clear h1
    unfold CutRes
    go_enter Try.func14, Try.ntmps14
    go_wp2_with fail
    refine (KW.out _).mono ?_; rintro e w1 ⟨rfl, g1⟩
    have G1 := Lib.hid g1; clear g1
    go_wp2_with fail
    go_ret2
    exact ⟨_, rfl, World.ownsRow_nil _ _ _ _, G1.out⟩

end Go.Proofs.Ytnapelocjcoofaa
