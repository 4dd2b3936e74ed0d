/-
  CurveDrains: Drain returns what the reference does.
-/
import Derived.Test.YtgbbglnbolihfaaCk
import Derived.Test.YtgbbglnbolihfaaCn
import Derived.Test.YtgbbglnbolihfaaDb
import Derived.Test.YtgbbglnbolihfaaBw
import Derived.Test.YtgbbglnbolihfaaBx
import Derived.Deep.RegionHeld3
import Derived.Deep.DeepCutAuto
import Derived.Deep.CutBlock
namespace Go.Proofs.Ytgbbglnbolihfaa
open Go.ChangeShapes Go.WideShapes Go.ChangeAt Go.WideMaps Go.WideElems Go.RowKit

theorem two_traces {w : World} (A1 : Option Addr) (m1 c1 : Nat) (A2 : Option Addr) (m2 c2 : Nat) (xs ys : List (Int × Int)) (hm1 : m1 = xs.length) (hm2 : m2 = ys.length) (h1 : Tr w A1 xs) (h2 : Tr w A2 ys) (l1 : xs.length ≤ 200) (l2 : ys.length ≤ 200) (k : Nat) (hk : k < 2) :
    ∃ zs A c, Tr w A zs ∧ List.length zs ≤ 200 ∧ ∀ w, (Instr.index 73 (.agg #[.slice A1 m1 c1, .slice A2 m2 c2]) (.int .i64 k)).run Try.prog w = .ok (.slice A (List.length zs) c) w := by
  subst hm1 hm2
  match k, hk with
  | 0, _ => exact ⟨xs, A1, c1, h1, l1, fun _ => by kernel_rfl⟩
  | 1, _ => exact ⟨ys, A2, c2, h2, l2, fun _ => by kernel_rfl⟩
theorem three_servs (x0 x1 x2 x3 x4 x5 : Int) (k : Nat) (hk : k < 3) : ∃ p q : Int, ∀ w, (Instr.index 66 (.agg #[.int .i64 x0, .int .i64 x1, .int .i64 x2, .int .i64 x3, .int .i64 x4, .int .i64 x5]) (.int .i64 k)).run Try.prog w = .ok (.agg #[.int .i64 p, .int .i64 q]) w := by
  match k, hk with
  | 0, _ => exact ⟨x0, x1, fun _ => by kernel_rfl⟩
  | 1, _ => exact ⟨x2, x3, fun _ => by kernel_rfl⟩
  | 2, _ => exact ⟨x4, x5, fun _ => by kernel_rfl⟩

set_option maxRecDepth 100000 in
set_option maxHeartbeats 3000000 in
theorem drains_law (xs : List (Int × Int)) (A : Option Addr) (cap k : Nat) (B R0 : Int) (gA : Option Addr) (gc : Nat) (sA : Option Addr) (sc : Nat) (gs ss : List Int) (sr sl' n0 n1 : Int) (w : World) (hl : (xs.length : Int) ≤ 9223372036854775807) (hcap : xs.length ≤ cap) (hT : Tr w A xs) (hk : k = min xs.length 40) (hg : Us w gA gs) (hs : Us w sA ss) (ug : U16 gs) (us : U16 ss) (sl : (ss.length : Int) ≤ 9223372036854775807) (h0 : 0 ≤ n0 ∧ n0 ≤ 4294967295) (h1 : 0 ≤ n1 ∧ n1 ≤ 4294967295) :
    Calls Try.prog 8 #[.slice A xs.length cap, drV B R0 gA gs.length gc sA ss.length sc, .agg #[.int .i64 sr, .int .i64 sl'], .agg #[.int .u32 n0, .int .u32 n1]] w fun e w' => e = .returned (.bool true) ∧ Bl w w' := by
  unfold drV
  have KW := Lib.hid (fun w => cworks_any w)
  have KO := Lib.hid (fun w => of_any n0 n1 h0 h1 w)
  generalize ofR n0 = o0 at *
  generalize ofL n1 = o1 at *
  have HT := Lib.hid hT
  have HTR := Lib.hid (fun (w' : World) (g : Bl w w') => (by have := dtrace_any B R0 gA gc sA sc gs ss w' (hg.go g) (hs.go g) ug us sl; unfold drV at this; exact this : Calls Try.prog 39 #[.agg #[.int .u32 B, .int .u32 R0, .slice gA gs.length gc, .slice sA ss.length sc]] w' (TrRes w' (dTr gs ss))))
  have hlen0 : (dTr gs ss).length ≤ 30 := by unfold dTr; rw [dT_len]; omega
  obtain ⟨h2, h3⟩ := h1
  obtain ⟨h4, h5⟩ := h0
  clear hT hg hs ug us sl
  go_enter Try.func8, Try.ntmps8
  have H40 := Lib.hid hk
  have m40 : (if (40 : Int) < (xs.length : Int) then (40 : Int) else (xs.length : Int)) = (k : Int) := by split <;> omega
  obtain ⟨e401, e402⟩ : (k : Int) ≤ 40 ∧ (k : Int) ≤ (xs.length : Int) := by omega
  clear hk
  have HC := Lib.hid (show ∀ w1, Bl (((w.alloc (.cells #[.int .u32 B, .int .u32 R0, .slice gA gs.length gc, .slice sA ss.length sc] 25)).alloc (.cells #[.int .i64 sr, .int .i64 sl'] 54)).alloc (.cells #[.int .u32 n0, .int .u32 n1] 64)) w1 →
      (w1.cell? ⟨w.heap.size, 0, none⟩ = some (.int .u32 B) ∧ w1.cell? ⟨w.heap.size, 1, none⟩ = some (.int .u32 R0) ∧ w1.cell? ⟨w.heap.size, 2, none⟩ = some (.slice gA gs.length gc) ∧ w1.cell? ⟨w.heap.size, 3, none⟩ = some (.slice sA ss.length sc) ∧ w1.cell? ⟨w.heap.size + 1, 0, none⟩ = some (.int .i64 sr) ∧ w1.cell? ⟨w.heap.size + 1, 1, none⟩ = some (.int .i64 sl') ∧ w1.cell? ⟨w.heap.size + 1 + 1, 0, none⟩ = some (.int .u32 n0) ∧ w1.cell? ⟨w.heap.size + 1 + 1, 1, none⟩ = some (.int .u32 n1)) from fun w1 g => by
    refine ⟨?_, ?_, ?_, ?_, ?_, ?_, ?_, ?_⟩
    · exact (g.cell (p := ⟨w.heap.size, 0, none⟩) (by simp <;> omega)).trans (by simp [go_sem])
    · exact (g.cell (p := ⟨w.heap.size, 1, none⟩) (by simp <;> omega)).trans (by simp [go_sem])
    · exact (g.cell (p := ⟨w.heap.size, 2, none⟩) (by simp <;> omega)).trans (by simp [go_sem])
    · exact (g.cell (p := ⟨w.heap.size, 3, none⟩) (by simp <;> omega)).trans (by simp [go_sem])
    · exact (g.cell (p := ⟨w.heap.size + 1, 0, none⟩) (by simp <;> omega)).trans (by simp [go_sem])
    · exact (g.cell (p := ⟨w.heap.size + 1, 1, none⟩) (by simp <;> omega)).trans (by simp [go_sem])
    · exact (g.cell (p := ⟨w.heap.size + 1 + 1, 0, none⟩) (by simp <;> omega)).trans (by simp [go_sem])
    · exact (g.cell (p := ⟨w.heap.size + 1 + 1, 1, none⟩) (by simp <;> omega)).trans (by simp [go_sem]))
  have HB := Lib.hid (show Bl w (((w.alloc (.cells #[.int .u32 B, .int .u32 R0, .slice gA gs.length gc, .slice sA ss.length sc] 25)).alloc (.cells #[.int .i64 sr, .int .i64 sl'] 54)).alloc (.cells #[.int .u32 n0, .int .u32 n1] 64)) from (((Bl.refl w).alloc _).alloc _).alloc _)
  go_wp2_with fail
  refine (HTR.out _ (((((Bl.refl w).alloc _).alloc _).alloc _))).mono ?_
  rintro e w1 ⟨A2, c2, rfl, hc2, hT2, gr, _⟩
  have T2 := Lib.hid hT2
  have B1 := Lib.hid gr
  generalize w.heap.size = a at *
  generalize (((w.alloc (.cells #[.int .u32 B, .int .u32 R0, .slice gA gs.length gc, .slice sA ss.length sc] 25)).alloc (.cells #[.int .i64 sr, .int .i64 sl'] 54)).alloc (.cells #[.int .u32 n0, .int .u32 n1] 64)) = W at *
  generalize dTr gs ss = ys at *
  clear gr hT2 hc2 HTR m40
  have HEL := Lib.hid (two_traces (w := w1) A k cap A2 ys.length c2 (xs.take k) ys (by rw [List.length_take]; omega) rfl ((HT.out.take k).go (HB.out.trans B1.out)) T2.out (by rw [List.length_take]; omega) (by omega))
  clear HT T2
  go_wp2_with fail
  go_loopw [26] (fun iv wr => ∃ i : Nat, i ≤ 2 ∧ iv = .int .i64 i ∧ Hid (Bl w1 wr)) (fun iv _ => 2 - (intOf iv).toNat)
  case atStart => exact ⟨0, by omega, rfl, Bl.refl _⟩
  case round =>
    obtain ⟨i, hi, rfl, hw⟩ := hrel
    by_cases hlt : i < 2
    · obtain ⟨zs, A3, c3, hT3, hz, hrun⟩ := HEL.out i hlt
      have T3 := Lib.hid (hT3.go hw.out)
      clear hT3
      have hlti : (i : Int) < 2 := by omega
      have HD := Lib.hid (show ∀ w', Bl wr w' → (w'.cell? ⟨a + 1, 0, none⟩ = some (.int .i64 sr) ∧ w'.cell? ⟨a + 1, 1, none⟩ = some (.int .i64 sl') ∧ w'.cell? ⟨a + 1 + 1, 0, none⟩ = some (.int .u32 n0) ∧ w'.cell? ⟨a + 1 + 1, 1, none⟩ = some (.int .u32 n1) ∧ Hid (Bl wr w')) from fun w' g => (fun h => ⟨h.2.2.2.2.1, h.2.2.2.2.2.1, h.2.2.2.2.2.2.1, h.2.2.2.2.2.2.2, g⟩) (HC.out w' (B1.out.trans (hw.out.trans g))))
      go_upto_region 5 with fail
      obtain ⟨k0, k1, k2, k3, _⟩ := HD.out wr (Bl.refl _)
      have et0 : n0.tmod 22 = n0 % 22 := Int.tmod_eq_emod_of_nonneg h4
      have et1 : n1.tmod 300 = n1 % 300 := Int.tmod_eq_emod_of_nonneg h2
      have hs0 : 0 ≤ n0 % 22 := by omega
      have hw300 : IntKind.i64.wrap (n1 % 300) = n1 % 300 := IntWalk.i64_in _ (by omega)
      have hs1 : n0 % 22 ≤ 64 := by omega
      go_region_held3 (fun w' => w'.cell? ⟨a + 1, 0, none⟩ = some (.int .i64 sr) ∧ w'.cell? ⟨a + 1, 1, none⟩ = some (.int .i64 sl') ∧ w'.cell? ⟨a + 1 + 1, 0, none⟩ = some (.int .u32 n0) ∧ w'.cell? ⟨a + 1 + 1, 1, none⟩ = some (.int .u32 n1) ∧ Hid (Bl wr w'))
        (first | with_reducible assumption | (refine HD.out _ ?_; (repeat (first | exact BA.out | exact Bl.refl _ | with_reducible refine Bl.drew ?_)); done) | fail)
        (first | (go_at_call 27; rename _ ∧ _ ∧ _ ∧ _ ∧ Hid (Bl wr _) => hq; (with_reducible refine (KO.out _).mono ?_); rintro e w2 ⟨rfl, hgr⟩; have BA := Lib.hid (Bl.trans (Hid.out hq.2.2.2.2) hgr)) | fail)
      go_upto_region 6 with fail
      obtain ⟨sh, hsh⟩ : ∃ v, IntKind.i64.wrap (2 ^ (n0 % 22).toNat) = v := ⟨_, rfl⟩
      rw [hsh]
      clear hsh et0 et1 hs0 hs1 hw300 k0 k1 k2 k3
      have BE := Lib.hid (And.right (And.right (And.right (And.right (by assumption : _ ∧ _ ∧ _ ∧ _ ∧ Hid (Bl wr w2)))))).out
      clear HD
      have T4 := Lib.hid (T3.out.go BE.out)
      go_loopw [45] (fun jv wj => ∃ m : Nat, m ≤ 3 ∧ jv = .int .i64 m ∧ Hid (Bl w2 wj)) (fun jv _ => 3 - (intOf jv).toNat)
      case atStart => exact ⟨0, by omega, rfl, Bl.refl _⟩
      case round =>
        clear hrun
        obtain ⟨m, hm, rfl, hwj⟩ := hrel
        by_cases hlm : m < 3
        · obtain ⟨p, q, hrun⟩ := three_servs sr sl' o0 o1 sh (n1 % 300) m hlm
          have KA := Lib.hid (fun W (h : Tr W A3 zs) => drain_any zs A3 c3 p q W (by omega) h)
          have KB := Lib.hid (fun W (h : Tr W A3 zs) => rdrain_any zs A3 c3 p q W (by omega) h)
          have hltm : (m : Int) < 3 := by omega
          have T5 := Lib.hid (T4.out.go hwj.out)
          have hz200 : (zs.length : Int) ≤ 200 := by omega
          by_cases hE : drE zs p q = 0
          · rw [hE] at KA
            simp only [hE, if_true] at KB
            have KS := Lib.hid (fun (A B : Option Addr) (ca cb : Nat) (W : World) (hA : Iv W A zs.length (dep zs p q)) (hB : Iv W B zs.length (dep zs p q)) => by
              have := same_any A B zs.length zs.length ca cb _ _ W (by omega) (by omega) hA hB
              rw [show smB zs.length zs.length (dep zs p q) (dep zs p q) = true from decide_eq_true ⟨rfl, fun _ _ => rfl⟩] at this; exact this)
            go_wp2_with fail
            refine (KA.out _ (T5.out.go ((Bl.refl _).alloc _))).mono ?_
            rintro e w3 ⟨v3, rfl, hv3, gr⟩
            obtain ⟨hne, _⟩ | ⟨_, db, rfl, _, hI⟩ := hv3
            · exact absurd hE hne
            have I3 := Lib.hid hI
            have SX3 := Lib.hid (Sl.newP gr)
            have G3 := Lib.hid (Bl.trans ((Bl.refl wr).alloc _) gr)
            have T6 := Lib.hid (T5.out.go G3.out)
            clear gr hI
            generalize wr.heap.size = xb at *
            have cX0 := SX3.out.c0
            have cX1 := SX3.out.c1
            go_wp2_with fail
            refine (KB.out _ T6.out).mono ?_
            rintro e w4 ⟨B', m', c', rfl, rfl, hI', gr⟩
            have I4 := Lib.hid (I3.out.go gr)
            have J4 := Lib.hid hI'
            have B4 := Lib.hid (hwj.out.trans (G3.out.trans gr))
            clear gr hI' cX0 cX1
            go_wp2_with fail
            refine (KS.out _ _ _ _ _ I4.out J4.out).mono ?_
            rintro e w5 ⟨rfl, gr⟩
            have B5 := Lib.hid (B4.out.trans gr)
            clear gr
            go_wp2_with fail
            go_roundw
            case rel => exact ⟨m + 1, by omega, by go_num, B5⟩
            case measure => simp [intOf]; omega
          · obtain ⟨E, hE2⟩ : ∃ E, drE zs p q = E := ⟨_, rfl⟩
            rw [hE2] at KA hE
            simp only [hE2, if_neg hE] at KB
            have KS := Lib.hid (fun (B : Option Addr) (cb : Nat) (W : World) => by
              have := same_any none B 0 0 0 cb (fun _ => 0) (fun _ => 0) W (by decide) (by decide) (fun k hk => absurd hk (by omega)) (fun k hk => absurd hk (by omega))
              rw [show smB 0 0 (fun _ => 0) (fun _ => 0) = true from decide_eq_true ⟨rfl, fun _ _ => rfl⟩] at this; exact this)
            have HE := Lib.hid (show drE zs p q ≠ 0 by rw [hE2]; exact hE)
            clear hE2
            go_wp2_with fail
            refine (KA.out _ (T5.out.go ((Bl.refl _).alloc _))).mono ?_
            rintro e w3 ⟨v3, rfl, hv3, gr⟩
            obtain rfl : v3 = .slice none 0 0 := by
              rcases hv3 with ⟨_, h⟩ | ⟨h, _⟩
              · exact h
              · exact absurd h HE.out
            have SX3 := Lib.hid (Sl.newP gr)
            have G3 := Lib.hid (Bl.trans ((Bl.refl wr).alloc _) gr)
            have T6 := Lib.hid (T5.out.go G3.out)
            clear gr hv3
            generalize wr.heap.size = xb at *
            have cX0 := SX3.out.c0
            have cX1 := SX3.out.c1
            go_wp2_with fail
            refine (KB.out _ T6.out).mono ?_
            rintro e w4 ⟨B', m', c', rfl, rfl, hI', gr⟩
            have B4 := Lib.hid (hwj.out.trans (G3.out.trans gr))
            clear gr hI' cX0 cX1
            go_wp2_with fail
            refine (KS.out _ _ _).mono ?_
            rintro e w5 ⟨rfl, gr⟩
            have B5 := Lib.hid (B4.out.trans gr)
            clear gr
            go_wp2_with fail
            go_roundw
            case rel => exact ⟨m + 1, by omega, by go_num, B5⟩
            case measure => simp [intOf]; omega
        · obtain rfl : m = 3 := by omega
          go_wp2_with fail
          go_roundw
          case rel => exact ⟨i + 1, by omega, by go_num, Lib.hid (hw.out.trans (BE.out.trans hwj.out))⟩
          case measure => simp [intOf]; omega
    · obtain rfl : i = 2 := by omega
      go_wp2_with fail
      refine (KW.out _).mono ?_; rintro e w9 ⟨rfl, gr⟩
      have B9 := Lib.hid (HB.out.trans (B1.out.trans (hw.out.trans gr)))
      clear gr
      go_wp2_with fail
      go_ret
      exact ⟨rfl, B9.out⟩

end Go.Proofs.Ytgbbglnbolihfaa
