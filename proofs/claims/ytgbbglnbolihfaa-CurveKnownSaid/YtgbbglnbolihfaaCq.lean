/-
  CurveKnown: the examples, invalid services, limits and the order of errors.
-/
import Derived.Test.YtgbbglnbolihfaaCqa
import Derived.Deep.RegionHeld3
namespace Go.Proofs.Ytgbbglnbolihfaa
open Go.ChangeShapes Go.WideShapes Go.ChangeAt Go.WideMaps Go.WideElems Go.RowKit

set_option maxRecDepth 100000 in
set_option maxHeartbeats 8000000 in
theorem known_law (w : World) : Calls Try.prog 14 #[] w fun e w' => e = .returned (.bool true) ∧ Bl w w' := by
  have KW := Lib.hid (fun w => cworks_any w)
  go_enter Try.func14, Try.ntmps14
  go_wp2_with fail
  have SA0 := Lib.hid ((Sl.new w 1 0 54).go ((Bl.refl _).alloc (.cells #[.int .i64 1, .int .i64 1] 30)))
  have SB0 := Lib.hid (show Sl (w.heap.size + 1) 1 1 ((w.alloc (.cells #[.int .i64 1, .int .i64 0] 54)).alloc (.cells #[.int .i64 1, .int .i64 1] 30)) by have h := Sl.new (w.alloc (.cells #[.int .i64 1, .int .i64 0] 54)) 1 1 30; rw [World.size_alloc] at h; exact h)
  have BW0 := Lib.hid (show Bl w ((w.alloc (.cells #[.int .i64 1, .int .i64 0] 54)).alloc (.cells #[.int .i64 1, .int .i64 1] 30)) from ((Bl.refl w).alloc _).alloc _)
  generalize ((w.alloc (.cells #[.int .i64 1, .int .i64 0] 54)).alloc (.cells #[.int .i64 1, .int .i64 1] 30)) = w0 at *
  generalize w.heap.size = a at *
  go_loopw [45] (fun iv wr => ∃ k : Nat, k ≤ 5 ∧ iv = .int .i64 k ∧ Hid (Bl w0 wr)) (fun iv _ => 5 - (intOf iv).toNat)
  case atStart => exact ⟨0, by omega, rfl, Bl.refl _⟩
  case round =>
    obtain ⟨k, hk, rfl, hw⟩ := hrel
    by_cases hlt : k < 5
    · obtain ⟨p, q, hpq, hrun⟩ := five_services k hlt
      have KD := Lib.hid (fun (c : Nat) (W : World) h0 h1 => delay1 (u := 1) (R := 1) (c := c) (w := W) (kn_de (kn_fl (by decide) hpq) (by decide)) (kn_fl (by decide) hpq) h0 h1)
      have KE := Lib.hid (fun (c : Nat) (W : World) (h0 : W.cell? ⟨c, 0, none⟩ = some (.int .i64 1)) (h1 : W.cell? ⟨c, 1, none⟩ = some (.int .i64 1)) (h2 : W.cell? ⟨c, 2, none⟩ = some (.int .i64 0)) (h3 : W.cell? ⟨c, 3, none⟩ = some (.int .i64 0)) => by
        have := delay_any [(1, 1), (0, 0)] (some ⟨c, 0, none⟩) 2 p q W (by simp) (Tr.two h0 h1 h2 h3)
        rw [kn_fl2, kn_de kn_fl2 (by decide)] at this; exact this)
      have KB := Lib.hid (fun (W : World) => by
        have := backlog_any 1 1 p q W
        have e := kn_fl (u := 1) (R := 1) (by decide) hpq
        have ev : baV 1 1 p q = 0 := by unfold baV; rw [if_neg (by rw [e]; decide)]
        rw [ev, e] at this; exact this)
      have KO := Lib.hid (fun (W : World) => by
        have := output_any 1 1 p q W
        have e := kn_fl (u := 1) (R := 1) (by decide) hpq
        have e1 : ouE 1 1 p q = 140 := by unfold ouE; rw [if_neg (by rw [e]; decide), e]
        have e2 : ouB 1 1 p q = 0 := by unfold ouB; rw [if_neg (by rw [e1]; decide)]
        have e3 : ouR 1 1 p q = 0 := by unfold ouR; rw [if_neg (by rw [e1]; decide)]
        rw [e1, e2, e3] at this; exact this)
      have KJ := Lib.hid (fun (W : World) => by
        have := join_any 1 0 p q W
        have e := kn_jo hpq
        have e2 := joRL_no (show joE 1 0 p q ≠ 0 by rw [e]; decide)
        rw [e2.1, e2.2, e] at this; exact this)
      have KN := Lib.hid (fun (W : World) => by
        have := drain_any [] none 0 p q W (by simp) Tr.nil
        rw [kn_dr hpq] at this; exact this)
      have KM := Lib.hid (fun (c : Nat) (W : World) (h0 : W.cell? ⟨c, 0, none⟩ = some (.int .i64 (-1))) (h1 : W.cell? ⟨c, 1, none⟩ = some (.int .i64 1)) => by
        have := drain_any [(-1, 1)] (some ⟨c, 0, none⟩) 1 p q W (by simp) (Tr.one h0 h1)
        rw [kn_dr2] at this; exact this)
      have KC := Lib.hid (fun (W : World) => scheck_v (svE_f hpq) W)
      have XN := Lib.hid (show drE [] p q ≠ 0 by rw [kn_dr hpq]; decide)
      have XM := Lib.hid (show drE [(-1, 1)] p q ≠ 0 by rw [kn_dr2]; decide)
      have hlt5 : (k : Int) < 5 := by omega
      have SA1 := Lib.hid (SA0.out.go hw.out)
      have SB1 := Lib.hid (SB0.out.go hw.out)
      clear hpq
      have cA0 := SA1.out.c0
      have cA1 := SA1.out.c1
      have cAl := SA1.out.lt
      have cB0 := SB1.out.c0
      have cB1 := SB1.out.c1
      have cBl := SB1.out.lt
      go_wp2_with fail
      refine Calls.mono (KD.out _ _ ?_ ?_) ?_
      iterate 2 (· simp [go_sem])
      rintro e w2 ⟨rfl, gr⟩
      have SC2 := Lib.hid ((Sl.new wr p q 54).go (Bl.trans (show Bl (wr.alloc (.cells #[.int .i64 p, .int .i64 q] 54)) _ from (by (repeat (first | exact Bl.refl _ | with_reducible refine Bl.alloc ?_ _)))) gr))
      have g2 : Bl wr w2 := Bl.trans (by (repeat (first | exact Bl.refl _ | with_reducible refine Bl.alloc ?_ _))) gr
      have SA2 := Lib.hid (SA1.out.go g2)
      have SB2 := Lib.hid (SB1.out.go g2)
      have BW2 := Lib.hid (hw.out.trans g2)
      clear gr g2 SA1 SB1 cA0 cA1 cAl cB0 cB1 cBl
      generalize wr.heap.size = c at *
      have cA0 := SA2.out.c0
      have cA1 := SA2.out.c1
      have cAl := SA2.out.lt
      have cB0 := SB2.out.c0
      have cB1 := SB2.out.c1
      have cBl := SB2.out.lt
      have cC0 := SC2.out.c0
      have cC1 := SC2.out.c1
      have cCl := SC2.out.lt
      go_wp2_with fail
      refine Calls.mono (KE.out _ _ ?_ ?_ ?_ ?_ ) ?_
      iterate 4 (· simp [go_sem])
      rintro e w3 ⟨rfl, gr⟩
      have g3 : Bl w2 w3 := Bl.trans (by (repeat (first | exact Bl.refl _ | with_reducible refine Bl.alloc ?_ _))) gr
      have SA3 := Lib.hid (SA2.out.go g3)
      have SB3 := Lib.hid (SB2.out.go g3)
      have SC3 := Lib.hid (SC2.out.go g3)
      have BW3 := Lib.hid (BW2.out.trans g3)
      clear gr g3 BW2 SA2 cA0 cA1 cAl SB2 cB0 cB1 cBl SC2 cC0 cC1 cCl
      have cA0 := SA3.out.c0
      have cA1 := SA3.out.c1
      have cAl := SA3.out.lt
      have cB0 := SB3.out.c0
      have cB1 := SB3.out.c1
      have cBl := SB3.out.lt
      have cC0 := SC3.out.c0
      have cC1 := SC3.out.c1
      have cCl := SC3.out.lt
      go_wp2_with fail
      refine Calls.mono (KB.out _ ) ?_
      rintro e w4 ⟨rfl, gr⟩
      have g4 : Bl w3 w4 := Bl.trans (by (repeat (first | exact Bl.refl _ | with_reducible refine Bl.alloc ?_ _))) gr
      have SA4 := Lib.hid (SA3.out.go g4)
      have SB4 := Lib.hid (SB3.out.go g4)
      have SC4 := Lib.hid (SC3.out.go g4)
      have BW4 := Lib.hid (BW3.out.trans g4)
      clear gr g4 BW3 SA3 cA0 cA1 cAl SB3 cB0 cB1 cBl SC3 cC0 cC1 cCl
      have cA0 := SA4.out.c0
      have cA1 := SA4.out.c1
      have cAl := SA4.out.lt
      have cB0 := SB4.out.c0
      have cB1 := SB4.out.c1
      have cBl := SB4.out.lt
      have cC0 := SC4.out.c0
      have cC1 := SC4.out.c1
      have cCl := SC4.out.lt
      go_wp2_with fail
      refine Calls.mono (KO.out _ ) ?_
      rintro e w5 ⟨rfl, gr⟩
      have g5 : Bl w4 w5 := Bl.trans (by (repeat (first | exact Bl.refl _ | with_reducible refine Bl.alloc ?_ _))) gr
      have SA5 := Lib.hid (SA4.out.go g5)
      have SB5 := Lib.hid (SB4.out.go g5)
      have SC5 := Lib.hid (SC4.out.go g5)
      have BW5 := Lib.hid (BW4.out.trans g5)
      clear gr g5 BW4 SA4 cA0 cA1 cAl SB4 cB0 cB1 cBl SC4 cC0 cC1 cCl
      have cA0 := SA5.out.c0
      have cA1 := SA5.out.c1
      have cAl := SA5.out.lt
      have cB0 := SB5.out.c0
      have cB1 := SB5.out.c1
      have cBl := SB5.out.lt
      have cC0 := SC5.out.c0
      have cC1 := SC5.out.c1
      have cCl := SC5.out.lt
      go_wp2_with fail
      refine Calls.mono (KJ.out _ ) ?_
      rintro e w6 ⟨rfl, gr⟩
      have g6 : Bl w5 w6 := Bl.trans (by (repeat (first | exact Bl.refl _ | with_reducible refine Bl.alloc ?_ _))) gr
      have SA6 := Lib.hid (SA5.out.go g6)
      have SB6 := Lib.hid (SB5.out.go g6)
      have SC6 := Lib.hid (SC5.out.go g6)
      have BW6 := Lib.hid (BW5.out.trans g6)
      clear gr g6 BW5 SA5 cA0 cA1 cAl SB5 cB0 cB1 cBl SC5 cC0 cC1 cCl
      have cA0 := SA6.out.c0
      have cA1 := SA6.out.c1
      have cAl := SA6.out.lt
      have cB0 := SB6.out.c0
      have cB1 := SB6.out.c1
      have cBl := SB6.out.lt
      have cC0 := SC6.out.c0
      have cC1 := SC6.out.c1
      have cCl := SC6.out.lt
      go_wp2_with fail
      refine Calls.mono (KN.out _ ) ?_
      rintro e w7 ⟨v7, rfl, hv7, gr⟩
      have g7 : Bl w6 w7 := Bl.trans (by (repeat (first | exact Bl.refl _ | with_reducible refine Bl.alloc ?_ _))) gr
      have SA7 := Lib.hid (SA6.out.go g7)
      have SB7 := Lib.hid (SB6.out.go g7)
      have SC7 := Lib.hid (SC6.out.go g7)
      have BW7 := Lib.hid (BW6.out.trans g7)
      obtain rfl : v7 = .slice none 0 0 := by
        rcases hv7 with ⟨_, h⟩ | ⟨h0, _⟩
        · exact h
        · exact absurd h0 XN.out
      clear hv7
      clear gr g7 BW6 SA6 cA0 cA1 cAl SB6 cB0 cB1 cBl SC6 cC0 cC1 cCl
      have cA0 := SA7.out.c0
      have cA1 := SA7.out.c1
      have cAl := SA7.out.lt
      have cB0 := SB7.out.c0
      have cB1 := SB7.out.c1
      have cBl := SB7.out.lt
      have cC0 := SC7.out.c0
      have cC1 := SC7.out.c1
      have cCl := SC7.out.lt
      go_wp2_with fail
      refine Calls.mono (KM.out _ _ ?_ ?_ ) ?_
      iterate 2 (· simp [go_sem])
      rintro e w8 ⟨v8, rfl, hv8, gr⟩
      have g8 : Bl w7 w8 := Bl.trans (by (repeat (first | exact Bl.refl _ | with_reducible refine Bl.alloc ?_ _))) gr
      have SA8 := Lib.hid (SA7.out.go g8)
      have SB8 := Lib.hid (SB7.out.go g8)
      have SC8 := Lib.hid (SC7.out.go g8)
      have BW8 := Lib.hid (BW7.out.trans g8)
      obtain rfl : v8 = .slice none 0 0 := by
        rcases hv8 with ⟨_, h⟩ | ⟨h0, _⟩
        · exact h
        · exact absurd h0 XM.out
      clear hv8
      clear gr g8 BW7 SA7 cA0 cA1 cAl SB7 cB0 cB1 cBl SC7 cC0 cC1 cCl
      have cA0 := SA8.out.c0
      have cA1 := SA8.out.c1
      have cAl := SA8.out.lt
      have cB0 := SB8.out.c0
      have cB1 := SB8.out.c1
      have cBl := SB8.out.lt
      have cC0 := SC8.out.c0
      have cC1 := SC8.out.c1
      have cCl := SC8.out.lt
      go_wp2_with fail
      refine Calls.mono (KC.out _) ?_
      rintro e w9 ⟨rfl, gr⟩
      have BW9 := Lib.hid (BW8.out.trans gr)
      clear gr
      go_wp2_with fail
      go_roundw
      case rel => exact ⟨k + 1, by omega, by go_num, BW9⟩
      case measure => simp [intOf]; omega
    · obtain rfl : k = 5 := by omega
      have SA1 := Lib.hid (SA0.out.go hw.out)
      have SB1 := Lib.hid (SB0.out.go hw.out)
      have BW1 := Lib.hid (BW0.out.trans hw.out)
      clear SA0 SB0 BW0 hw
      have KD := Lib.hid (fun (W : World) => by have := delay_any [] none 0 1 0 W (by simp) Tr.nil; rw [kl1.1, kl1.2] at this; exact this)
      have KE := Lib.hid (fun (W : World) (c : Nat) (hT : Tr W (some ⟨c, 0, none⟩) (List.replicate 13 (0, 0))) => by have := delay_any (List.replicate 13 (0, 0)) (some ⟨c, 0, none⟩) 13 1 0 W (by simp) hT; rw [kl2.1, kl2.2, List.length_replicate] at this; exact this)
      have KB := Lib.hid (fun (W : World) => by have := backlog_any 1 2 1 0 W; rw [kl3.1, kl3.2] at this; exact this)
      have KO := Lib.hid (fun (W : World) => by have := output_any 1048576 1 1 0 W; rw [kl4.1, kl4.2.1, kl4.2.2] at this; exact this)
      have KJ := Lib.hid (fun (W : World) => by have := join_any 1 268435456 1 1 W; rw [kl5.1, kl5.2.1, kl5.2.2] at this; exact this)
      have KK := Lib.hid (fun (W : World) => by have := join_any 9 268435455 7 1 W; rw [kl6.1, kl6.2.1, kl6.2.2] at this; exact this)
      have KN := Lib.hid (fun (W : World) => by have := drain_any [] none 0 1 0 W (by simp) Tr.nil; rw [kl7] at this; exact this)
      have M1 := Lib.hid (fun (c : Nat) (W : World) h0 h1 => delayed_t km1.1 km1.2 (some ⟨c, 0, none⟩) 1 W (by decide) (Tr.one h0 h1))
      have M2 := Lib.hid (fun (c : Nat) (W : World) h0 h1 => delayed_t km2.1 km2.2 (some ⟨c, 0, none⟩) 1 W (by decide) (Tr.one h0 h1))
      have M3 := Lib.hid (fun (c : Nat) (W : World) h0 h1 h2 h3 => delayed_t km3.1 km3.2 (some ⟨c, 0, none⟩) 2 W (by decide) (Tr.two h0 h1 h2 h3))
      have M4 := Lib.hid (fun (c : Nat) (W : World) h0 h1 h2 h3 h4 h5 => delayed_t km4.1 km4.2 (some ⟨c, 0, none⟩) 3 W (by decide) (Tr.three h0 h1 h2 h3 h4 h5))
      have M5 := Lib.hid (fun (c : Nat) (W : World) h0 h1 h2 h3 => delayed_t km5.1 km5.2 (some ⟨c, 0, none⟩) 2 W (by decide) (Tr.two h0 h1 h2 h3))
      have cA0 := SA1.out.c0
      have cA1 := SA1.out.c1
      have cAl := SA1.out.lt
      have cB0 := SB1.out.c0
      have cB1 := SB1.out.c1
      have cBl := SB1.out.lt
      go_wp2_with fail
      refine Calls.mono (KD.out _) ?_
      rintro e w2 ⟨rfl, gr⟩
      have SA2 := Lib.hid (SA1.out.go gr)
      have SB2 := Lib.hid (SB1.out.go gr)
      have BW2 := Lib.hid (BW1.out.trans gr)
      clear gr SA1 SB1 BW1 cA0 cA1 cAl cB0 cB1 cBl
      have cA0 := SA2.out.c0
      have cA1 := SA2.out.c1
      have cAl := SA2.out.lt
      have cB0 := SB2.out.c0
      have cB1 := SB2.out.c1
      have cBl := SB2.out.lt
      go_upto_region 16 with fail
      generalize w2.heap.size = zb at *
      have hmk := make13
      have HD := Lib.hid (show ∀ w', Bl w2 w' → (w'.cell? ⟨a, 0, none⟩ = some (.int .i64 1) ∧ w'.cell? ⟨a, 1, none⟩ = some (.int .i64 0) ∧ Hid (Bl w2 w')) from fun w' g => ⟨(SA2.out.go g).c0, (SA2.out.go g).c1, g⟩)
      go_region_held3 (fun w' => w'.cell? ⟨a, 0, none⟩ = some (.int .i64 1) ∧ w'.cell? ⟨a, 1, none⟩ = some (.int .i64 0) ∧ Hid (Bl w2 w'))
        (first | with_reducible assumption | (refine HD.out _ ?_; (repeat (first | exact BA.out | exact Bl.refl _ | with_reducible refine Bl.drew ?_ | with_reducible refine Bl.alloc ?_ _)); done) | fail)
        (first | (go_at_call 33; rename _ ∧ _ ∧ Hid (Bl w2 _) => hq; (with_reducible refine Calls.mono (KE.out _ _ (by first | exact tr13 (Bl.refl _) | exact tr13 (Bl.drew (Bl.refl _)) | exact tr13 (W := World.drew _) (Bl.refl _))) ?_); rintro e w3 ⟨rfl, gr⟩; have BA := Lib.hid (Bl.trans (Hid.out hq.2.2) gr)) | fail)
      go_wp2_with fail
      refine Calls.mono (KB.out _) ?_
      rintro e w4 ⟨rfl, gr4⟩
      have g4 : Bl w2 w4 := Bl.trans (And.right (And.right (by assumption : _ ∧ _ ∧ Hid (Bl w2 _)))).out gr4
      have SA4 := Lib.hid (SA2.out.go g4)
      have SB4 := Lib.hid (SB2.out.go g4)
      have BW4 := Lib.hid (BW2.out.trans g4)
      clear gr4 g4 SA2 SB2 BW2 cA0 cA1 cAl cB0 cB1 cBl HD hmk

      have cA0 := SA4.out.c0
      have cA1 := SA4.out.c1
      have cAl := SA4.out.lt
      have cB0 := SB4.out.c0
      have cB1 := SB4.out.c1
      have cBl := SB4.out.lt
      go_wp2_with fail
      refine Calls.mono (KO.out _ ) ?_
      rintro e w5 ⟨rfl, gr⟩
      have g5 : Bl w4 w5 := Bl.trans (by (repeat (first | exact Bl.refl _ | with_reducible refine Bl.alloc ?_ _))) gr
      have SA5 := Lib.hid (SA4.out.go g5)
      have SB5 := Lib.hid (SB4.out.go g5)
      have BW5 := Lib.hid (BW4.out.trans g5)
      clear gr g5 BW4 SA4 cA0 cA1 cAl SB4 cB0 cB1 cBl
      have cA0 := SA5.out.c0
      have cA1 := SA5.out.c1
      have cAl := SA5.out.lt
      have cB0 := SB5.out.c0
      have cB1 := SB5.out.c1
      have cBl := SB5.out.lt
      go_wp2_with fail
      refine Calls.mono (KJ.out _ ) ?_
      rintro e w6 ⟨rfl, gr⟩
      have g6 : Bl w5 w6 := Bl.trans (by (repeat (first | exact Bl.refl _ | with_reducible refine Bl.alloc ?_ _))) gr
      have SA6 := Lib.hid (SA5.out.go g6)
      have SB6 := Lib.hid (SB5.out.go g6)
      have BW6 := Lib.hid (BW5.out.trans g6)
      clear gr g6 BW5 SA5 cA0 cA1 cAl SB5 cB0 cB1 cBl
      have cA0 := SA6.out.c0
      have cA1 := SA6.out.c1
      have cAl := SA6.out.lt
      have cB0 := SB6.out.c0
      have cB1 := SB6.out.c1
      have cBl := SB6.out.lt
      go_wp2_with fail
      refine Calls.mono (KK.out _ ) ?_
      rintro e w7 ⟨rfl, gr⟩
      have g7 : Bl w6 w7 := Bl.trans (by (repeat (first | exact Bl.refl _ | with_reducible refine Bl.alloc ?_ _))) gr
      have SA7 := Lib.hid (SA6.out.go g7)
      have SB7 := Lib.hid (SB6.out.go g7)
      have BW7 := Lib.hid (BW6.out.trans g7)
      clear gr g7 BW6 SA6 cA0 cA1 cAl SB6 cB0 cB1 cBl
      have cA0 := SA7.out.c0
      have cA1 := SA7.out.c1
      have cAl := SA7.out.lt
      have cB0 := SB7.out.c0
      have cB1 := SB7.out.c1
      have cBl := SB7.out.lt
      go_wp2_with fail
      refine Calls.mono (KN.out _ ) ?_
      rintro e w8 ⟨v8, rfl, hv8, gr⟩
      have g8 : Bl w7 w8 := Bl.trans (by (repeat (first | exact Bl.refl _ | with_reducible refine Bl.alloc ?_ _))) gr
      have SA8 := Lib.hid (SA7.out.go g8)
      have SB8 := Lib.hid (SB7.out.go g8)
      have BW8 := Lib.hid (BW7.out.trans g8)
      obtain ⟨db, rfl⟩ : ∃ db, v8 = .slice (some ⟨db, 0, none⟩) 0 0 := by
        rcases hv8 with ⟨h0, _⟩ | ⟨_, db, h, _⟩
        · exact absurd kl7 h0
        · exact ⟨db, h⟩
      clear hv8
      have SJ8 := Lib.hid (Sl.newP gr)
      generalize w7.heap.size = jb at *
      have j0 := SJ8.out.c0
      have j1 := SJ8.out.c1
      clear gr g8 BW7 SA7 cA0 cA1 cAl SB7 cB0 cB1 cBl
      have cA0 := SA8.out.c0
      have cA1 := SA8.out.c1
      have cAl := SA8.out.lt
      have cB0 := SB8.out.c0
      have cB1 := SB8.out.c1
      have cBl := SB8.out.lt
      go_wp2_with fail
      refine Calls.mono (M1.out _ _ ?_ ?_ ) ?_
      iterate 2 (· simp [go_sem])
      rintro e w9 ⟨rfl, gr⟩
      have g9 : Bl w8 w9 := Bl.trans (by (repeat (first | exact Bl.refl _ | with_reducible refine Bl.alloc ?_ _))) gr
      have SA9 := Lib.hid (SA8.out.go g9)
      have SB9 := Lib.hid (SB8.out.go g9)
      have BW9 := Lib.hid (BW8.out.trans g9)
      have SF9 := Lib.hid ((Sl.new w8 10 2097152 30).go (Bl.trans (by (repeat (first | exact Bl.refl _ | with_reducible refine Bl.alloc ?_ _))) gr))
      have SV9 := Lib.hid (show Sl (w8.heap.size + 1) 1048576 3 w9 by have h := Sl.new (w8.alloc (.cells #[.int .i64 10, .int .i64 2097152] 30)) 1048576 3 54; rw [World.size_alloc] at h; exact h.go (Bl.trans (by (repeat (first | exact Bl.refl _ | with_reducible refine Bl.alloc ?_ _))) gr))
      clear SJ8 j0 j1
      generalize w8.heap.size = fb at *
      have cF0 := SF9.out.c0
      have cF1 := SF9.out.c1
      have cFl := SF9.out.lt
      have cV0 := SV9.out.c0
      have cV1 := SV9.out.c1
      have cVl := SV9.out.lt
      clear gr g9 BW8 SA8 cA0 cA1 cAl SB8 cB0 cB1 cBl
      have cA0 := SA9.out.c0
      have cA1 := SA9.out.c1
      have cAl := SA9.out.lt
      have cB0 := SB9.out.c0
      have cB1 := SB9.out.c1
      have cBl := SB9.out.lt
      go_wp2_with fail
      refine Calls.mono (M2.out _ _ ?_ ?_ ) ?_
      iterate 2 (· simp [go_sem])
      rintro e w10 ⟨rfl, gr⟩
      have g10 : Bl w9 w10 := Bl.trans (by (repeat (first | exact Bl.refl _ | with_reducible refine Bl.alloc ?_ _))) gr
      have SA10 := Lib.hid (SA9.out.go g10)
      have SB10 := Lib.hid (SB9.out.go g10)
      have SF10 := Lib.hid (SF9.out.go g10)
      have SV10 := Lib.hid (SV9.out.go g10)
      have BW10 := Lib.hid (BW9.out.trans g10)
      clear gr g10 BW9 SA9 cA0 cA1 cAl SB9 cB0 cB1 cBl SF9 cF0 cF1 cFl SV9 cV0 cV1 cVl
      have cA0 := SA10.out.c0
      have cA1 := SA10.out.c1
      have cAl := SA10.out.lt
      have cB0 := SB10.out.c0
      have cB1 := SB10.out.c1
      have cBl := SB10.out.lt
      have cF0 := SF10.out.c0
      have cF1 := SF10.out.c1
      have cFl := SF10.out.lt
      have cV0 := SV10.out.c0
      have cV1 := SV10.out.c1
      have cVl := SV10.out.lt
      go_wp2_with fail
      refine Calls.mono (M3.out _ _ ?_ ?_ ?_ ?_ ) ?_
      iterate 4 (· simp [go_sem])
      rintro e w11 ⟨rfl, gr⟩
      have g11 : Bl w10 w11 := Bl.trans (by (repeat (first | exact Bl.refl _ | with_reducible refine Bl.alloc ?_ _))) gr
      have SA11 := Lib.hid (SA10.out.go g11)
      have SB11 := Lib.hid (SB10.out.go g11)
      have SF11 := Lib.hid (SF10.out.go g11)
      have SV11 := Lib.hid (SV10.out.go g11)
      have BW11 := Lib.hid (BW10.out.trans g11)
      clear gr g11 BW10 SA10 cA0 cA1 cAl SB10 cB0 cB1 cBl SF10 cF0 cF1 cFl SV10 cV0 cV1 cVl
      have cA0 := SA11.out.c0
      have cA1 := SA11.out.c1
      have cAl := SA11.out.lt
      have cB0 := SB11.out.c0
      have cB1 := SB11.out.c1
      have cBl := SB11.out.lt
      have cF0 := SF11.out.c0
      have cF1 := SF11.out.c1
      have cFl := SF11.out.lt
      have cV0 := SV11.out.c0
      have cV1 := SV11.out.c1
      have cVl := SV11.out.lt
      go_wp2_with fail
      refine Calls.mono (M4.out _ _ ?_ ?_ ?_ ?_ ?_ ?_ ) ?_
      iterate 6 (· simp [go_sem])
      rintro e w12 ⟨rfl, gr⟩
      have g12 : Bl w11 w12 := Bl.trans (by (repeat (first | exact Bl.refl _ | with_reducible refine Bl.alloc ?_ _))) gr
      have SA12 := Lib.hid (SA11.out.go g12)
      have SB12 := Lib.hid (SB11.out.go g12)
      have SF12 := Lib.hid (SF11.out.go g12)
      have SV12 := Lib.hid (SV11.out.go g12)
      have BW12 := Lib.hid (BW11.out.trans g12)
      clear gr g12 BW11 SA11 cA0 cA1 cAl SB11 cB0 cB1 cBl SF11 cF0 cF1 cFl SV11 cV0 cV1 cVl
      have cA0 := SA12.out.c0
      have cA1 := SA12.out.c1
      have cAl := SA12.out.lt
      have cB0 := SB12.out.c0
      have cB1 := SB12.out.c1
      have cBl := SB12.out.lt
      have cF0 := SF12.out.c0
      have cF1 := SF12.out.c1
      have cFl := SF12.out.lt
      have cV0 := SV12.out.c0
      have cV1 := SV12.out.c1
      have cVl := SV12.out.lt
      go_wp2_with fail
      refine Calls.mono (M5.out _ _ ?_ ?_ ?_ ?_ ) ?_
      iterate 4 (· simp [go_sem])
      rintro e w13 ⟨rfl, gr⟩
      have g13 : Bl w12 w13 := Bl.trans (by (repeat (first | exact Bl.refl _ | with_reducible refine Bl.alloc ?_ _))) gr
      have SA13 := Lib.hid (SA12.out.go g13)
      have SB13 := Lib.hid (SB12.out.go g13)
      have SF13 := Lib.hid (SF12.out.go g13)
      have SV13 := Lib.hid (SV12.out.go g13)
      have BW13 := Lib.hid (BW12.out.trans g13)
      clear gr g13 BW12 SA12 cA0 cA1 cAl SB12 cB0 cB1 cBl SF12 cF0 cF1 cFl SV12 cV0 cV1 cVl
      have cA0 := SA13.out.c0
      have cA1 := SA13.out.c1
      have cAl := SA13.out.lt
      have cB0 := SB13.out.c0
      have cB1 := SB13.out.c1
      have cBl := SB13.out.lt
      have cF0 := SF13.out.c0
      have cF1 := SF13.out.c1
      have cFl := SF13.out.lt
      have cV0 := SV13.out.c0
      have cV1 := SV13.out.c1
      have cVl := SV13.out.lt
      go_wp2_with fail
      refine Calls.mono (KW.out _) ?_
      rintro e w14 ⟨rfl, gr⟩
      have BW14 := Lib.hid (BW13.out.trans gr)
      clear gr
      go_wp2_with fail
      go_ret
      exact ⟨rfl, BW14.out⟩

end Go.Proofs.Ytgbbglnbolihfaa
