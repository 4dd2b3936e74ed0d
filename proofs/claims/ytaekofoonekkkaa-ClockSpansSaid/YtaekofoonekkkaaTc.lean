/-
  What the search for the least time of package clock and True of the clock and of its reference return.
-/
import Derived.Test.YtaekofoonekkkaaTb
namespace Go.Proofs.Ytaekofoonekkkaa
open Go.RowKit

attribute [local go_sem] Oper.semAt_some

/-- The method value of a clock. -/
def mv (o p : Int) : Value := .func (.func 26) #[.agg #[.int .i64 o, .int .i64 p]] #[]

set_option maxHeartbeats 1000000 in
theorem earliest1_any (o p l t : Int) (Bf Bg : Nat) (w : World) (hc : ckB o p = true) (ht : tmB t = true)
    (c0 : w.cell? ⟨Bf, 0, none⟩ = some (.func (.func 26) #[.agg #[.int .i64 o, .int .i64 p]] #[])) (c1 : w.cell? ⟨Bg, 0, none⟩ = some (.int .i64 l)) :
    Calls Try.prog 34 #[.int .i64 t, .pointer (some ⟨Bf, 0, none⟩), .pointer (some ⟨Bg, 0, none⟩)] w fun e w' => e = .returned (.bool (decide (cel o p l ≤ t))) ∧ Bl w w' := by
  have KL := Lib.hid (fun w => local_any o p t w hc ht)
  have hv := cel_iff (o := o) (p := p) (l := l) (t := t) (ckB_iff.1 hc).2.1
  have hb := atV_bd hc ht
  generalize atV o p t = v at *
  have D : decide (cel o p l ≤ t) = decide (l ≤ v) := by rw [decide_eq_decide]; exact hv
  rw [D]
  have hf := cell_lt c0
  have hg := cell_lt c1
  have HD := Lib.hid (show ∀ w', Bl w w' → (w'.cell? ⟨Bf, 0, none⟩ = some (.func (.func 26) #[.agg #[.int .i64 o, .int .i64 p]] #[]) ∧ w'.cell? ⟨Bg, 0, none⟩ = some (.int .i64 l) ∧ Hid (Bl w w')) from fun w' g => ⟨(g.cell (p := ⟨Bf, 0, none⟩) hf).trans c0, (g.cell (p := ⟨Bg, 0, none⟩) hg).trans c1, g⟩)
  clear hc ht hv D hf hg hb
  go_enter Try.func34, Try.ntmps34
  go_upto_region 1 with fail
  go_region_held3 (fun w' => w'.cell? ⟨Bf, 0, none⟩ = some (.func (.func 26) #[.agg #[.int .i64 o, .int .i64 p]] #[]) ∧ w'.cell? ⟨Bg, 0, none⟩ = some (.int .i64 l) ∧ Hid (Bl w w'))
    (first | with_reducible assumption | (refine HD.out _ ?_; (repeat (first | exact BA.out | exact Bl.refl _ | with_reducible refine Bl.drew ?_)); done) | fail)
    (first | (go_at_call 26; rename _ ∧ _ ∧ Hid (Bl w _) => hq; (with_reducible refine (KL.out _).mono ?_); rintro e w2 ⟨rfl, hgr⟩; have BA := Lib.hid (Bl.trans (Hid.out hq.2.2) hgr)) | fail)
  all_goals go_wp2_with fail
  all_goals go_ret
  all_goals exact ⟨rfl, (And.right (And.right (by assumption : _ ∧ _ ∧ Hid (Bl w _)))).out⟩

set_option maxHeartbeats 1000000 in
theorem csearch_any (o p l M : Int) (Bf Bg : Nat) (w : World) (hc : ckB o p = true) (hM : M = min (fst o p l) 1099511627777)
    (c0 : w.cell? ⟨Bf, 0, none⟩ = some (.func (.func 26) #[.agg #[.int .i64 o, .int .i64 p]] #[])) (c1 : w.cell? ⟨Bg, 0, none⟩ = some (.int .i64 l)) :
    Calls Try.prog 33 #[.int .i64 1099511627777, .func (.func 34) #[] #[.pointer (some ⟨Bf, 0, none⟩), .pointer (some ⟨Bg, 0, none⟩)]] w fun e w' => e = .returned (.int .i64 M) ∧ Bl w w' := by
  have hBf := cell_lt c0
  have hBg := cell_lt c1
  have K := Lib.hid (fun (t : Int) (ht : tmB t = true) (w' : World) (g : Bl w w') => earliest1_any o p l t Bf Bg w' hc ht ((g.cell (p := ⟨Bf, 0, none⟩) hBf).trans c0) ((g.cell (p := ⟨Bg, 0, none⟩) hBg).trans c1))
  unfold fst at hM
  obtain ⟨L, hL⟩ : ∃ L, cel o p l = L := ⟨_, rfl⟩
  rw [hL] at hM
  have HL := Lib.hid hL
  have HM := Lib.hid hM
  clear hc hBf hBg c0 c1 hL hM
  go_enter Try.func33, Try.ntmps33
  go_wp2_with fail
  go_loopw [5, 6] (fun iv jv wr => ∃ i j : Nat, i ≤ j ∧ j ≤ 1099511627777 ∧ iv = .int .i64 i ∧ jv = .int .i64 j ∧ Hid (i ≤ M ∧ M ≤ j) ∧ Hid (Bl w wr)) (fun iv jv _ => (intOf jv).toNat - (intOf iv).toNat)
  case atStart => exact ⟨0, 1099511627777, by omega, by omega, rfl, rfl, by have h1 := HM.out; exact ⟨by omega, by omega⟩, Bl.refl _⟩
  case round =>
    obtain ⟨i, j, hij, hj, rfl, rfl, hI, hw⟩ := hrel
    by_cases hlt : i < j
    · obtain ⟨h, hh⟩ : ∃ h : Nat, (i + j) / 2 = h := ⟨_, rfl⟩
      have hh1 : i ≤ h := by omega
      have hh2 : h < j := by omega
      have hhI : ((i : Int) + (j : Int)) / 2 = (h : Int) := by omega
      have q0 : IntKind.i64.wrap ((i : Int) + (j : Int)) = (i : Int) + (j : Int) := IntWalk.i64_in _ (by omega)
      have q1 : IntKind.u64.wrap ((i : Int) + (j : Int)) = (i : Int) + (j : Int) := IntWalk.u64_in _ (by omega)
      have q2 : IntKind.i64.wrap (h : Int) = (h : Int) := IntWalk.i64_in _ (by omega)
      clear hh
      by_cases hc : L ≤ (h : Int)
      · have K1 := Lib.hid (show Calls Try.prog 34 #[.int .i64 (h : Int), .pointer (some ⟨Bf, 0, none⟩), .pointer (some ⟨Bg, 0, none⟩)] wr fun e w' => e = .returned (.bool true) ∧ Bl wr w' by
          have := K.out h (tmB_iff.2 (by omega)) wr hw.out
          rw [decide_eq_true (by rw [HL.out]; exact hc)] at this; exact this)
        have HC := Lib.hid hc
        clear hc
        go_wp2_with fail
        refine K1.out.mono ?_; rintro e w1 ⟨rfl, gr⟩
        have G := Lib.hid (hw.out.trans gr); clear gr
        go_wp2_with fail
        go_roundw
        case rel => exact ⟨i, h, by omega, by omega, rfl, rfl, by have h1 := HM.out; have h2 := hI.out; have h3 := HC.out; exact ⟨by omega, by omega⟩, G.out⟩
        case measure => simp [intOf]; omega
      · have K1 := Lib.hid (show Calls Try.prog 34 #[.int .i64 (h : Int), .pointer (some ⟨Bf, 0, none⟩), .pointer (some ⟨Bg, 0, none⟩)] wr fun e w' => e = .returned (.bool false) ∧ Bl wr w' by
          have := K.out h (tmB_iff.2 (by omega)) wr hw.out
          rw [decide_eq_false (by rw [HL.out]; exact hc)] at this; exact this)
        have HC := Lib.hid hc
        clear hc
        go_wp2_with fail
        refine K1.out.mono ?_; rintro e w1 ⟨rfl, gr⟩
        have G := Lib.hid (hw.out.trans gr); clear gr
        go_wp2_with fail
        go_roundw
        case rel => exact ⟨h + 1, j, by omega, by omega, by go_num, rfl, by have h1 := HM.out; have h2 := hI.out; have h3 := HC.out; exact ⟨by omega, by omega⟩, G.out⟩
        case measure => simp [intOf]; omega
    · go_wp2_with fail
      go_ret
      exact ⟨ret_int (by have := hI.out; omega), hw.out⟩

set_option maxHeartbeats 1000000 in
theorem earliest_any (o p l M : Int) (w : World) (hc : ckB o p = true) (hM : M = min (fst o p l) 1099511627777) :
    Calls Try.prog 29 #[.func (.func 26) #[.agg #[.int .i64 o, .int .i64 p]] #[], .int .i64 l] w fun e w' => e = .returned (.int .i64 M) ∧ Bl w w' := by
  have K := Lib.hid (fun Bf Bg w => csearch_any o p l M Bf Bg w hc hM)
  clear hc hM
  go_enter Try.func29, Try.ntmps29
  go_wp2_with fail
  refine (K.out _ _ _ (by simp [go_sem]) (by simp [go_sem])).mono ?_; rintro e w1 ⟨rfl, gr⟩
  go_wp2_with fail
  go_ret
  exact ⟨rfl, (((Bl.refl w).alloc _).alloc _).trans gr⟩

end Go.Proofs.Ytaekofoonekkkaa
