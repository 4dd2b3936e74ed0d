/-
  What Encode and Wire of the reference return.
-/
import Derived.Test.YtmhdgpmlconngaaFr
import Derived.Test.YtmhdgpmlconngaaFq
import Derived.Test.YtmhdgpmlconngaaFf
import Derived.Test.YtmhdgpmlconngaaFn
import Derived.Test.YtmhdgpmlconngaaKi
namespace Go.Proofs.Ytmhdgpmlconngaa
open Go.RowKit Go.Proofs.Ytmhdgpmlconngaa.Cr

/-- The number of octets of a string value. -/
def strLen : Value → Nat
  | .string s => s.size
  | _ => 0
theorem cop_more (s : ByteArray) (j : Nat) : s ++ cop 0 j ++ ⟨#[0]⟩ = s ++ cop 0 (j + 1) := by
  apply bytes_ext
  rw [app_list, app_list, app_list]
  unfold cop
  rw [bstr_list, bstr_list, List.append_assoc, List.replicate_succ']
theorem cop_none (s : ByteArray) : s ++ cop 0 0 = s := by
  apply bytes_ext
  rw [app_list]
  unfold cop
  rw [bstr_list, List.replicate_zero, List.append_nil]
theorem no_app (s : ByteArray) : noS ++ s = s := by
  apply bytes_ext
  rw [app_list]
  rfl
theorem app_seq (s : ByteArray) {n : Int} (h0 : 0 ≤ n) (h1 : n ≤ 65535) : s ++ ⟨#[241, 193, 0, 0]⟩ ++ be n 2 = s ++ be 61889 2 ++ be n 4 := by
  apply bytes_ext
  rw [app_list, app_list, app_list, app_list, be_seq h0 h1, be_lit2]
  simp only [List.append_assoc]
  rfl

set_option maxHeartbeats 8000000 in
theorem rencode_ok (f : Fr) (hf : Ok f) (w : World) :
    Calls Try.prog 12 #[f.v] w fun e w' => e = enR f ∧ Bl w w' := by
  have hB := ok_iff.2 hf
  have E := Lib.hid (enR_ok hB)
  have KR := Lib.hid (fun w => hB ▸ right_any f w)
  have hsz := hf.size
  have htl := hf.tl
  have z0 := b0_size f
  have z1 := b1_size f
  have z2 := b2_size f
  have z3 := b3_size f
  have zh := hdr_le f
  have hdst := hf.dst
  have hsrc := hf.src
  have hpv : f.tag = true → (0 ≤ f.prio ∧ f.prio ≤ 7) ∧ (0 ≤ f.vid ∧ f.vid ≤ 4094) := fun ht => by
    have h1 := hf.prio; have h2 := hf.vid; rw [ht] at h1 h2; exact ⟨h1, h2⟩
  have hpv2 : (0 ≤ f.prio ∧ f.prio ≤ 7) ∧ (0 ≤ f.vid ∧ f.vid ≤ 4094) := ⟨⟨hf.prio.1, Int.le_trans hf.prio.2 (ifs_le _ _ (by decide))⟩, hf.vid.1, Int.le_trans hf.vid.2 (ifs_le _ _ (by decide))⟩
  have hq : 0 ≤ f.seq ∧ f.seq ≤ 65535 := ⟨hf.seq.1, Int.le_trans hf.seq.2 (ifs_le _ _ (by decide))⟩
  have zz1 : (b1 f).size ≤ 16 := by split at z1 <;> omega
  have K1 := Lib.hid (fun w => rnumber_any f.dst 6 (K := 6) rfl (by decide) (by omega) w)
  have K2 := Lib.hid (fun w => rnumber_any f.src 6 (K := 6) rfl (by decide) (by omega) w)
  have K4 := Lib.hid (fun w => rnumber_any (f.prio * 8192 + f.vid) 2 (K := 2) rfl (by decide) (by omega) w)
  have K6 := Lib.hid (fun w => rnumber_any f.seq 2 (K := 2) rfl (by decide) (by omega) w)
  have K7 := Lib.hid (fun w => rnumber_any (tl f) 2 (K := 2) rfl (by decide) (by omega) w)
  have HT := Lib.hid (show ¬ f.typ = 0 → tl f = f.typ from fun h => if_neg h)
  have hT0 : f.typ = 0 → tl f = (f.data.size : Int) := fun h => if_pos h
  have hA0 : ∀ W : World, (Op.stringOp .add (be f.dst 6) (be f.src 6)).run Try.prog W = .ok (.string (b0 f)) W := fun W => by
    rw [run_string_add W _ _ (by rw [be_size]; decide) (by rw [be_size]; decide)]
    unfold b0
    rw [no_app]
  have ET := Lib.hid (fun (h : f.tag = true) => (⟨fun W => by rw [run_string_add W _ _ (by omega) (by decide), be_lit1], fun W => by rw [run_string_add W _ _ (by rw [ByteArray.size_append, be_size]; omega) (by rw [be_size]; decide), bod_tag h]⟩ :
    (∀ W : World, (Op.stringOp .add (b0 f) ⟨#[129, 0]⟩).run Try.prog W = .ok (.string (b0 f ++ be 33024 2)) W) ∧ (∀ W : World, (Op.stringOp .add (b0 f ++ be 33024 2) (be (f.prio * 8192 + f.vid) 2)).run Try.prog W = .ok (.string (b1 f)) W)))
  have EN := Lib.hid (fun h => bod_notag (f := f) h)
  have ER := Lib.hid (fun (h : f.red = true) => (⟨fun W => by rw [run_string_add W _ _ (by omega) (by decide)], fun W => by rw [run_string_add W _ _ (by rw [ByteArray.size_append, show (⟨#[241, 193, 0, 0]⟩ : ByteArray).size = 4 from rfl]; omega) (by rw [be_size]; decide), app_seq _ hq.1 hq.2, bod_red h]⟩ :
    (∀ W : World, (Op.stringOp .add (b1 f) ⟨#[241, 193, 0, 0]⟩).run Try.prog W = .ok (.string (b1 f ++ ⟨#[241, 193, 0, 0]⟩)) W) ∧ (∀ W : World, (Op.stringOp .add (b1 f ++ ⟨#[241, 193, 0, 0]⟩) (be f.seq 2)).run Try.prog W = .ok (.string (b2 f)) W)))
  have EM := Lib.hid (fun h => bod_nored (f := f) h)
  have hA5 : ∀ W : World, (Op.stringOp .add (b2 f) (be (tl f) 2)).run Try.prog W = .ok (.string (b2 f ++ be (tl f) 2)) W := fun W => run_string_add W _ _ (by omega) (by rw [be_size]; decide)
  have hA6 : ∀ W : World, (Op.stringOp .add (b2 f ++ be (tl f) 2) f.data).run Try.prog W = .ok (.string (b3 f)) W := fun W => run_string_add W _ _ (by rw [ByteArray.size_append, be_size]; omega) (by omega)
  have hz3 : (b3 f).size ≤ 1530 := by omega
  have HP := Lib.hid (fun j => cop_more (b3 f) j)
  have HZ := Lib.hid (cop_none (b3 f))
  have HE := Lib.hid (show b3 f ++ cop 0 (60 - (b3 f).size) = bod f from rfl)
  have KS := Lib.hid (fun w => rseal_any (bod f) (by have := hf.bod_le; omega) w)
  rw [show sealB (bod f) 0 = enc f from rfl] at KS
  clear z0 z1 z2 z3 zh zz1 hf hB htl hdst hsrc hpv2 hq
  generalize enR f = R at *
  generalize enc f = z at *
  generalize bod f = s9 at *
  generalize b3 f = s8 at *
  obtain ⟨d, s, t, p, v, r, q, y, x⟩ := f
  unfold Fr.v at *
  dsimp only at *
  generalize be d 6 = x1 at *
  generalize be s 6 = x2 at *
  generalize be (p * 8192 + v) 2 = x4 at *
  generalize be q 2 = x6 at *
  generalize hbe7 : be (tl _) 2 = x7 at *
  clear hbe7
  generalize b0 _ = s1 at *
  generalize s1 ++ be 33024 2 = s2 at *
  generalize b1 _ = s4 at *
  generalize s4 ++ (⟨#[241, 193, 0, 0]⟩ : ByteArray) = s5 at *
  generalize b2 _ = s6 at *
  generalize s6 ++ x7 = s7 at *
  generalize tl _ = y7 at *
  go_enter Try.func12, Try.ntmps12
  go_wp2_with fail
  have hc := n9_new w 23 d s p v q y t r x
  have hb : w.heap.size < (w.alloc (.cells #[.int .i64 d, .int .i64 s, .bool t, .int .i64 p, .int .i64 v, .bool r, .int .i64 q, .int .i64 y, .string x] 23)).heap.size := by simp
  have G0 := Lib.hid ((Bl.refl w).alloc (.cells #[.int .i64 d, .int .i64 s, .bool t, .int .i64 p, .int .i64 v, .bool r, .int .i64 q, .int .i64 y, .string x] 23))
  dsimp only at hc
  generalize w.heap.size = b at *
  generalize w.alloc (.cells #[.int .i64 d, .int .i64 s, .bool t, .int .i64 p, .int .i64 v, .bool r, .int .i64 q, .int .i64 y, .string x] 23) = W at *
  have HN := Lib.hid (fun (w' : World) (g : Bl W w') => n9_keep hb hc g)
  clear hc hb
  have GZ := Lib.hid (Bl.refl W)
  obtain ⟨k0, k1, k2, k3, k4, k5, k6, k7, k8, _⟩ := HN.out _ GZ.out
  go_wp2_with fail
  refine (KR.out _).mono ?_; rintro e wn ⟨rfl, hgr⟩
  replace GZ := Lib.hid (Bl.trans GZ.out hgr); clear hgr
  obtain ⟨k0, k1, k2, k3, k4, k5, k6, k7, k8, _⟩ := HN.out _ GZ.out
  go_wp2_with fail
  go_region_held3 (fun w' => w'.cell? ⟨b, 0, none⟩ = some (.int .i64 d) ∧ w'.cell? ⟨b, 1, none⟩ = some (.int .i64 s) ∧ w'.cell? ⟨b, 2, none⟩ = some (.bool t) ∧ w'.cell? ⟨b, 3, none⟩ = some (.int .i64 p) ∧ w'.cell? ⟨b, 4, none⟩ = some (.int .i64 v) ∧ w'.cell? ⟨b, 5, none⟩ = some (.bool r) ∧ w'.cell? ⟨b, 6, none⟩ = some (.int .i64 q) ∧ w'.cell? ⟨b, 7, none⟩ = some (.int .i64 y) ∧ w'.cell? ⟨b, 8, none⟩ = some (.string x) ∧ Hid (Bl W w')) (first | with_reducible assumption | exact HN.out _ GZ.out.drew | (refine HN.out _ ?_; with_reducible refine Bl.trans ?_ hgr; rename _ ∧ _ ∧ _ ∧ _ ∧ _ ∧ _ ∧ _ ∧ _ ∧ _ ∧ Hid (Bl W _) => hq; exact hq.2.2.2.2.2.2.2.2.2.out) | fail) (first | (go_at_call 31; (with_reducible refine (K1.out _).mono ?_); rintro e wn ⟨rfl, hgr⟩) | (go_at_call 31; (with_reducible refine (K2.out _).mono ?_); rintro e wn ⟨rfl, hgr⟩) | fail)
  rename _ ∧ _ ∧ _ ∧ _ ∧ _ ∧ _ ∧ _ ∧ _ ∧ _ ∧ Hid (Bl W _) => hz
  replace GZ := hz.2.2.2.2.2.2.2.2.2
  clear hz
  obtain ⟨k0, k1, k2, k3, k4, k5, k6, k7, k8, _⟩ := HN.out _ GZ.out
  cases t
  · obtain rfl := EN.out rfl
    clear EN ET
    cases r
    · obtain rfl := EM.out rfl
      clear EM ER K6
      by_cases hy : y = 0
      · subst hy
        have e7 := hT0 rfl
        rw [e7] at K7
        clear hT0 HT
        go_wp2_with fail
        with_reducible refine (K7.out _).mono ?_
        rintro e wn ⟨rfl, hgr⟩
        replace GZ := Lib.hid (Bl.trans GZ.out hgr); clear hgr
        obtain ⟨k0, k1, k2, k3, k4, k5, k6, k7, k8, _⟩ := HN.out _ GZ.out
        replace GZ := Lib.hid (Bl.trans G0.out GZ.out)
        go_wp2_with fail
        clear HN G0 k0 k1 k2 k3 k4 k5 k6 k7 k8
        go_loopw [4] (fun v wr => ∃ j : Nat, j ≤ 60 - s8.size ∧ v = .string (s8 ++ cop 0 j) ∧ Hid (Bl w wr)) (fun v _ => 60 - strLen v)
        case atStart => exact ⟨0, Nat.zero_le _, by rw [HZ.out], GZ⟩
        case round =>
          clear GZ
          obtain ⟨j, hj, rfl, G⟩ := hrel
          have hsj : (s8 ++ cop 0 j).size = s8.size + j := by rw [ByteArray.size_append, cop_size]
          by_cases hlt : s8.size + j < 60
          · have HS := Lib.hid (HP.out j)
            have hadd : ∀ W : World, (Op.stringOp .add (s8 ++ cop 0 j) ⟨#[0]⟩).run Try.prog W = .ok (.string (s8 ++ cop 0 (j + 1))) W := fun W => by rw [run_string_add W _ _ (by omega) (by decide), HS.out]
            have hs2 : (s8 ++ cop 0 (j + 1)).size = s8.size + (j + 1) := by rw [ByteArray.size_append, cop_size]
            generalize s8 ++ cop 0 j = u at *
            go_wp2
            go_roundw
            case rel => exact ⟨j + 1, by omega, rfl, G⟩
            case measure => simp only [strLen]; omega
          · obtain rfl : j = 60 - s8.size := by omega
            rw [HE.out] at hsj ⊢
            clear hj hlt
            go_wp2_with fail
            refine (KS.out _).mono ?_; rintro e wn ⟨rfl, hgr⟩
            replace G := Lib.hid (Bl.trans G.out hgr); clear hgr
            go_wp2_with fail
            go_ret2
            exact ⟨E.out, G.out⟩
      · have c0 : (y == 0) = false := beq_eq_false_iff_ne.2 hy
        have e7 := HT.out hy
        rw [e7] at K7
        clear HT hT0
        go_wp2_with fail
        with_reducible refine (K7.out _).mono ?_
        rintro e wn ⟨rfl, hgr⟩
        replace GZ := Lib.hid (Bl.trans GZ.out hgr); clear hgr
        obtain ⟨k0, k1, k2, k3, k4, k5, k6, k7, k8, _⟩ := HN.out _ GZ.out
        replace GZ := Lib.hid (Bl.trans G0.out GZ.out)
        go_wp2_with fail
        clear HN G0 k0 k1 k2 k3 k4 k5 k6 k7 k8
        go_loopw [4] (fun v wr => ∃ j : Nat, j ≤ 60 - s8.size ∧ v = .string (s8 ++ cop 0 j) ∧ Hid (Bl w wr)) (fun v _ => 60 - strLen v)
        case atStart => exact ⟨0, Nat.zero_le _, by rw [HZ.out], GZ⟩
        case round =>
          clear GZ
          obtain ⟨j, hj, rfl, G⟩ := hrel
          have hsj : (s8 ++ cop 0 j).size = s8.size + j := by rw [ByteArray.size_append, cop_size]
          by_cases hlt : s8.size + j < 60
          · have HS := Lib.hid (HP.out j)
            have hadd : ∀ W : World, (Op.stringOp .add (s8 ++ cop 0 j) ⟨#[0]⟩).run Try.prog W = .ok (.string (s8 ++ cop 0 (j + 1))) W := fun W => by rw [run_string_add W _ _ (by omega) (by decide), HS.out]
            have hs2 : (s8 ++ cop 0 (j + 1)).size = s8.size + (j + 1) := by rw [ByteArray.size_append, cop_size]
            generalize s8 ++ cop 0 j = u at *
            go_wp2
            go_roundw
            case rel => exact ⟨j + 1, by omega, rfl, G⟩
            case measure => simp only [strLen]; omega
          · obtain rfl : j = 60 - s8.size := by omega
            rw [HE.out] at hsj ⊢
            clear hj hlt
            go_wp2_with fail
            refine (KS.out _).mono ?_; rintro e wn ⟨rfl, hgr⟩
            replace G := Lib.hid (Bl.trans G.out hgr); clear hgr
            go_wp2_with fail
            go_ret2
            exact ⟨E.out, G.out⟩
    · obtain ⟨hA3, hA4⟩ := ER.out rfl
      clear EM ER
      go_wp2_with fail
      refine (K6.out _).mono ?_; rintro e wn ⟨rfl, hgr⟩
      replace GZ := Lib.hid (Bl.trans GZ.out hgr); clear hgr
      obtain ⟨k0, k1, k2, k3, k4, k5, k6, k7, k8, _⟩ := HN.out _ GZ.out
      by_cases hy : y = 0
      · subst hy
        have e7 := hT0 rfl
        rw [e7] at K7
        clear hT0 HT
        go_wp2_with fail
        with_reducible refine (K7.out _).mono ?_
        rintro e wn ⟨rfl, hgr⟩
        replace GZ := Lib.hid (Bl.trans GZ.out hgr); clear hgr
        obtain ⟨k0, k1, k2, k3, k4, k5, k6, k7, k8, _⟩ := HN.out _ GZ.out
        replace GZ := Lib.hid (Bl.trans G0.out GZ.out)
        go_wp2_with fail
        clear HN G0 k0 k1 k2 k3 k4 k5 k6 k7 k8
        go_loopw [4] (fun v wr => ∃ j : Nat, j ≤ 60 - s8.size ∧ v = .string (s8 ++ cop 0 j) ∧ Hid (Bl w wr)) (fun v _ => 60 - strLen v)
        case atStart => exact ⟨0, Nat.zero_le _, by rw [HZ.out], GZ⟩
        case round =>
          clear GZ
          obtain ⟨j, hj, rfl, G⟩ := hrel
          have hsj : (s8 ++ cop 0 j).size = s8.size + j := by rw [ByteArray.size_append, cop_size]
          by_cases hlt : s8.size + j < 60
          · have HS := Lib.hid (HP.out j)
            have hadd : ∀ W : World, (Op.stringOp .add (s8 ++ cop 0 j) ⟨#[0]⟩).run Try.prog W = .ok (.string (s8 ++ cop 0 (j + 1))) W := fun W => by rw [run_string_add W _ _ (by omega) (by decide), HS.out]
            have hs2 : (s8 ++ cop 0 (j + 1)).size = s8.size + (j + 1) := by rw [ByteArray.size_append, cop_size]
            generalize s8 ++ cop 0 j = u at *
            go_wp2
            go_roundw
            case rel => exact ⟨j + 1, by omega, rfl, G⟩
            case measure => simp only [strLen]; omega
          · obtain rfl : j = 60 - s8.size := by omega
            rw [HE.out] at hsj ⊢
            clear hj hlt
            go_wp2_with fail
            refine (KS.out _).mono ?_; rintro e wn ⟨rfl, hgr⟩
            replace G := Lib.hid (Bl.trans G.out hgr); clear hgr
            go_wp2_with fail
            go_ret2
            exact ⟨E.out, G.out⟩
      · have c0 : (y == 0) = false := beq_eq_false_iff_ne.2 hy
        have e7 := HT.out hy
        rw [e7] at K7
        clear HT hT0
        go_wp2_with fail
        with_reducible refine (K7.out _).mono ?_
        rintro e wn ⟨rfl, hgr⟩
        replace GZ := Lib.hid (Bl.trans GZ.out hgr); clear hgr
        obtain ⟨k0, k1, k2, k3, k4, k5, k6, k7, k8, _⟩ := HN.out _ GZ.out
        replace GZ := Lib.hid (Bl.trans G0.out GZ.out)
        go_wp2_with fail
        clear HN G0 k0 k1 k2 k3 k4 k5 k6 k7 k8
        go_loopw [4] (fun v wr => ∃ j : Nat, j ≤ 60 - s8.size ∧ v = .string (s8 ++ cop 0 j) ∧ Hid (Bl w wr)) (fun v _ => 60 - strLen v)
        case atStart => exact ⟨0, Nat.zero_le _, by rw [HZ.out], GZ⟩
        case round =>
          clear GZ
          obtain ⟨j, hj, rfl, G⟩ := hrel
          have hsj : (s8 ++ cop 0 j).size = s8.size + j := by rw [ByteArray.size_append, cop_size]
          by_cases hlt : s8.size + j < 60
          · have HS := Lib.hid (HP.out j)
            have hadd : ∀ W : World, (Op.stringOp .add (s8 ++ cop 0 j) ⟨#[0]⟩).run Try.prog W = .ok (.string (s8 ++ cop 0 (j + 1))) W := fun W => by rw [run_string_add W _ _ (by omega) (by decide), HS.out]
            have hs2 : (s8 ++ cop 0 (j + 1)).size = s8.size + (j + 1) := by rw [ByteArray.size_append, cop_size]
            generalize s8 ++ cop 0 j = u at *
            go_wp2
            go_roundw
            case rel => exact ⟨j + 1, by omega, rfl, G⟩
            case measure => simp only [strLen]; omega
          · obtain rfl : j = 60 - s8.size := by omega
            rw [HE.out] at hsj ⊢
            clear hj hlt
            go_wp2_with fail
            refine (KS.out _).mono ?_; rintro e wn ⟨rfl, hgr⟩
            replace G := Lib.hid (Bl.trans G.out hgr); clear hgr
            go_wp2_with fail
            go_ret2
            exact ⟨E.out, G.out⟩
  · obtain ⟨hA1, hA2⟩ := ET.out rfl
    obtain ⟨⟨p0, p7⟩, v0, v7⟩ := hpv rfl
    have w1 : IntKind.i64.wrap (p * 8192) = p * 8192 := IntWalk.i64_in _ (by omega)
    have w2 : IntKind.i64.wrap (p * 8192 + v) = p * 8192 + v := IntWalk.i64_in _ (by omega)
    clear EN ET
    go_wp2_with fail
    refine (K4.out _).mono ?_; rintro e wn ⟨rfl, hgr⟩
    replace GZ := Lib.hid (Bl.trans GZ.out hgr); clear hgr
    obtain ⟨k0, k1, k2, k3, k4, k5, k6, k7, k8, _⟩ := HN.out _ GZ.out
    cases r
    · obtain rfl := EM.out rfl
      clear EM ER K6
      by_cases hy : y = 0
      · subst hy
        have e7 := hT0 rfl
        rw [e7] at K7
        clear hT0 HT
        go_wp2_with fail
        with_reducible refine (K7.out _).mono ?_
        rintro e wn ⟨rfl, hgr⟩
        replace GZ := Lib.hid (Bl.trans GZ.out hgr); clear hgr
        obtain ⟨k0, k1, k2, k3, k4, k5, k6, k7, k8, _⟩ := HN.out _ GZ.out
        replace GZ := Lib.hid (Bl.trans G0.out GZ.out)
        go_wp2_with fail
        clear HN G0 k0 k1 k2 k3 k4 k5 k6 k7 k8
        go_loopw [4] (fun v wr => ∃ j : Nat, j ≤ 60 - s8.size ∧ v = .string (s8 ++ cop 0 j) ∧ Hid (Bl w wr)) (fun v _ => 60 - strLen v)
        case atStart => exact ⟨0, Nat.zero_le _, by rw [HZ.out], GZ⟩
        case round =>
          clear GZ
          obtain ⟨j, hj, rfl, G⟩ := hrel
          have hsj : (s8 ++ cop 0 j).size = s8.size + j := by rw [ByteArray.size_append, cop_size]
          by_cases hlt : s8.size + j < 60
          · have HS := Lib.hid (HP.out j)
            have hadd : ∀ W : World, (Op.stringOp .add (s8 ++ cop 0 j) ⟨#[0]⟩).run Try.prog W = .ok (.string (s8 ++ cop 0 (j + 1))) W := fun W => by rw [run_string_add W _ _ (by omega) (by decide), HS.out]
            have hs2 : (s8 ++ cop 0 (j + 1)).size = s8.size + (j + 1) := by rw [ByteArray.size_append, cop_size]
            generalize s8 ++ cop 0 j = u at *
            go_wp2
            go_roundw
            case rel => exact ⟨j + 1, by omega, rfl, G⟩
            case measure => simp only [strLen]; omega
          · obtain rfl : j = 60 - s8.size := by omega
            rw [HE.out] at hsj ⊢
            clear hj hlt
            go_wp2_with fail
            refine (KS.out _).mono ?_; rintro e wn ⟨rfl, hgr⟩
            replace G := Lib.hid (Bl.trans G.out hgr); clear hgr
            go_wp2_with fail
            go_ret2
            exact ⟨E.out, G.out⟩
      · have c0 : (y == 0) = false := beq_eq_false_iff_ne.2 hy
        have e7 := HT.out hy
        rw [e7] at K7
        clear HT hT0
        go_wp2_with fail
        with_reducible refine (K7.out _).mono ?_
        rintro e wn ⟨rfl, hgr⟩
        replace GZ := Lib.hid (Bl.trans GZ.out hgr); clear hgr
        obtain ⟨k0, k1, k2, k3, k4, k5, k6, k7, k8, _⟩ := HN.out _ GZ.out
        replace GZ := Lib.hid (Bl.trans G0.out GZ.out)
        go_wp2_with fail
        clear HN G0 k0 k1 k2 k3 k4 k5 k6 k7 k8
        go_loopw [4] (fun v wr => ∃ j : Nat, j ≤ 60 - s8.size ∧ v = .string (s8 ++ cop 0 j) ∧ Hid (Bl w wr)) (fun v _ => 60 - strLen v)
        case atStart => exact ⟨0, Nat.zero_le _, by rw [HZ.out], GZ⟩
        case round =>
          clear GZ
          obtain ⟨j, hj, rfl, G⟩ := hrel
          have hsj : (s8 ++ cop 0 j).size = s8.size + j := by rw [ByteArray.size_append, cop_size]
          by_cases hlt : s8.size + j < 60
          · have HS := Lib.hid (HP.out j)
            have hadd : ∀ W : World, (Op.stringOp .add (s8 ++ cop 0 j) ⟨#[0]⟩).run Try.prog W = .ok (.string (s8 ++ cop 0 (j + 1))) W := fun W => by rw [run_string_add W _ _ (by omega) (by decide), HS.out]
            have hs2 : (s8 ++ cop 0 (j + 1)).size = s8.size + (j + 1) := by rw [ByteArray.size_append, cop_size]
            generalize s8 ++ cop 0 j = u at *
            go_wp2
            go_roundw
            case rel => exact ⟨j + 1, by omega, rfl, G⟩
            case measure => simp only [strLen]; omega
          · obtain rfl : j = 60 - s8.size := by omega
            rw [HE.out] at hsj ⊢
            clear hj hlt
            go_wp2_with fail
            refine (KS.out _).mono ?_; rintro e wn ⟨rfl, hgr⟩
            replace G := Lib.hid (Bl.trans G.out hgr); clear hgr
            go_wp2_with fail
            go_ret2
            exact ⟨E.out, G.out⟩
    · obtain ⟨hA3, hA4⟩ := ER.out rfl
      clear EM ER
      go_wp2_with fail
      refine (K6.out _).mono ?_; rintro e wn ⟨rfl, hgr⟩
      replace GZ := Lib.hid (Bl.trans GZ.out hgr); clear hgr
      obtain ⟨k0, k1, k2, k3, k4, k5, k6, k7, k8, _⟩ := HN.out _ GZ.out
      by_cases hy : y = 0
      · subst hy
        have e7 := hT0 rfl
        rw [e7] at K7
        clear hT0 HT
        go_wp2_with fail
        with_reducible refine (K7.out _).mono ?_
        rintro e wn ⟨rfl, hgr⟩
        replace GZ := Lib.hid (Bl.trans GZ.out hgr); clear hgr
        obtain ⟨k0, k1, k2, k3, k4, k5, k6, k7, k8, _⟩ := HN.out _ GZ.out
        replace GZ := Lib.hid (Bl.trans G0.out GZ.out)
        go_wp2_with fail
        clear HN G0 k0 k1 k2 k3 k4 k5 k6 k7 k8
        go_loopw [4] (fun v wr => ∃ j : Nat, j ≤ 60 - s8.size ∧ v = .string (s8 ++ cop 0 j) ∧ Hid (Bl w wr)) (fun v _ => 60 - strLen v)
        case atStart => exact ⟨0, Nat.zero_le _, by rw [HZ.out], GZ⟩
        case round =>
          clear GZ
          obtain ⟨j, hj, rfl, G⟩ := hrel
          have hsj : (s8 ++ cop 0 j).size = s8.size + j := by rw [ByteArray.size_append, cop_size]
          by_cases hlt : s8.size + j < 60
          · have HS := Lib.hid (HP.out j)
            have hadd : ∀ W : World, (Op.stringOp .add (s8 ++ cop 0 j) ⟨#[0]⟩).run Try.prog W = .ok (.string (s8 ++ cop 0 (j + 1))) W := fun W => by rw [run_string_add W _ _ (by omega) (by decide), HS.out]
            have hs2 : (s8 ++ cop 0 (j + 1)).size = s8.size + (j + 1) := by rw [ByteArray.size_append, cop_size]
            generalize s8 ++ cop 0 j = u at *
            go_wp2
            go_roundw
            case rel => exact ⟨j + 1, by omega, rfl, G⟩
            case measure => simp only [strLen]; omega
          · obtain rfl : j = 60 - s8.size := by omega
            rw [HE.out] at hsj ⊢
            clear hj hlt
            go_wp2_with fail
            refine (KS.out _).mono ?_; rintro e wn ⟨rfl, hgr⟩
            replace G := Lib.hid (Bl.trans G.out hgr); clear hgr
            go_wp2_with fail
            go_ret2
            exact ⟨E.out, G.out⟩
      · have c0 : (y == 0) = false := beq_eq_false_iff_ne.2 hy
        have e7 := HT.out hy
        rw [e7] at K7
        clear HT hT0
        go_wp2_with fail
        with_reducible refine (K7.out _).mono ?_
        rintro e wn ⟨rfl, hgr⟩
        replace GZ := Lib.hid (Bl.trans GZ.out hgr); clear hgr
        obtain ⟨k0, k1, k2, k3, k4, k5, k6, k7, k8, _⟩ := HN.out _ GZ.out
        replace GZ := Lib.hid (Bl.trans G0.out GZ.out)
        go_wp2_with fail
        clear HN G0 k0 k1 k2 k3 k4 k5 k6 k7 k8
        go_loopw [4] (fun v wr => ∃ j : Nat, j ≤ 60 - s8.size ∧ v = .string (s8 ++ cop 0 j) ∧ Hid (Bl w wr)) (fun v _ => 60 - strLen v)
        case atStart => exact ⟨0, Nat.zero_le _, by rw [HZ.out], GZ⟩
        case round =>
          clear GZ
          obtain ⟨j, hj, rfl, G⟩ := hrel
          have hsj : (s8 ++ cop 0 j).size = s8.size + j := by rw [ByteArray.size_append, cop_size]
          by_cases hlt : s8.size + j < 60
          · have HS := Lib.hid (HP.out j)
            have hadd : ∀ W : World, (Op.stringOp .add (s8 ++ cop 0 j) ⟨#[0]⟩).run Try.prog W = .ok (.string (s8 ++ cop 0 (j + 1))) W := fun W => by rw [run_string_add W _ _ (by omega) (by decide), HS.out]
            have hs2 : (s8 ++ cop 0 (j + 1)).size = s8.size + (j + 1) := by rw [ByteArray.size_append, cop_size]
            generalize s8 ++ cop 0 j = u at *
            go_wp2
            go_roundw
            case rel => exact ⟨j + 1, by omega, rfl, G⟩
            case measure => simp only [strLen]; omega
          · obtain rfl : j = 60 - s8.size := by omega
            rw [HE.out] at hsj ⊢
            clear hj hlt
            go_wp2_with fail
            refine (KS.out _).mono ?_; rintro e wn ⟨rfl, hgr⟩
            replace G := Lib.hid (Bl.trans G.out hgr); clear hgr
            go_wp2_with fail
            go_ret2
            exact ⟨E.out, G.out⟩
theorem rencode_any (f : Fr) (w : World) :
    Calls Try.prog 12 #[f.v] w fun e w' => e = enR f ∧ Bl w w' := by
  rcases bcase (okB f) with h | h
  · exact rencode_ok f (ok_iff.1 h) w
  · have KR := Lib.hid (fun w => h ▸ right_any f w)
    have E := Lib.hid (enR_no h)
    clear h
    generalize enR f = R at *
    obtain ⟨d, s, t, p, v, r, q, y, x⟩ := f
    unfold Fr.v at *
    go_enter Try.func12, Try.ntmps12
    go_wp2_with fail
    refine (KR.out _).mono ?_; rintro e wn ⟨rfl, hgr⟩
    have G := Lib.hid (Bl.trans ((Bl.refl w).alloc _) hgr); clear hgr
    go_wp2_with fail
    go_ret2
    exact ⟨E.out, G.out⟩

theorem rwire_any (f : Fr) (w : World) :
    Calls Try.prog 14 #[f.v] w fun e w' => e = wiR f ∧ Bl w w' := by
  have KE := Lib.hid (fun w => rencode_any f w)
  unfold enR at KE
  rcases bcase (okB f) with h | h
  · have E := Lib.hid (wiR_ok h)
    have hb := (ok_iff.1 h).bod_le
    have he := enc_size f
    have hS : enS f = enc f := by unfold enS; rw [h]; rfl
    rw [hS, chE_t h] at KE
    have hw : IntKind.i64.wrap (((enc f).size : Int) + 20) = ((enc f).size : Int) + 20 := IntWalk.i64_in _ (by omega)
    clear h hS
    generalize wiR f = R at *
    generalize enc f = z at *
    generalize bod f = u at *
    obtain ⟨d, s, t, p, v, r, q, y, x⟩ := f
    unfold Fr.v at *
    go_enter Try.func14, Try.ntmps14
    go_wp2_with fail
    refine (KE.out _).mono ?_; rintro e wn ⟨rfl, hgr⟩
    have G := Lib.hid (Bl.trans ((Bl.refl w).alloc _) hgr); clear hgr
    go_wp2_with fail
    go_ret2
    exact ⟨by rw [← E.out]; congr 4 <;> omega, G.out⟩
  · have E := Lib.hid (wiR_no h)
    have hS : enS f = noS := by unfold enS; rw [h]; rfl
    rw [hS, chE_f h] at KE
    unfold noS at KE
    clear h hS
    generalize wiR f = R at *
    obtain ⟨d, s, t, p, v, r, q, y, x⟩ := f
    unfold Fr.v at *
    go_enter Try.func14, Try.ntmps14
    go_wp2_with fail
    refine (KE.out _).mono ?_; rintro e wn ⟨rfl, hgr⟩
    have G := Lib.hid (Bl.trans ((Bl.refl w).alloc _) hgr); clear hgr
    go_wp2_with fail
    go_ret2
    exact ⟨E.out, G.out⟩

end Go.Proofs.Ytmhdgpmlconngaa
