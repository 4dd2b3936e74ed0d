/-
  FrameDamage: an encoding of which some of 32 consecutive bits have been changed is not decoded.
-/
import Derived.Test.YtmhdgpmlconngaaGa
namespace Go.Proofs.Ytmhdgpmlconngaa
open Go.RowKit Go.Proofs.Ytmhdgpmlconngaa.Cr

theorem box_keep (w w' : World) (a b l g k q : Nat) (x : ByteArray) (t : TypeId) (h : Bl (w.alloc (.cells #[.int .u16 (a : Int), .int .u16 (b : Int), .int .u16 (l : Int), .int .u8 (g : Int), .int .u8 (k : Int), .int .u16 (q : Int), .string x] t)) w') :
    Bl w w' ∧ w'.cell? ⟨w.heap.size, 0, none⟩ = some (.int .u16 (a : Int)) ∧ w'.cell? ⟨w.heap.size, 1, none⟩ = some (.int .u16 (b : Int)) ∧ w'.cell? ⟨w.heap.size, 2, none⟩ = some (.int .u16 (l : Int)) ∧ w'.cell? ⟨w.heap.size, 3, none⟩ = some (.int .u8 (g : Int)) ∧ w'.cell? ⟨w.heap.size, 4, none⟩ = some (.int .u8 (k : Int)) ∧ w'.cell? ⟨w.heap.size, 5, none⟩ = some (.int .u16 (q : Int)) ∧ w'.cell? ⟨w.heap.size, 6, none⟩ = some (.string x) := by
  have hl : ∀ i, (⟨w.heap.size, i, none⟩ : Addr).block < (w.alloc (.cells #[.int .u16 (a : Int), .int .u16 (b : Int), .int .u16 (l : Int), .int .u8 (g : Int), .int .u8 (k : Int), .int .u16 (q : Int), .string x] t)).heap.size := fun i => by simp
  exact ⟨((Bl.refl w).alloc _).trans h, (h.cell (hl 0)).trans (by simp [go_sem]), (h.cell (hl 1)).trans (by simp [go_sem]), (h.cell (hl 2)).trans (by simp [go_sem]), (h.cell (hl 3)).trans (by simp [go_sem]), (h.cell (hl 4)).trans (by simp [go_sem]), (h.cell (hl 5)).trans (by simp [go_sem]), (h.cell (hl 6)).trans (by simp [go_sem])⟩
theorem mod_size (a n : Nat) (hn : 0 < n) : ∃ A : Nat, (a : Int) % (8 * (n : Int)) = (A : Int) ∧ A < 8 * n := by
  refine ⟨a % (8 * n), ?_, Nat.mod_lt _ (by omega)⟩
  rw [Int.natCast_emod, Int.natCast_mul]
  rfl
set_option maxRecDepth 20000 in
set_option maxHeartbeats 4000000 in
theorem damage_law (a b l g k q : Nat) (x : ByteArray) (n pt : Nat) (ha : a < 65536) (hb : b < 65536) (hl : l < 65536) (hg : g < 256) (hk : k < 256) (hq : q < 65536) (hx : x.size ≤ maxLen) (hn : n < 65536) (hpt : pt < 4294967296) (w : World) :
    Calls Try.prog 7 #[dfV a b l g k q x, .int .u16 (n : Int), .int .u32 (pt : Int)] w fun e w' => e = .returned (.bool true) ∧ Bl w w' := by
  have KW := Lib.hid (fun w => works_any w)
  have KF := Lib.hid (fun w => draft_any a b l g k q x ha hb hl hg hk hq hx w)
  have HB := Lib.hid (fun (w w' : World) (g2 : Bl (w.alloc (.cells #[.int .u16 (a : Int), .int .u16 (b : Int), .int .u16 (l : Int), .int .u8 (g : Int), .int .u8 (k : Int), .int .u16 (q : Int), .string x] 26)) w') => box_keep w w' a b l g k q x 26 g2)
  clear hx
  unfold dfV at *
  go_enter Try.func7, Try.ntmps7
  go_wp2_with fail
  refine (KW.out _).mono ?_; rintro e wn ⟨rfl, hgr⟩
  obtain ⟨hG, x0, x1, x2, x3, x4, x5, x6⟩ := HB.out _ _ hgr
  have G := Lib.hid hG
  clear hgr hG HB KW
  go_wp2_with fail
  refine (KF.out _).mono ?_; rintro e wn ⟨⟨f, hf, rfl⟩, hgr⟩
  replace G := Lib.hid (Bl.trans G.out hgr)
  clear hgr x0 x1 x2 x3 x4 x5 x6 KF
  have hbo := hf.bod_le
  have hb2 := bod_size f
  have hes := enc_size f
  have KE := Lib.hid (fun w => (enR_s (ok_iff.2 hf)) ▸ encode_any f w)
  obtain ⟨A, hA, hA1⟩ := mod_size n (enc f).size (by omega)
  have hz1 : ((enc f).size : Int) ≤ 1522 := by omega
  have hz2 : (64 : Int) ≤ ((enc f).size : Int) := by omega
  have hw8 : IntKind.i64.wrap (8 * ((enc f).size : Int)) = 8 * ((enc f).size : Int) := IntWalk.i64_in _ (by omega)
  have hd0 : ¬ 8 * ((enc f).size : Int) = 0 := by omega
  have htm : (n : Int).tmod (8 * ((enc f).size : Int)) = (A : Int) := by rw [Int.tmod_eq_emod_of_nonneg (by omega)]; exact hA
  obtain ⟨i, hI, hi⟩ : ∃ i : Nat, (A : Int) / 8 = (i : Int) ∧ i ≤ (enc f).size := ⟨A / 8, by omega, by omega⟩
  have hIt : (A : Int).tdiv 8 = (i : Int) := by rw [Int.tdiv_eq_ediv_of_nonneg (by omega)]; exact hI
  have hi' : (i : Int) ≤ ((enc f).size : Int) := by omega
  have KT := Lib.hid (fun w => flip_any (enc f) A pt (by omega) hA1 hpt w)
  rw [show bstr (Cr.flip (enc f).data.toList A pt 32) = fp (enc f) A pt from rfl] at KT
  unfold Go.Proofs.Ytmhdgpmlconngaa.u32 at KT
  have h64 : 4 ≤ (enc f).size := by omega
  clear hbo hb2 hes
  by_cases hne : fp (enc f) A pt = enc f
  · rw [hne] at KT
    clear hne
    cases hC : dec ((enc f).extract 0 i) with
    | none =>
      have MC := Lib.hid (fun w => malformed_t ((enc f).extract 0 i) (by rw [ByteArray.size_extract]; omega) hC w)
      clear hC
      cases hX : dec (enc f ++ (⟨#[120]⟩ : ByteArray)) with
      | none =>
        have MX := Lib.hid (fun w => malformed_t (enc f ++ (⟨#[120]⟩ : ByteArray)) (by rw [ByteArray.size_append, show (⟨#[120]⟩ : ByteArray).size = 1 from rfl]; omega) hX w)
        clear hX
        have hadd : ∀ W : World, (Op.stringOp .add (enc f) ⟨#[120]⟩).run Try.prog W = .ok (.string (enc f ++ ⟨#[120]⟩)) W := fun W => run_string_add W _ _ (by omega) (by decide)
        generalize enc f ++ (⟨#[120]⟩ : ByteArray) = zx at *
        generalize hzc : (enc f).extract 0 i = zc at *
        go_wp2_with fail
        refine (KE.out _).mono ?_; rintro e wn ⟨rfl, hgr⟩
        replace G := Lib.hid (Bl.trans G.out hgr); clear hgr
        go_wp2_with fail
        refine (KT.out _).mono ?_; rintro e wn ⟨rfl, hgr⟩
        replace G := Lib.hid (Bl.trans G.out hgr); clear hgr
        go_wp2_with fail
        refine (MC.out _).mono ?_; rintro e wn ⟨rfl, hgr⟩
        replace G := Lib.hid (Bl.trans G.out hgr); clear hgr
        go_wp2_with fail
        refine (MX.out _).mono ?_; rintro e wn ⟨rfl, hgr⟩
        replace G := Lib.hid (Bl.trans G.out hgr); clear hgr
        go_wp2_with fail
        go_ret
        exact ⟨rfl, G.out⟩
      | some fX =>
        have MX := Lib.hid (fun w => malformed_f (enc f ++ (⟨#[120]⟩ : ByteArray)) (by rw [ByteArray.size_append, show (⟨#[120]⟩ : ByteArray).size = 1 from rfl]; omega) hX w)
        have NX := Lib.hid (fun w => (dec_good hX) ▸ good_any (enc f ++ (⟨#[120]⟩ : ByteArray)) (by rw [ByteArray.size_append, show (⟨#[120]⟩ : ByteArray).size = 1 from rfl]; omega) w)
        clear hX
        have hadd : ∀ W : World, (Op.stringOp .add (enc f) ⟨#[120]⟩).run Try.prog W = .ok (.string (enc f ++ ⟨#[120]⟩)) W := fun W => run_string_add W _ _ (by omega) (by decide)
        generalize enc f ++ (⟨#[120]⟩ : ByteArray) = zx at *
        generalize hzc : (enc f).extract 0 i = zc at *
        go_wp2_with fail
        refine (KE.out _).mono ?_; rintro e wn ⟨rfl, hgr⟩
        replace G := Lib.hid (Bl.trans G.out hgr); clear hgr
        go_wp2_with fail
        refine (KT.out _).mono ?_; rintro e wn ⟨rfl, hgr⟩
        replace G := Lib.hid (Bl.trans G.out hgr); clear hgr
        go_wp2_with fail
        refine (MC.out _).mono ?_; rintro e wn ⟨rfl, hgr⟩
        replace G := Lib.hid (Bl.trans G.out hgr); clear hgr
        go_wp2_with fail
        refine (MX.out _).mono ?_; rintro e wn ⟨rfl, hgr⟩
        replace G := Lib.hid (Bl.trans G.out hgr); clear hgr
        go_wp2_with fail
        refine (NX.out _).mono ?_; rintro e wn ⟨rfl, hgr⟩
        replace G := Lib.hid (Bl.trans G.out hgr); clear hgr
        go_wp2_with fail
        go_ret
        exact ⟨rfl, G.out⟩
    | some fC =>
      have MC := Lib.hid (fun w => malformed_f ((enc f).extract 0 i) (by rw [ByteArray.size_extract]; omega) hC w)
      have NC := Lib.hid (fun w => (dec_good hC) ▸ good_any ((enc f).extract 0 i) (by rw [ByteArray.size_extract]; omega) w)
      clear hC
      cases hX : dec (enc f ++ (⟨#[120]⟩ : ByteArray)) with
      | none =>
        have MX := Lib.hid (fun w => malformed_t (enc f ++ (⟨#[120]⟩ : ByteArray)) (by rw [ByteArray.size_append, show (⟨#[120]⟩ : ByteArray).size = 1 from rfl]; omega) hX w)
        clear hX
        have hadd : ∀ W : World, (Op.stringOp .add (enc f) ⟨#[120]⟩).run Try.prog W = .ok (.string (enc f ++ ⟨#[120]⟩)) W := fun W => run_string_add W _ _ (by omega) (by decide)
        generalize enc f ++ (⟨#[120]⟩ : ByteArray) = zx at *
        generalize hzc : (enc f).extract 0 i = zc at *
        go_wp2_with fail
        refine (KE.out _).mono ?_; rintro e wn ⟨rfl, hgr⟩
        replace G := Lib.hid (Bl.trans G.out hgr); clear hgr
        go_wp2_with fail
        refine (KT.out _).mono ?_; rintro e wn ⟨rfl, hgr⟩
        replace G := Lib.hid (Bl.trans G.out hgr); clear hgr
        go_wp2_with fail
        refine (MC.out _).mono ?_; rintro e wn ⟨rfl, hgr⟩
        replace G := Lib.hid (Bl.trans G.out hgr); clear hgr
        go_wp2_with fail
        refine (NC.out _).mono ?_; rintro e wn ⟨rfl, hgr⟩
        replace G := Lib.hid (Bl.trans G.out hgr); clear hgr
        go_wp2_with fail
        refine (MX.out _).mono ?_; rintro e wn ⟨rfl, hgr⟩
        replace G := Lib.hid (Bl.trans G.out hgr); clear hgr
        go_wp2_with fail
        go_ret
        exact ⟨rfl, G.out⟩
      | some fX =>
        have MX := Lib.hid (fun w => malformed_f (enc f ++ (⟨#[120]⟩ : ByteArray)) (by rw [ByteArray.size_append, show (⟨#[120]⟩ : ByteArray).size = 1 from rfl]; omega) hX w)
        have NX := Lib.hid (fun w => (dec_good hX) ▸ good_any (enc f ++ (⟨#[120]⟩ : ByteArray)) (by rw [ByteArray.size_append, show (⟨#[120]⟩ : ByteArray).size = 1 from rfl]; omega) w)
        clear hX
        have hadd : ∀ W : World, (Op.stringOp .add (enc f) ⟨#[120]⟩).run Try.prog W = .ok (.string (enc f ++ ⟨#[120]⟩)) W := fun W => run_string_add W _ _ (by omega) (by decide)
        generalize enc f ++ (⟨#[120]⟩ : ByteArray) = zx at *
        generalize hzc : (enc f).extract 0 i = zc at *
        go_wp2_with fail
        refine (KE.out _).mono ?_; rintro e wn ⟨rfl, hgr⟩
        replace G := Lib.hid (Bl.trans G.out hgr); clear hgr
        go_wp2_with fail
        refine (KT.out _).mono ?_; rintro e wn ⟨rfl, hgr⟩
        replace G := Lib.hid (Bl.trans G.out hgr); clear hgr
        go_wp2_with fail
        refine (MC.out _).mono ?_; rintro e wn ⟨rfl, hgr⟩
        replace G := Lib.hid (Bl.trans G.out hgr); clear hgr
        go_wp2_with fail
        refine (NC.out _).mono ?_; rintro e wn ⟨rfl, hgr⟩
        replace G := Lib.hid (Bl.trans G.out hgr); clear hgr
        go_wp2_with fail
        refine (MX.out _).mono ?_; rintro e wn ⟨rfl, hgr⟩
        replace G := Lib.hid (Bl.trans G.out hgr); clear hgr
        go_wp2_with fail
        refine (NX.out _).mono ?_; rintro e wn ⟨rfl, hgr⟩
        replace G := Lib.hid (Bl.trans G.out hgr); clear hgr
        go_wp2_with fail
        go_ret
        exact ⟨rfl, G.out⟩
  · have hbq := beq_bytes (fp (enc f) A pt) (enc f)
    rw [decide_eq_false hne] at hbq
    have KM := Lib.hid (fun w => malformed_t (fp (enc f) A pt) (by rw [fp_size]; omega) (dec_chk (burst_good h64 hA1 hpt hne (chk_seal' _ _))) w)
    clear hne
    generalize fp (enc f) A pt = zf at *
    cases hC : dec ((enc f).extract 0 i) with
    | none =>
      have MC := Lib.hid (fun w => malformed_t ((enc f).extract 0 i) (by rw [ByteArray.size_extract]; omega) hC w)
      clear hC
      cases hX : dec (enc f ++ (⟨#[120]⟩ : ByteArray)) with
      | none =>
        have MX := Lib.hid (fun w => malformed_t (enc f ++ (⟨#[120]⟩ : ByteArray)) (by rw [ByteArray.size_append, show (⟨#[120]⟩ : ByteArray).size = 1 from rfl]; omega) hX w)
        clear hX
        have hadd : ∀ W : World, (Op.stringOp .add (enc f) ⟨#[120]⟩).run Try.prog W = .ok (.string (enc f ++ ⟨#[120]⟩)) W := fun W => run_string_add W _ _ (by omega) (by decide)
        generalize enc f ++ (⟨#[120]⟩ : ByteArray) = zx at *
        generalize hzc : (enc f).extract 0 i = zc at *
        go_wp2_with fail
        refine (KE.out _).mono ?_; rintro e wn ⟨rfl, hgr⟩
        replace G := Lib.hid (Bl.trans G.out hgr); clear hgr
        go_wp2_with fail
        refine (KT.out _).mono ?_; rintro e wn ⟨rfl, hgr⟩
        replace G := Lib.hid (Bl.trans G.out hgr); clear hgr
        go_wp2_with fail
        refine (KM.out _).mono ?_; rintro e wn ⟨rfl, hgr⟩
        replace G := Lib.hid (Bl.trans G.out hgr); clear hgr
        go_wp2_with fail
        refine (MC.out _).mono ?_; rintro e wn ⟨rfl, hgr⟩
        replace G := Lib.hid (Bl.trans G.out hgr); clear hgr
        go_wp2_with fail
        refine (MX.out _).mono ?_; rintro e wn ⟨rfl, hgr⟩
        replace G := Lib.hid (Bl.trans G.out hgr); clear hgr
        go_wp2_with fail
        go_ret
        exact ⟨rfl, G.out⟩
      | some fX =>
        have MX := Lib.hid (fun w => malformed_f (enc f ++ (⟨#[120]⟩ : ByteArray)) (by rw [ByteArray.size_append, show (⟨#[120]⟩ : ByteArray).size = 1 from rfl]; omega) hX w)
        have NX := Lib.hid (fun w => (dec_good hX) ▸ good_any (enc f ++ (⟨#[120]⟩ : ByteArray)) (by rw [ByteArray.size_append, show (⟨#[120]⟩ : ByteArray).size = 1 from rfl]; omega) w)
        clear hX
        have hadd : ∀ W : World, (Op.stringOp .add (enc f) ⟨#[120]⟩).run Try.prog W = .ok (.string (enc f ++ ⟨#[120]⟩)) W := fun W => run_string_add W _ _ (by omega) (by decide)
        generalize enc f ++ (⟨#[120]⟩ : ByteArray) = zx at *
        generalize hzc : (enc f).extract 0 i = zc at *
        go_wp2_with fail
        refine (KE.out _).mono ?_; rintro e wn ⟨rfl, hgr⟩
        replace G := Lib.hid (Bl.trans G.out hgr); clear hgr
        go_wp2_with fail
        refine (KT.out _).mono ?_; rintro e wn ⟨rfl, hgr⟩
        replace G := Lib.hid (Bl.trans G.out hgr); clear hgr
        go_wp2_with fail
        refine (KM.out _).mono ?_; rintro e wn ⟨rfl, hgr⟩
        replace G := Lib.hid (Bl.trans G.out hgr); clear hgr
        go_wp2_with fail
        refine (MC.out _).mono ?_; rintro e wn ⟨rfl, hgr⟩
        replace G := Lib.hid (Bl.trans G.out hgr); clear hgr
        go_wp2_with fail
        refine (MX.out _).mono ?_; rintro e wn ⟨rfl, hgr⟩
        replace G := Lib.hid (Bl.trans G.out hgr); clear hgr
        go_wp2_with fail
        refine (NX.out _).mono ?_; rintro e wn ⟨rfl, hgr⟩
        replace G := Lib.hid (Bl.trans G.out hgr); clear hgr
        go_wp2_with fail
        go_ret
        exact ⟨rfl, G.out⟩
    | some fC =>
      have MC := Lib.hid (fun w => malformed_f ((enc f).extract 0 i) (by rw [ByteArray.size_extract]; omega) hC w)
      have NC := Lib.hid (fun w => (dec_good hC) ▸ good_any ((enc f).extract 0 i) (by rw [ByteArray.size_extract]; omega) w)
      clear hC
      cases hX : dec (enc f ++ (⟨#[120]⟩ : ByteArray)) with
      | none =>
        have MX := Lib.hid (fun w => malformed_t (enc f ++ (⟨#[120]⟩ : ByteArray)) (by rw [ByteArray.size_append, show (⟨#[120]⟩ : ByteArray).size = 1 from rfl]; omega) hX w)
        clear hX
        have hadd : ∀ W : World, (Op.stringOp .add (enc f) ⟨#[120]⟩).run Try.prog W = .ok (.string (enc f ++ ⟨#[120]⟩)) W := fun W => run_string_add W _ _ (by omega) (by decide)
        generalize enc f ++ (⟨#[120]⟩ : ByteArray) = zx at *
        generalize hzc : (enc f).extract 0 i = zc at *
        go_wp2_with fail
        refine (KE.out _).mono ?_; rintro e wn ⟨rfl, hgr⟩
        replace G := Lib.hid (Bl.trans G.out hgr); clear hgr
        go_wp2_with fail
        refine (KT.out _).mono ?_; rintro e wn ⟨rfl, hgr⟩
        replace G := Lib.hid (Bl.trans G.out hgr); clear hgr
        go_wp2_with fail
        refine (KM.out _).mono ?_; rintro e wn ⟨rfl, hgr⟩
        replace G := Lib.hid (Bl.trans G.out hgr); clear hgr
        go_wp2_with fail
        refine (MC.out _).mono ?_; rintro e wn ⟨rfl, hgr⟩
        replace G := Lib.hid (Bl.trans G.out hgr); clear hgr
        go_wp2_with fail
        refine (NC.out _).mono ?_; rintro e wn ⟨rfl, hgr⟩
        replace G := Lib.hid (Bl.trans G.out hgr); clear hgr
        go_wp2_with fail
        refine (MX.out _).mono ?_; rintro e wn ⟨rfl, hgr⟩
        replace G := Lib.hid (Bl.trans G.out hgr); clear hgr
        go_wp2_with fail
        go_ret
        exact ⟨rfl, G.out⟩
      | some fX =>
        have MX := Lib.hid (fun w => malformed_f (enc f ++ (⟨#[120]⟩ : ByteArray)) (by rw [ByteArray.size_append, show (⟨#[120]⟩ : ByteArray).size = 1 from rfl]; omega) hX w)
        have NX := Lib.hid (fun w => (dec_good hX) ▸ good_any (enc f ++ (⟨#[120]⟩ : ByteArray)) (by rw [ByteArray.size_append, show (⟨#[120]⟩ : ByteArray).size = 1 from rfl]; omega) w)
        clear hX
        have hadd : ∀ W : World, (Op.stringOp .add (enc f) ⟨#[120]⟩).run Try.prog W = .ok (.string (enc f ++ ⟨#[120]⟩)) W := fun W => run_string_add W _ _ (by omega) (by decide)
        generalize enc f ++ (⟨#[120]⟩ : ByteArray) = zx at *
        generalize hzc : (enc f).extract 0 i = zc at *
        go_wp2_with fail
        refine (KE.out _).mono ?_; rintro e wn ⟨rfl, hgr⟩
        replace G := Lib.hid (Bl.trans G.out hgr); clear hgr
        go_wp2_with fail
        refine (KT.out _).mono ?_; rintro e wn ⟨rfl, hgr⟩
        replace G := Lib.hid (Bl.trans G.out hgr); clear hgr
        go_wp2_with fail
        refine (KM.out _).mono ?_; rintro e wn ⟨rfl, hgr⟩
        replace G := Lib.hid (Bl.trans G.out hgr); clear hgr
        go_wp2_with fail
        refine (MC.out _).mono ?_; rintro e wn ⟨rfl, hgr⟩
        replace G := Lib.hid (Bl.trans G.out hgr); clear hgr
        go_wp2_with fail
        refine (NC.out _).mono ?_; rintro e wn ⟨rfl, hgr⟩
        replace G := Lib.hid (Bl.trans G.out hgr); clear hgr
        go_wp2_with fail
        refine (MX.out _).mono ?_; rintro e wn ⟨rfl, hgr⟩
        replace G := Lib.hid (Bl.trans G.out hgr); clear hgr
        go_wp2_with fail
        refine (NX.out _).mono ?_; rintro e wn ⟨rfl, hgr⟩
        replace G := Lib.hid (Bl.trans G.out hgr); clear hgr
        go_wp2_with fail
        go_ret
        exact ⟨rfl, G.out⟩
end Go.Proofs.Ytmhdgpmlconngaa
