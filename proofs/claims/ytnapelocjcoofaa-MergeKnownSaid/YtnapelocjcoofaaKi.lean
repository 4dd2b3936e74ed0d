/-
  What the reference's Extend, Of, Octets, Seal, Mark, Good and Marked return.
-/
import Derived.Test.YtnapelocjcoofaaKh
namespace Go.Proofs.Ytnapelocjcoofaa
open Go.RowKit Go.Proofs.Ytnapelocjcoofaa.Cr

/-- The register in the midst of an octet, as the reference has it. -/
def inn (c x j : Nat) : Nat := stN j (c ^^^ x) ^^^ (x / 2 ^ j)
theorem inn_zero (c x : Nat) : inn c x 0 = c := by
  unfold inn
  rw [Nat.pow_zero, Nat.div_one]
  show (c ^^^ x) ^^^ x = c
  rw [Nat.xor_assoc, Nat.xor_self, Nat.xor_zero]
theorem inn_eight (c : Nat) {x : Nat} (hx : x < 256) : inn c x 8 = stN 8 (c ^^^ x) := by
  unfold inn
  rw [Nat.div_eq_of_lt (show x < 2 ^ 8 from hx), Nat.xor_zero]
theorem inn_lt {c x : Nat} (hc : c < 4294967296) (hx : x < 256) (j : Nat) : inn c x j < 4294967296 := by
  have h1 : c ^^^ x < 2 ^ 32 := Nat.xor_lt_two_pow hc (by omega)
  have h2 : x / 2 ^ j ≤ x := Nat.div_le_self _ _
  exact show _ < 2 ^ 32 from Nat.xor_lt_two_pow (stN_lt h1) (by omega)
theorem inn_half (c x j : Nat) : inn c x j / 2 = stN j (c ^^^ x) / 2 ^^^ (x / 2 ^ (j + 1)) := by
  unfold inn
  rw [xor_div2, Nat.pow_succ, Nat.div_div_eq_div_mul]
theorem inn_even {c x j : Nat} (h : stN j (c ^^^ x) % 2 = 0) : inn c x (j + 1) = inn c x j / 2 := by
  rw [inn_half]
  unfold inn
  rw [stN_snoc, st_ev h]
theorem inn_odd {c x j : Nat} (h : stN j (c ^^^ x) % 2 = 1) : inn c x (j + 1) = inn c x j / 2 ^^^ 3988292384 := by
  rw [inn_half]
  unfold inn
  rw [stN_snoc, st_odd h, Nat.xor_assoc, Nat.xor_comm 3988292384, Nat.xor_assoc]
theorem inn_bit {c x : Nat} (hc : c < 4294967296) (hx : x < 256) (j : Nat) : bits .and .u32 (bits .xor .u32 ((inn c x j : Nat) : Int) ((x / 2 ^ j : Nat) : Int)) 1 = ((stN j (c ^^^ x) % 2 : Nat) : Int) := by
  have h1 : c ^^^ x < 2 ^ 32 := Nat.xor_lt_two_pow hc (by omega)
  have h2 : x / 2 ^ j ≤ x := Nat.div_le_self _ _
  rw [u32_xor_nat _ _ (inn_lt hc hx j) (by omega)]
  have e : inn c x j ^^^ (x / 2 ^ j) = stN j (c ^^^ x) := by unfold inn; rw [Nat.xor_assoc, Nat.xor_self, Nat.xor_zero]
  rw [e]
  exact and_one _ (stN_lt h1)

theorem cast_shift (x j : Nat) (hx : x < 256) : (x : Int) / 2 ^ j % 4294967296 = ((x / 2 ^ j : Nat) : Int) := by
  have h : x / 2 ^ j ≤ x := Nat.div_le_self _ _
  have e : (x : Int) / 2 ^ j = ((x / 2 ^ j : Nat) : Int) := by rw [Int.natCast_ediv, Int.natCast_pow]; rfl
  rw [e]
  generalize x / 2 ^ j = y at *
  omega
theorem inn_one {q x : Nat} (hq : q < 4294967296) (hx : x < 256) (j : Nat) (h : stN j (q ^^^ x) % 2 = 1) :
    bits .and .u32 (bits .xor .u32 ((inn q x j : Nat) : Int) ((x : Int) / 2 ^ j % 4294967296)) 1 = 1 ∧ bits .xor .u32 (((inn q x j : Nat) : Int) / 2) 3988292384 = ((inn q x (j + 1) : Nat) : Int) := by
  rw [cast_shift x j hx, inn_bit hq hx, h]
  refine ⟨rfl, ?_⟩
  have hl := inn_lt hq hx j
  rw [inn_odd h]
  generalize inn q x j = v at *
  exact u32_xor_nat (v / 2) 3988292384 (by omega) (by decide)
theorem inn_none {q x : Nat} (hq : q < 4294967296) (hx : x < 256) (j : Nat) (h : stN j (q ^^^ x) % 2 = 0) :
    bits .and .u32 (bits .xor .u32 ((inn q x j : Nat) : Int) ((x : Int) / 2 ^ j % 4294967296)) 1 = 0 ∧ ((inn q x j : Nat) : Int) / 2 = ((inn q x (j + 1) : Nat) : Int) := by
  rw [cast_shift x j hx, inn_bit hq hx, h, inn_even h]
  exact ⟨rfl, rfl⟩

set_option maxHeartbeats 1000000 in
theorem rextend_any (c : Nat) (s : ByteArray) (hc : c < 4294967296) (hs : (s.size : Int) ≤ 8000) (w : World) :
    Calls Try.prog 60 #[u32 c, .string s] w fun e w' => e = .returned (u32 (cpl (cr (cpl c) s.data.toList))) ∧ w = w' := by
  have hm := xor_max hc
  have hX := Lib.hid (xor_max (cr_lt (cpl_lt hc) s.data.toList))
  have hsg : IntKind.u32.signed = false := rfl
  have hl := cpl_lt hc
  unfold u32
  generalize cpl c = d at *
  go_enter Try.func60, Try.ntmps60
  go_wp2
  go_loop [5, 0] (fun i v => ∃ k : Nat, k ≤ s.size ∧ i = .int .i64 k ∧ v = .int .u32 ((cr d (s.data.toList.take k) : Nat) : Int)) (fun i _ => s.size - (intOf i).toNat)
  case atStart => exact ⟨0, Nat.zero_le _, rfl, rfl⟩
  case round =>
    obtain ⟨k, hk, rfl, rfl⟩ := hrel
    by_cases hlt : k < s.size
    · have HS := Lib.hid (show cr d (s.data.toList.take (k + 1)) = stN 8 (cr d (s.data.toList.take k) ^^^ s[k].toNat) by rw [take_snoc s k hlt, cr_snoc])
      have hq := cr_lt hl (s.data.toList.take k)
      have hx : s[k].toNat < 256 := s[k].toNat_lt
      generalize cr d (s.data.toList.take k) = q at *
      have H0 := inn_zero q s[k].toNat
      have H8 := Lib.hid (inn_eight q hx)
      have hd : decide ((k : Int) < (s.size : Int)) = true := decide_eq_true (by omega)
      go_wp2
      go_loop [6, 0] (fun b v => ∃ j : Nat, j ≤ 8 ∧ b = .int .i64 j ∧ v = .int .u32 ((inn q s[k].toNat j : Nat) : Int)) (fun b _ => 8 - (intOf b).toNat)
      case atStart => exact ⟨0, by omega, rfl, by rw [H0]⟩
      case round =>
        obtain ⟨j, hj, rfl, rfl⟩ := hrel
        by_cases hj8 : j < 8
        · rcases Nat.mod_two_eq_zero_or_one (stN j (q ^^^ s[k].toNat)) with hp | hp
          · obtain ⟨hb, hn⟩ := inn_none hq hx j hp
            have HN := Lib.hid hn
            clear hn hp
            generalize inn q s[k].toNat j = v at *
            go_wp2
            go_round
            case rel => exact ⟨j + 1, by omega, by go_num, by rw [← HN.out]⟩
            case measure => simp [intOf]; omega
          · obtain ⟨hb, hn⟩ := inn_one hq hx j hp
            clear hp
            generalize inn q s[k].toNat j = v at *
            go_wp2
            go_round
            case rel => exact ⟨j + 1, by omega, by go_num, rfl⟩
            case measure => simp [intOf]; omega
        · obtain rfl : j = 8 := by omega
          go_wp2
          go_round
          case rel => exact ⟨k + 1, by omega, by go_num, by rw [HS.out, H8.out]⟩
          case measure => simp [intOf]; omega
    · have e := Lib.hid (show s.data.toList.take k = s.data.toList from List.take_of_length_le (by simp; omega))
      rw [e.out]
      have hX := hX.out
      go_wp2
      go_ret
      exact ⟨rfl, rfl⟩

set_option maxHeartbeats 400000 in
theorem rof_any (s : ByteArray) (hs : (s.size : Int) ≤ 8000) (w : World) :
    Calls Try.prog 35 #[.string s] w fun e w' => e = .returned (u32 (ofN s.data.toList)) ∧ w = w' := by
  have KE := Lib.hid (fun w => rextend_any 0 s (by decide) hs w)
  rw [show cpl (cr (cpl 0) s.data.toList) = ofN s.data.toList from rfl] at KE
  unfold u32 at *
  generalize ofN s.data.toList = x at *
  go_enter Try.func35, Try.ntmps35
  go_wp2_with fail
  refine (KE.out _).mono ?_; rintro e w1 ⟨rfl, rfl⟩
  go_wp2_with fail
  go_ret
  exact ⟨rfl, rfl⟩

theorem four_cell (a b c d : Int) (W : World) (i : Nat) (hi : i < 4) : (W.alloc (.cells #[.int .u8 a, .int .u8 b, .int .u8 c, .int .u8 d] 5)).cell? ⟨W.heap.size, 0 + i, none⟩ = some (.int .u8 ([a, b, c, d].getD i 0)) := by
  match i, hi with
  | 0, _ => simp [go_sem]
  | 1, _ => simp [go_sem]
  | 2, _ => simp [go_sem]
  | 3, _ => simp [go_sem]
theorem convert_four (a b c d : Int) (W : World) : (convert 23 9 (.slice (some ⟨W.heap.size, 0, none⟩) 4 4)).run Try.prog (W.alloc (.cells #[.int .u8 a, .int .u8 b, .int .u8 c, .int .u8 d] 5)) = .ok (.string (strOfNums [a, b, c, d])) (W.alloc (.cells #[.int .u8 a, .int .u8 b, .int .u8 c, .int .u8 d] 5)) :=
  run_convert_bytes_arg _ 23 5 Try.underlying23 Try.underlying5 W.heap.size 0 4 4 [a, b, c, d] rfl (four_cell a b c d W) 9 Try.underlying9
theorem nums_le4 (c : Nat) : strOfNums [(c : Int) % 256, (c : Int) / 256 % 256, (c : Int) / 65536 % 256, (c : Int) / 16777216] = bstr (le4 c) := by
  apply ByteArray.ext
  apply Array.toList_inj.1
  rw [bstr_list]
  show [UInt8.ofNat _, UInt8.ofNat _, UInt8.ofNat _, UInt8.ofNat _] = [UInt8.ofNat _, UInt8.ofNat _, UInt8.ofNat _, UInt8.ofNat _]
  have u : ∀ {a b : Nat}, a % 256 = b % 256 → UInt8.ofNat a = UInt8.ofNat b := fun {a b} h => by
    apply UInt8.toNat_inj.1
    rw [UInt8.toNat_ofNat', UInt8.toNat_ofNat']
    exact h
  simp only [List.cons.injEq, and_true]
  exact ⟨u (by omega), u (by omega), u (by omega), u (by omega)⟩
set_option maxHeartbeats 400000 in
theorem roctets_any (c : Nat) (hc : c < 4294967296) (w : World) :
    Calls Try.prog 34 #[u32 c] w fun e w' => e = .returned (.string (bstr (le4 c))) ∧ Bl w w' := by
  have kc := fun (W : World) => convert_four ((c : Int) % 256) ((c : Int) / 256 % 256) ((c : Int) / 65536 % 256) ((c : Int) / 16777216) W
  rw [nums_le4] at kc
  generalize bstr (le4 c) = x at *
  unfold u32
  go_enter Try.func34, Try.ntmps34
  go_wp2
  go_ret
  exact ⟨rfl, (Bl.refl w).alloc _⟩

set_option maxHeartbeats 400000 in
theorem rseal_any (s : ByteArray) (hs : (s.size : Int) ≤ 8000) (w : World) :
    Calls Try.prog 12 #[.string s] w fun e w' => e = .returned (.string (sealB s 0)) ∧ Bl w w' := by
  have KF := Lib.hid (fun w => rof_any s hs w)
  have KO := Lib.hid (fun w => roctets_any (ofN s.data.toList) (ofN_lt _) w)
  have E := Lib.hid (show s ++ bstr (le4 (ofN s.data.toList)) = sealB s 0 by unfold sealB; rw [Nat.xor_zero])
  have hx : (bstr (le4 (ofN s.data.toList))).size = 4 := by rw [bstr_size]; rfl
  generalize bstr (le4 (ofN s.data.toList)) = x at *
  generalize sealB s 0 = y at *
  generalize ofN s.data.toList = c at *
  unfold u32 at *
  go_enter Try.func12, Try.ntmps12
  go_wp2_with fail
  refine (KF.out _).mono ?_; rintro e w1 ⟨rfl, rfl⟩
  go_wp2_with fail
  refine (KO.out _).mono ?_; rintro e w1 ⟨rfl, gr⟩
  have G := Lib.hid gr; clear gr
  go_wp2_with fail
  go_ret
  exact ⟨by rw [← E.out]; rfl, G.out⟩
set_option maxHeartbeats 400000 in
theorem rmark_any (s : ByteArray) (hs : (s.size : Int) ≤ 8000) (w : World) :
    Calls Try.prog 43 #[.string s] w fun e w' => e = .returned (.string (sealB s 4294901760)) ∧ Bl w w' := by
  have KF := Lib.hid (fun w => rof_any s hs w)
  have hl := ofN_lt s.data.toList
  have hm := u32_xor_nat _ 4294901760 hl (by decide)
  have KO := Lib.hid (fun w => roctets_any (ofN s.data.toList ^^^ 4294901760) (mark_lt hl (by decide)) w)
  have E := Lib.hid (show s ++ bstr (le4 (ofN s.data.toList ^^^ 4294901760)) = sealB s 4294901760 from rfl)
  have hx : (bstr (le4 (ofN s.data.toList ^^^ 4294901760))).size = 4 := by rw [bstr_size]; rfl
  generalize bstr (le4 (ofN s.data.toList ^^^ 4294901760)) = x at *
  generalize sealB s 4294901760 = y at *
  generalize ofN s.data.toList ^^^ 4294901760 = d at *
  generalize ofN s.data.toList = c at *
  unfold u32 at *
  have hm' : bits .xor .u32 (c : Int) 4294901760 = (d : Int) := hm
  clear hm
  go_enter Try.func43, Try.ntmps43
  go_wp2_with fail
  refine (KF.out _).mono ?_; rintro e w1 ⟨rfl, rfl⟩
  go_wp2_with fail
  refine (KO.out _).mono ?_; rintro e w1 ⟨rfl, gr⟩
  have G := Lib.hid gr; clear gr
  go_wp2_with fail
  go_ret
  exact ⟨by rw [← E.out]; rfl, G.out⟩

theorem chk_beq {s : ByteArray} {m : Nat} (h : 4 ≤ s.size) : ((sealB (bef s) m).toList == s.toList) = chk s m := by
  rw [beq_bytes]
  unfold chk
  by_cases h2 : sealB (bef s) m = s
  · rw [decide_eq_true h2, decide_eq_true ⟨h, h2⟩]
  · rw [decide_eq_false h2, decide_eq_false (fun hh => h2 hh.2)]
set_option maxHeartbeats 400000 in
theorem rgood_any (s : ByteArray) (hs : (s.size : Int) ≤ 8000) (w : World) :
    Calls Try.prog 48 #[.string s] w fun e w' => e = .returned (.bool (chk s 0)) ∧ Bl w w' := by
  by_cases h4 : s.size < 4
  · rw [chk_short h4]
    go_enter Try.func48, Try.ntmps48
    go_wp2
    go_ret
    exact ⟨rfl, Bl.refl _⟩
  · have hb : (bef s).size = s.size - 4 := by unfold bef; rw [ByteArray.size_extract]; omega
    have KS := Lib.hid (fun w => rseal_any (bef s) (by omega) w)
    have e4 : ((s.size : Int) - 4).toNat = s.size - 4 := by omega
    have E := Lib.hid (chk_beq (s := s) (m := 0) (by omega))
    generalize sealB (bef s) 0 = x at *
    unfold bef at *
    go_enter Try.func48, Try.ntmps48
    go_wp2_with fail
    refine (KS.out _).mono ?_; rintro e w2 ⟨rfl, gr⟩
    have G := Lib.hid gr; clear gr
    go_wp2_with fail
    go_ret
    exact ⟨by rw [← E.out]; rfl, G.out⟩
set_option maxHeartbeats 400000 in
theorem rmarked_any (s : ByteArray) (hs : (s.size : Int) ≤ 8000) (w : World) :
    Calls Try.prog 49 #[.string s] w fun e w' => e = .returned (.bool (chk s 4294901760)) ∧ Bl w w' := by
  by_cases h4 : s.size < 4
  · rw [chk_short h4]
    go_enter Try.func49, Try.ntmps49
    go_wp2
    go_ret
    exact ⟨rfl, Bl.refl _⟩
  · have hb : (bef s).size = s.size - 4 := by unfold bef; rw [ByteArray.size_extract]; omega
    have KS := Lib.hid (fun w => rmark_any (bef s) (by omega) w)
    have e4 : ((s.size : Int) - 4).toNat = s.size - 4 := by omega
    have E := Lib.hid (chk_beq (s := s) (m := 4294901760) (by omega))
    generalize sealB (bef s) 4294901760 = x at *
    unfold bef at *
    go_enter Try.func49, Try.ntmps49
    go_wp2_with fail
    refine (KS.out _).mono ?_; rintro e w2 ⟨rfl, gr⟩
    have G := Lib.hid gr; clear gr
    go_wp2_with fail
    go_ret
    exact ⟨by rw [← E.out]; rfl, G.out⟩

end Go.Proofs.Ytnapelocjcoofaa
