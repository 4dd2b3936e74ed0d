/-
  A register and its table in memory; what consume and each do.
-/
import Derived.Test.YtnapelocjcoofaaKd
import Derived.BigRegion
namespace Go.Proofs.Ytnapelocjcoofaa
open Go.RowKit Go.Proofs.Ytnapelocjcoofaa.Cr

/-- In block b lie the register c and the table. -/
def Rg (w : World) (b c : Nat) : Prop :=
  b < w.heap.size ∧ w.cell? ⟨b, 0, none⟩ = some (u32 c) ∧ w.frozen? ⟨b, 0, none⟩ = false ∧ ∀ i, i < 256 → w.cell? ⟨b, 1 + i, none⟩ = some (u32 (stN 8 i))
theorem Rg.set {w : World} {b c : Nat} (h : Rg w b c) (d : Nat) : Rg (w.setCell ⟨b, 0, none⟩ (u32 d)) b d := by
  refine ⟨by rw [World.size_setCell]; exact h.1, ?_, by rw [World.frozen?_setCell]; exact h.2.2.1, fun i hi => ?_⟩
  · rw [World.cell?_setCell_same _ _ _ h.2.1]
  · rw [World.cell?_setCell_other _ _ _ _ (by intro h'; injection h' with _ h'; omega)]
    exact h.2.2.2 i hi
theorem Rg.drew {w : World} {b c : Nat} (h : Rg w b c) : Rg w.drew b c := h
theorem xor_oct {c o : Nat} (ho : o < 256) : bits .xor .u8 ((c : Int) % 256) (o : Int) = (((c ^^^ o) % 256 : Nat) : Int) := by
  have h := u8_xor_nat (c % 256) o (by omega) ho
  have e : c % 256 ^^^ o = (c ^^^ o) % 256 := by
    have h1 := @Nat.xor_mod_two_pow c o 8
    rw [Nat.mod_eq_of_lt (show o < 2 ^ 8 from ho)] at h1
    exact h1.symm
  rw [e] at h
  exact h
theorem xor_table {c : Nat} (hc : c < 4294967296) {o : Nat} (ho : o < 256) : bits .xor .u32 ((c : Int) / 256) ((stN 8 ((c ^^^ o) % 256) : Nat) : Int) = ((stN 8 (c ^^^ o) : Nat) : Int) := by
  have hl : stN 8 ((c ^^^ o) % 256) < 4294967296 := stN_lt (by omega)
  rw [oct_step c ho]
  generalize stN 8 ((c ^^^ o) % 256) = t at *
  rw [Nat.xor_comm t]
  exact u32_xor_nat (c / 256) t (by omega) hl

set_option maxHeartbeats 1000000 in
theorem consume_any (b c o : Nat) (hc : c < 4294967296) (ho : o < 256) (w : World) (hr : Rg w b c) :
    Calls Try.prog 83 #[.pointer (some ⟨b, 0, none⟩), .int .u8 (o : Int)] w fun e w' => e = .returned (.tuple #[]) ∧ Rg w' b (stN 8 (c ^^^ o)) ∧ Below b w w' := by
  have hx := xor_oct (c := c) ho
  have hy := xor_table hc ho
  have hm : (c ^^^ o) % 256 < 256 := by omega
  have hcell := hr.2.2.2 _ hm
  have h0 := hr.2.1
  have hf := hr.2.2.1
  have HR := Lib.hid ((hr.set (stN 8 (c ^^^ o))).drew)
  clear hr
  unfold u32 at *
  generalize (c ^^^ o) % 256 = i at *
  generalize stN 8 i = t at *
  generalize stN 8 (c ^^^ o) = d at *
  go_enter Try.func83, Try.ntmps83
  go_wp2
  go_region
  exact bodyPost_end (v := .tuple #[]) (results_none rfl _ _ _) rfl ⟨rfl, HR.out, (Below.setCell (p := ⟨b, 0, none⟩) (Below.refl b w) (Nat.le_refl b) _).drew⟩

theorem cr_snoc (c : Nat) (l : List UInt8) (x : UInt8) : cr c (l ++ [x]) = stN 8 (cr c l ^^^ x.toNat) := by rw [cr_append]; rfl
set_option maxHeartbeats 1000000 in
theorem each_any (b c : Nat) (s : ByteArray) (hc : c < 4294967296) (hs : (s.size : Int) ≤ 8000) (w : World) (hr : Rg w b c) :
    Calls Try.prog 82 #[.string s, .func (.func 83) #[.pointer (some ⟨b, 0, none⟩)] #[]] w fun e w' => e = .returned (.tuple #[]) ∧ Rg w' b (cr c s.data.toList) ∧ Below b w w' := by
  have HR := Lib.hid hr; clear hr
  go_enter Try.func82, Try.ntmps82
  go_wp2
  go_loopw [7] (fun i wr => ∃ k : Nat, k ≤ s.size ∧ i = .int .i64 k ∧ Hid (Rg wr b (cr c (s.data.toList.take k))) ∧ Hid (Below b w wr)) (fun i _ => s.size - (intOf i).toNat)
  case atStart => exact ⟨0, Nat.zero_le _, rfl, HR, Lib.hid (Below.refl b w)⟩
  case round =>
    obtain ⟨k, hk, rfl, HK, HB⟩ := hrel
    by_cases hlt : k < s.size
    · have HS := Lib.hid (show cr c (s.data.toList.take (k + 1)) = stN 8 (cr c (s.data.toList.take k) ^^^ s[k].toNat) by rw [take_snoc s k hlt, cr_snoc])
      have hl := cr_lt hc (s.data.toList.take k)
      have hx : s[k].toNat < 256 := s[k].toNat_lt
      generalize cr c (s.data.toList.take k) = d at *
      have KC := Lib.hid (consume_any b d s[k].toNat hl hx wr HK.out)
      go_wp2_with fail
      refine KC.out.mono ?_; rintro e w1 ⟨rfl, hr1, hb1⟩
      have HR1 := Lib.hid hr1
      have HB1 := Lib.hid (HB.out.trans hb1)
      clear hr1 hb1 KC HK HB
      go_wp2_with fail
      go_roundw
      case rel => exact ⟨k + 1, by omega, by go_num, by rw [HS.out]; exact HR1, HB1⟩
      case measure => simp [intOf]; omega
    · go_wp2
      refine bodyPost_end (v := .tuple #[]) (results_none rfl _ _ _) rfl ⟨rfl, ?_, HB.out⟩
      have h := HK.out
      rw [List.take_of_length_le (by simp; omega)] at h
      exact h

end Go.Proofs.Ytnapelocjcoofaa
