/-
  What the law's works returns; strings with their check octets.
-/
import Derived.Test.YtnapelocjcoofaaKh
namespace Go.Proofs.Ytnapelocjcoofaa
open Go.RowKit Go.Proofs.Ytnapelocjcoofaa.Cr

theorem bef_append (s : ByteArray) {l : List UInt8} (h : l.length = 4) : bef (s ++ bstr l) = s := by
  have hs : (s ++ bstr l).size = s.size + 4 := by rw [ByteArray.size_append, bstr_size, h]
  unfold bef
  rw [hs, Nat.add_sub_cancel]
  apply ByteArray.ext
  apply Array.toList_inj.1
  rw [ByteArray.data_extract, ByteArray.data_append]
  simp only [Array.toList_extract, Array.toList_append, List.extract_eq_take_drop, List.drop_zero, Nat.sub_zero]
  have e : s.data.toList.length = s.size := by simp
  rw [← e, List.take_left]
theorem bef_seal (s : ByteArray) (m : Nat) : bef (sealB s m) = s := bef_append s rfl
theorem chk_seal (s : ByteArray) (m : Nat) : chk (sealB s m) m = true :=
  decide_eq_true ⟨by rw [sealB_size]; omega, by rw [bef_seal]⟩
theorem le4_inj {a b : Nat} (ha : a < 4294967296) (hb : b < 4294967296) (h : le4 a = le4 b) : a = b := by
  have := congrArg vn h
  rwa [vn_le4 ha, vn_le4 hb] at this
theorem seal_inj {s : ByteArray} {m n : Nat} (hm : m < 4294967296) (hn : n < 4294967296) (h : sealB s m = sealB s n) : m = n := by
  have h1 := congrArg (fun b => b.data.toList) h
  unfold sealB at h1
  simp only [ByteArray.data_append, Array.toList_append, bstr_list] at h1
  have h2 := le4_inj (mark_lt (ofN_lt _) hm) (mark_lt (ofN_lt _) hn) (List.append_cancel_left h1)
  have h3 : ofN s.data.toList ^^^ (ofN s.data.toList ^^^ m) = ofN s.data.toList ^^^ (ofN s.data.toList ^^^ n) := by rw [h2]
  rw [← Nat.xor_assoc, ← Nat.xor_assoc, Nat.xor_self, Nat.zero_xor, Nat.zero_xor] at h3
  exact h3
theorem chk_seal_ne {s : ByteArray} {m n : Nat} (hm : m < 4294967296) (hn : n < 4294967296) (h : m ≠ n) : chk (sealB s m) n = false :=
  decide_eq_false fun hh => h (seal_inj hn hm (by have := hh.2; rwa [bef_seal] at this)).symm

theorem of_nine : ofN [49, 50, 51, 52, 53, 54, 55, 56, 57] = 3421780262 := by decide +kernel
theorem of_a : ofN [97] = 3904355907 := by decide +kernel
theorem ext_nine : cpl (cr (cpl (ofN [49, 50, 51, 52])) [53, 54, 55, 56, 57]) = 3421780262 := by decide +kernel
theorem oct_nine : bstr (le4 3421780262) = ⟨#[38, 57, 244, 203]⟩ := by decide +kernel
theorem seal_nil : sealB ⟨#[]⟩ 0 = ⟨#[0, 0, 0, 0]⟩ := by decide +kernel

end Go.Proofs.Ytnapelocjcoofaa
