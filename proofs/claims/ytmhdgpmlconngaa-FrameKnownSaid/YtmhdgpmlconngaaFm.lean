/-
  What is decoded is the frame whose encoding it is, with the longest Data: mathematics.
-/
import Derived.Test.YtmhdgpmlconngaaFd
namespace Go.Proofs.Ytmhdgpmlconngaa
open Go.RowKit Go.Proofs.Ytmhdgpmlconngaa.Cr

theorem list_size (s : ByteArray) : s.data.toList.length = s.size := by simp
theorem bytes_ext {a b : ByteArray} (h : a.data.toList = b.data.toList) : a = b := ByteArray.ext (Array.toList_inj.1 h)
theorem app_list (a b : ByteArray) : (a ++ b).data.toList = a.data.toList ++ b.data.toList := by rw [ByteArray.data_append, Array.toList_append]
theorem be_len (n : Int) (k : Nat) : (be n k).data.toList.length = k := by rw [list_size, be_size]
theorem mod_small {n m : Int} (h : 0 ≤ n) (h2 : n < m) : n % m = n := Int.emod_eq_of_lt h h2
theorem extract_list (s : ByteArray) (a b : Nat) : (s.extract a b).data.toList = (s.data.toList.drop a).take (b - a) := by
  rw [ByteArray.data_extract]; simp [List.extract_eq_take_drop]

theorem bef_seal' (s : ByteArray) (m : Nat) : bef (sealB s m) = s := by
  have hs := sealB_size s m
  unfold bef
  rw [hs, Nat.add_sub_cancel]
  apply bytes_ext
  rw [extract_list]
  unfold sealB
  rw [app_list, List.drop_zero, Nat.sub_zero, ← list_size s, List.take_left]
theorem chk_seal' (s : ByteArray) (m : Nat) : chk (sealB s m) m = true :=
  decide_eq_true ⟨by rw [sealB_size]; omega, by rw [bef_seal']⟩
theorem chk_eq {s : ByteArray} (h : chk s 0 = true) : sealB (bef s) 0 = s := (of_decide_eq_true h).2

/-- The parts of a frame's octets. -/
def tgL (f : Fr) : List UInt8 := if f.tag then (be 33024 2).data.toList ++ (be (f.prio * 8192 + f.vid) 2).data.toList else []
def rdL (f : Fr) : List UInt8 := if f.red then (be 61889 2).data.toList ++ (be f.seq 4).data.toList else []
def pdL (f : Fr) : List UInt8 := List.replicate (60 - (b3 f).size) 0
theorem bod_list (f : Fr) : (bod f).data.toList = (be f.dst 6).data.toList ++ ((be f.src 6).data.toList ++ (tgL f ++ (rdL f ++ ((be (tl f) 2).data.toList ++ (f.data.data.toList ++ pdL f))))) := by
  have h0 : (b0 f).data.toList = (be f.dst 6).data.toList ++ (be f.src 6).data.toList := by
    unfold b0
    rw [app_list, app_list]
    rfl
  have h1 : (b1 f).data.toList = (b0 f).data.toList ++ tgL f := by
    unfold b1 tgL
    split
    · rw [app_list, app_list, List.append_assoc]
    · rw [List.append_nil]
  have h2 : (b2 f).data.toList = (b1 f).data.toList ++ rdL f := by
    unfold b2 rdL
    split
    · rw [app_list, app_list, List.append_assoc]
    · rw [List.append_nil]
  unfold bod b3
  rw [app_list, app_list, app_list, h2, h1, h0]
  unfold cop pdL
  rw [bstr_list]
  simp only [List.append_assoc]
  rfl
theorem tgL_len (f : Fr) : (tgL f).length = if f.tag then 4 else 0 := by
  unfold tgL
  split
  · rw [List.length_append, be_len, be_len]
  · rfl
theorem rdL_len (f : Fr) : (rdL f).length = if f.red then 6 else 0 := by
  unfold rdL
  split
  · rw [List.length_append, be_len, be_len]
  · rfl

theorem rd_at {s : ByteArray} {A C : List UInt8} {a k : Nat} {n : Int} (h : s.data.toList = A ++ ((be n k).data.toList ++ C)) (ha : A.length = a) (h0 : 0 ≤ n) (h1 : n < pw k) : rd s a k = n := by
  rw [rd_be h ha, mod_small h0 h1]

/-- Where the type stands. -/
def tyA (f : Fr) : Nat := 12 + (if f.tag then 4 else 0) + (if f.red then 6 else 0)
theorem tyA_hdr (f : Fr) : tyA f + 2 = hdr f := by unfold tyA hdr; omega

section
variable {f : Fr} {s : ByteArray} {E : List UInt8}
/-- The fields stand in a string that begins with the octets of f. -/
theorem rd_dst (hf : Ok f) (hs : s.data.toList = (bod f).data.toList ++ E) : rd s 0 6 = f.dst := by
  rw [bod_list] at hs
  exact rd_at (A := []) (by rw [hs]; simp only [List.append_assoc, List.nil_append]; rfl) rfl hf.dst.1 (by rw [show pw 6 = 281474976710656 by decide]; have := hf.dst.2; omega)
theorem rd_src (hf : Ok f) (hs : s.data.toList = (bod f).data.toList ++ E) : rd s 6 6 = f.src := by
  rw [bod_list] at hs
  exact rd_at (A := (be f.dst 6).data.toList) (by rw [hs]; simp only [List.append_assoc]; rfl) (be_len _ _) hf.src.1 (by rw [show pw 6 = 281474976710656 by decide]; have := hf.src.2; omega)
theorem rd_tag (ht : f.tag = true) (hs : s.data.toList = (bod f).data.toList ++ E) : rd s 12 2 = 33024 := by
  rw [bod_list, show tgL f = (be 33024 2).data.toList ++ (be (f.prio * 8192 + f.vid) 2).data.toList by unfold tgL; rw [ht]; rfl] at hs
  exact rd_at (A := (be f.dst 6).data.toList ++ (be f.src 6).data.toList) (by rw [hs]; simp only [List.append_assoc]; rfl) (by rw [List.length_append, be_len, be_len]) (by decide) (by decide)
theorem rd_ctl (hf : Ok f) (ht : f.tag = true) (hs : s.data.toList = (bod f).data.toList ++ E) : rd s 14 2 = f.prio * 8192 + f.vid := by
  have h1 := hf.prio
  have h2 := hf.vid
  rw [ht] at h1 h2
  rw [bod_list, show tgL f = (be 33024 2).data.toList ++ (be (f.prio * 8192 + f.vid) 2).data.toList by unfold tgL; rw [ht]; rfl] at hs
  exact rd_at (A := (be f.dst 6).data.toList ++ ((be f.src 6).data.toList ++ (be 33024 2).data.toList)) (by rw [hs]; simp only [List.append_assoc]; rfl) (by rw [List.length_append, List.length_append, be_len, be_len, be_len])
    (by simp [ifs] at h1 h2; omega) (by rw [show pw 2 = 65536 by decide]; simp [ifs] at h1 h2; omega)
theorem rd_red (hr : f.red = true) (hs : s.data.toList = (bod f).data.toList ++ E) : rd s (12 + (if f.tag then 4 else 0)) 2 = 61889 := by
  rw [bod_list, show rdL f = (be 61889 2).data.toList ++ (be f.seq 4).data.toList by unfold rdL; rw [hr]; rfl] at hs
  exact rd_at (A := (be f.dst 6).data.toList ++ ((be f.src 6).data.toList ++ tgL f)) (by rw [hs]; simp only [List.append_assoc]; rfl) (by rw [List.length_append, List.length_append, be_len, be_len, tgL_len]; omega) (by decide) (by decide)
theorem rd_seq (hf : Ok f) (hr : f.red = true) (hs : s.data.toList = (bod f).data.toList ++ E) : rd s (14 + (if f.tag then 4 else 0)) 4 = f.seq := by
  have h1 := hf.seq
  rw [hr] at h1
  rw [bod_list, show rdL f = (be 61889 2).data.toList ++ (be f.seq 4).data.toList by unfold rdL; rw [hr]; rfl] at hs
  exact rd_at (A := (be f.dst 6).data.toList ++ ((be f.src 6).data.toList ++ (tgL f ++ (be 61889 2).data.toList))) (by rw [hs]; simp only [List.append_assoc]; rfl) (by rw [List.length_append, List.length_append, List.length_append, be_len, be_len, be_len, tgL_len]; omega)
    h1.1 (by rw [show pw 4 = 4294967296 by decide]; simp [ifs] at h1; omega)
theorem rd_typ (hf : Ok f) (hs : s.data.toList = (bod f).data.toList ++ E) : rd s (tyA f) 2 = tl f := by
  have h1 := hf.tl
  rw [bod_list] at hs
  exact rd_at (A := (be f.dst 6).data.toList ++ ((be f.src 6).data.toList ++ (tgL f ++ rdL f))) (by rw [hs]; simp only [List.append_assoc]; rfl) (by rw [List.length_append, List.length_append, List.length_append, be_len, be_len, tgL_len, rdL_len]; unfold tyA; omega)
    h1.1 (by rw [show pw 2 = 65536 by decide]; omega)
/-- Data. -/
theorem ex_data (hs : s.data.toList = (bod f).data.toList ++ E) : s.extract (hdr f) (hdr f + f.data.size) = f.data := by
  rw [bod_list] at hs
  apply bytes_ext
  rw [extract_list, Nat.add_sub_cancel_left]
  have e : s.data.toList = ((be f.dst 6).data.toList ++ ((be f.src 6).data.toList ++ (tgL f ++ (rdL f ++ (be (tl f) 2).data.toList)))) ++ (f.data.data.toList ++ (pdL f ++ E)) := by rw [hs]; simp only [List.append_assoc]
  have hl : ((be f.dst 6).data.toList ++ ((be f.src 6).data.toList ++ (tgL f ++ (rdL f ++ (be (tl f) 2).data.toList)))).length = hdr f := by
    rw [List.length_append, List.length_append, List.length_append, List.length_append, be_len, be_len, be_len, tgL_len, rdL_len]; unfold hdr; omega
  rw [e, ← hl, List.drop_left, ← list_size f.data, List.take_left]
end

end Go.Proofs.Ytmhdgpmlconngaa
