/-
  Pieces of frames and how they are joined: mathematics.
-/
import Derived.Test.YtnapelocjcoofaaKl
namespace Go.Proofs.Ytnapelocjcoofaa
open Go.RowKit Go.Proofs.Ytnapelocjcoofaa.Cr

/-- A piece; a state. -/
structure Pc where
  start : Bool
  num : Int
  cnt : Int
  data : ByteArray
structure Ms where
  on : Bool
  num : Int
  next : Int
  data : ByteArray
/-- What marks a CRC. -/
def mkC : Nat := 4294901760
def zM : Ms := ⟨false, 0, 0, ⟨#[]⟩⟩
def okM (m : Ms) : Bool := if m.on then decide ((0 ≤ m.num ∧ m.num ≤ 3) ∧ (0 ≤ m.next ∧ m.next ≤ 3) ∧ 60 ≤ m.data.size ∧ m.data.size ≤ 1518) else decide (m.num = 0 ∧ m.next = 0 ∧ m.data.size = 0)
def okP (p : Pc) : Bool := decide ((0 ≤ p.num ∧ p.num ≤ 3) ∧ (0 ≤ p.cnt ∧ p.cnt ≤ 3) ∧ (p.start = true → p.cnt = 0) ∧ 64 ≤ p.data.size ∧ p.data.size ≤ 1522)
theorem okP_iff {p : Pc} : okP p = true ↔ (0 ≤ p.num ∧ p.num ≤ 3) ∧ (0 ≤ p.cnt ∧ p.cnt ≤ 3) ∧ (p.start = true → p.cnt = 0) ∧ 64 ≤ p.data.size ∧ p.data.size ≤ 1522 := decide_eq_true_iff
theorem okM_on {m : Ms} (h : m.on = true) : okM m = true ↔ (0 ≤ m.num ∧ m.num ≤ 3) ∧ (0 ≤ m.next ∧ m.next ≤ 3) ∧ 60 ≤ m.data.size ∧ m.data.size ≤ 1518 := by unfold okM; rw [if_pos h]; exact decide_eq_true_iff
theorem size_nil {b : ByteArray} (h : b.size = 0) : b = ⟨#[]⟩ := ByteArray.ext (Array.eq_empty_of_size_eq_zero h)
theorem okM_off {m : Ms} (h : m.on = false) : okM m = true ↔ m = zM := by
  unfold okM
  rw [if_neg (by simp [h]), decide_eq_true_iff]
  obtain ⟨o, n, x, d⟩ := m
  constructor
  · rintro ⟨h1, h2, h3⟩
    have h3' := size_nil h3
    simp only at h h1 h2 h3'
    subst h h1 h2 h3'
    rfl
  · intro e
    injection e with _ e1 e2 e3
    subst e1 e2 e3
    exact ⟨rfl, rfl, rfl⟩
theorem okM_zero : okM zM = true := by decide
/-- What Join gives of the octets d. -/
def jnD (d : ByteArray) (num next : Int) : Ms × ByteArray :=
  if 1522 < d.size then (zM, ⟨#[]⟩) else if chk d 0 = true then (zM, d) else if chk d mkC = true then (⟨true, num, next, bef d⟩, ⟨#[]⟩) else (zM, ⟨#[]⟩)
/-- What Join gives of a valid state and a valid piece. -/
def jnR (m : Ms) (p : Pc) : Ms × ByteArray :=
  if p.start = true then jnD p.data p.num 0 else if m.on = true ∧ m.num = p.num ∧ m.next = p.cnt then jnD (m.data ++ p.data) p.num ((m.next + 1) % 4) else (zM, ⟨#[]⟩)
theorem bef_size (d : ByteArray) : (bef d).size = d.size - 4 := by unfold bef; rw [ByteArray.size_extract]; omega
theorem jnD_ok {d : ByteArray} {n x : Int} (h64 : 64 ≤ d.size) (hn : 0 ≤ n ∧ n ≤ 3) (hx : 0 ≤ x ∧ x ≤ 3) : okM (jnD d n x).1 = true := by
  unfold jnD
  split
  · exact okM_zero
  · split
    · exact okM_zero
    · split
      · refine (okM_on rfl).2 ⟨hn, hx, ?_, ?_⟩ <;> (rw [bef_size]; omega)
      · exact okM_zero
theorem jnR_ok {m : Ms} {p : Pc} (hm : okM m = true) (hp : okP p = true) : okM (jnR m p).1 = true := by
  obtain ⟨h1, h2, h3, h4, h5⟩ := okP_iff.1 hp
  unfold jnR
  split
  · exact jnD_ok h4 h1 (by omega)
  · split
    · rename_i hh
      have h6 := (okM_on hh.1).1 hm
      exact jnD_ok (by rw [ByteArray.size_append]; omega) h1 (by omega)
    · exact okM_zero
/-- A frame that is returned. -/
theorem jnD_frame {d : ByteArray} {n x : Int} (h64 : 64 ≤ d.size) (h : (jnD d n x).2 ≠ ⟨#[]⟩) : (jnD d n x).2 = d ∧ chk d 0 = true ∧ d.size ≤ 1522 ∧ (jnD d n x).1 = zM := by
  unfold jnD at *
  split at h
  · exact absurd rfl h
  · rename_i h1
    split at h
    · rename_i h2
      rw [if_neg h1, if_pos h2]
      exact ⟨rfl, h2, by omega, rfl⟩
    · split at h <;> exact absurd rfl h

/-- Allowed cuts of a string of n octets. -/
def cu (cs : List Int) (i : Nat) : Int := cs.getD i 0
def la (cs : List Int) (i : Nat) : Int := if i = 0 then 0 else cu cs (i - 1)
def okC (n : Nat) (cs : List Int) : Bool := decide (∀ i, i < cs.length → cu cs i ≤ (n : Int) - 64 ∧ 0 ≤ cu cs i ∧ 60 ≤ cu cs i - la cs i)
theorem okC_iff {n : Nat} {cs : List Int} : okC n cs = true ↔ ∀ i, i < cs.length → cu cs i ≤ (n : Int) - 64 ∧ 0 ≤ cu cs i ∧ 60 ≤ cu cs i - la cs i := decide_eq_true_iff
theorem la_nonneg {n : Nat} {cs : List Int} (h : okC n cs = true) {i : Nat} (hi : i ≤ cs.length) : 0 ≤ la cs i := by
  unfold la
  split
  · omega
  · exact ((okC_iff.1 h) (i - 1) (by omega)).2.1
theorem la_le {n : Nat} {cs : List Int} (h : okC n cs = true) (hn : 64 ≤ n) {i : Nat} (hi : i ≤ cs.length) : la cs i ≤ (n : Int) - 64 := by
  unfold la
  split
  · omega
  · exact ((okC_iff.1 h) (i - 1) (by omega)).1
theorem la_ge {n : Nat} {cs : List Int} (h : okC n cs = true) {i : Nat} (h0 : 0 < i) (hi : i ≤ cs.length) : 60 ≤ la cs i := by
  have h1 := (okC_iff.1 h) (i - 1) (by omega)
  have h2 := la_nonneg h (i := i - 1) (by omega)
  have e : la cs i = cu cs (i - 1) := by unfold la; rw [if_neg (by omega)]
  omega
theorem la_succ (cs : List Int) (i : Nat) : la cs (i + 1) = cu cs i := by unfold la; rw [if_neg (by omega), Nat.add_sub_cancel]
/-- The count of piece i. -/
def cn (i : Nat) : Int := (((i - 1) % 4 : Nat) : Int)
/-- The Data of piece i. -/
def pcD (s : ByteArray) (cs : List Int) (i : Nat) : ByteArray :=
  if i < cs.length then (sealB (s.extract 0 (cu cs i).toNat) mkC).extract (la cs i).toNat ((cu cs i).toNat + 4) else s.extract (la cs i).toNat s.size
/-- Piece i. -/
def pcI (s : ByteArray) (num : Int) (cs : List Int) (i : Nat) : Pc := ⟨decide (i = 0), num, cn i, pcD s cs i⟩
theorem cn_in (i : Nat) : 0 ≤ cn i ∧ cn i ≤ 3 := by unfold cn; omega

section
variable {s : ByteArray} {num : Int} {cs : List Int}
theorem pcD_size (h64 : 64 ≤ s.size) (hc : okC s.size cs = true) {i : Nat} (hi : i ≤ cs.length) : ((pcD s cs i).size : Int) = if i < cs.length then cu cs i - la cs i + 4 else (s.size : Int) - la cs i := by
  have h0 := la_nonneg hc hi
  have h1 := la_le hc h64 hi
  unfold pcD
  by_cases hlt : i < cs.length
  · have h2 := (okC_iff.1 hc) i hlt
    have e : (sealB (s.extract 0 (cu cs i).toNat) mkC).size = (cu cs i).toNat + 4 := by rw [sealB_size, ByteArray.size_extract]; omega
    rw [if_pos hlt, if_pos hlt, ByteArray.size_extract, e]
    omega
  · rw [if_neg hlt, if_neg hlt, ByteArray.size_extract]
    omega
theorem pcI_ok (h64 : 64 ≤ s.size) (hm : s.size ≤ 1522) (hc : okC s.size cs = true) (hn : 0 ≤ num ∧ num ≤ 3) {i : Nat} (hi : i ≤ cs.length) : okP (pcI s num cs i) = true := by
  have h0 := la_nonneg hc hi
  have h1 := la_le hc h64 hi
  have hz := pcD_size h64 hc hi
  refine okP_iff.2 ⟨hn, cn_in i, fun h => ?_, ?_, ?_⟩
  · have : i = 0 := of_decide_eq_true h
    subst this
    rfl
  · show 64 ≤ (pcD s cs i).size
    split at hz
    · rename_i hlt
      have h2 := (okC_iff.1 hc) i hlt
      omega
    · omega
  · show (pcD s cs i).size ≤ 1522
    split at hz
    · rename_i hlt
      have h2 := (okC_iff.1 hc) i hlt
      omega
    · omega
theorem ext_app {a : ByteArray} {i j : Nat} (h1 : i ≤ j) (_ : j ≤ a.size) : a.extract 0 i ++ a.extract i j = a.extract 0 j := by
  apply ByteArray.ext
  rw [ByteArray.data_append, ByteArray.data_extract, ByteArray.data_extract, ByteArray.data_extract, Array.extract_append_extract]
  rw [Nat.min_eq_left (Nat.zero_le _), Nat.max_eq_right h1]
theorem ext_ext {a : ByteArray} {i j : Nat} (h : i ≤ j) : (a.extract 0 j).extract 0 i = a.extract 0 i := by
  apply ByteArray.ext
  rw [ByteArray.data_extract, ByteArray.data_extract, ByteArray.data_extract, Array.extract_extract]
  rw [Nat.zero_add, Nat.zero_add, Nat.min_eq_left h]
theorem ext_all (a : ByteArray) : a.extract 0 a.size = a := by
  apply ByteArray.ext
  rw [ByteArray.data_extract]
  show a.data.extract 0 a.data.size = a.data
  simp
theorem seal_pre {a : ByteArray} {m i : Nat} (h : i ≤ a.size) : (sealB a m).extract 0 i = a.extract 0 i := by
  apply ByteArray.ext
  unfold sealB
  rw [ByteArray.data_extract, ByteArray.data_extract, ByteArray.data_append]
  apply Array.toList_inj.1
  have e : a.data.toList.length = a.size := by simp
  simp only [Array.toList_extract, Array.toList_append, List.extract_eq_take_drop, List.drop_zero, Nat.sub_zero]
  rw [List.take_append_of_le_length (by omega)]
/-- The octets up to the end of piece i. -/
theorem pre_pc (h64 : 64 ≤ s.size) (hc : okC s.size cs = true) {i : Nat} (hi : i ≤ cs.length) : s.extract 0 (la cs i).toNat ++ pcD s cs i = if i < cs.length then sealB (s.extract 0 (cu cs i).toNat) mkC else s := by
  have h0 := la_nonneg hc hi
  have h1 := la_le hc h64 hi
  unfold pcD
  by_cases hlt : i < cs.length
  · have h2 := (okC_iff.1 hc) i hlt
    have e : (sealB (s.extract 0 (cu cs i).toNat) mkC).size = (cu cs i).toNat + 4 := by rw [sealB_size, ByteArray.size_extract]; omega
    have es : (s.extract 0 (cu cs i).toNat).size = (cu cs i).toNat := by rw [ByteArray.size_extract]; omega
    rw [if_pos hlt, if_pos hlt]
    have e2 : s.extract 0 (la cs i).toNat = (sealB (s.extract 0 (cu cs i).toNat) mkC).extract 0 (la cs i).toNat := by
      rw [seal_pre (by omega), ext_ext (by omega)]
    rw [e2, ext_app (by omega) (by omega), ← e, ext_all]
  · rw [if_neg hlt, if_neg hlt, ext_app (by omega) (by omega), ext_all]

/-- The state behind piece i - 1. -/
def st (s : ByteArray) (num : Int) (cs : List Int) (i : Nat) : Ms := ⟨true, num, cn i, s.extract 0 (la cs i).toNat⟩
theorem st_ok (h64 : 64 ≤ s.size) (hm : s.size ≤ 1522) (hc : okC s.size cs = true) (hn : 0 ≤ num ∧ num ≤ 3) {i : Nat} (h0 : 0 < i) (hi : i ≤ cs.length) : okM (st s num cs i) = true := by
  have h1 := la_le hc h64 hi
  have h2 := la_ge hc h0 hi
  refine (okM_on rfl).2 ⟨hn, cn_in i, ?_, ?_⟩
  · show 60 ≤ (s.extract 0 (la cs i).toNat).size
    rw [ByteArray.size_extract]; omega
  · show (s.extract 0 (la cs i).toNat).size ≤ 1518
    rw [ByteArray.size_extract]; omega
theorem cn_next {i : Nat} (h0 : 0 < i) : (cn i + 1) % 4 = cn (i + 1) := by unfold cn; omega
theorem jnD_pc (h64 : 64 ≤ s.size) (hm : s.size ≤ 1522) (hg : chk s 0 = true) (hc : okC s.size cs = true) {i : Nat} (hi : i ≤ cs.length) {x : Int} (hx : x = cn (i + 1)) :
    jnD (s.extract 0 (la cs i).toNat ++ pcD s cs i) num x = if i < cs.length then (st s num cs (i + 1), ⟨#[]⟩) else (zM, s) := by
  rw [pre_pc h64 hc hi]
  unfold jnD
  by_cases hlt : i < cs.length
  · have h2 := (okC_iff.1 hc) i hlt
    have e : (sealB (s.extract 0 (cu cs i).toNat) mkC).size = (cu cs i).toNat + 4 := by rw [sealB_size, ByteArray.size_extract]; omega
    rw [if_pos hlt, if_pos hlt, if_neg (by omega), if_neg (by rw [chk_seal_ne (by decide) (by decide) (by decide)]; decide), if_pos (chk_seal _ _), bef_seal]
    unfold st
    rw [la_succ, hx]
  · rw [if_neg hlt, if_neg hlt, if_neg (by omega), if_pos hg]
theorem jn_first (h64 : 64 ≤ s.size) (hm : s.size ≤ 1522) (hg : chk s 0 = true) (hc : okC s.size cs = true) (m : Ms) :
    jnR m (pcI s num cs 0) = if 0 < cs.length then (st s num cs 1, ⟨#[]⟩) else (zM, s) := by
  have h := jnD_pc (num := num) h64 hm hg hc (i := 0) (Nat.zero_le _) (x := 0) rfl
  rw [show (la cs 0).toNat = 0 from rfl, show s.extract 0 0 = ⟨#[]⟩ from size_nil (by rw [ByteArray.size_extract]; omega)] at h
  have e : (⟨#[]⟩ : ByteArray) ++ pcD s cs 0 = pcD s cs 0 := by
    apply ByteArray.ext
    rw [ByteArray.data_append]
    simp
  rw [e] at h
  unfold jnR
  rw [if_pos (show (pcI s num cs 0).start = true from rfl)]
  exact h
theorem jn_next (h64 : 64 ≤ s.size) (hm : s.size ≤ 1522) (hg : chk s 0 = true) (hc : okC s.size cs = true) {i : Nat} (h0 : 0 < i) (hi : i ≤ cs.length) :
    jnR (st s num cs i) (pcI s num cs i) = if i < cs.length then (st s num cs (i + 1), ⟨#[]⟩) else (zM, s) := by
  have h := jnD_pc (num := num) h64 hm hg hc hi (x := (cn i + 1) % 4) (cn_next h0)
  unfold jnR
  rw [if_neg (by simp [pcI]; omega), if_pos ⟨rfl, rfl, rfl⟩]
  exact h
/-- A state in which no piece fits. -/
theorem jn_off {m : Ms} {p : Pc} (hp : p.start = false) (h : ¬ (m.on = true ∧ m.num = p.num ∧ m.next = p.cnt)) : jnR m p = (zM, ⟨#[]⟩) := by
  unfold jnR
  rw [if_neg (by simp [hp]), if_neg h]
end

end Go.Proofs.Ytnapelocjcoofaa
