/-
  The octets of a frame's encoding; what Decode gives: mathematics.
-/
import Derived.Test.YtmhdgpmlconngaaFa
import Derived.Test.YtmhdgpmlconngaaRp
import Derived.Test.YtmhdgpmlconngaaWg
namespace Go.Proofs.Ytmhdgpmlconngaa
open Go.RowKit Go.Proofs.Ytmhdgpmlconngaa.Cr

def tl (f : Fr) : Int := if f.typ = 0 then (f.data.size : Int) else f.typ
def b0 (f : Fr) : ByteArray := noS ++ be f.dst 6 ++ be f.src 6
def b1 (f : Fr) : ByteArray := if f.tag then b0 f ++ be 33024 2 ++ be (f.prio * 8192 + f.vid) 2 else b0 f
def b2 (f : Fr) : ByteArray := if f.red then b1 f ++ be 61889 2 ++ be f.seq 4 else b1 f
/-- The octets before the padding. -/
def b3 (f : Fr) : ByteArray := b2 f ++ be (tl f) 2 ++ f.data
/-- The octets of the encoding, without the check octets. -/
def bod (f : Fr) : ByteArray := b3 f ++ cop 0 (60 - (b3 f).size)
/-- The encoding. -/
def enc (f : Fr) : ByteArray := sealB (bod f) 0
/-- How many octets stand before Data. -/
def hdr (f : Fr) : Nat := 14 + (if f.tag then 4 else 0) + (if f.red then 6 else 0)

theorem b0_size (f : Fr) : (b0 f).size = 12 := by unfold b0; rw [ByteArray.size_append, ByteArray.size_append, be_size, be_size]; rfl
theorem b1_size (f : Fr) : (b1 f).size = 12 + (if f.tag then 4 else 0) := by
  unfold b1
  split
  · rw [ByteArray.size_append, ByteArray.size_append, be_size, be_size, b0_size]
  · rw [b0_size]
theorem b2_size (f : Fr) : (b2 f).size + 2 = hdr f := by
  have h := b1_size f
  unfold b2 hdr
  split
  · rw [ByteArray.size_append, ByteArray.size_append, be_size, be_size]; omega
  · omega
theorem b3_size (f : Fr) : (b3 f).size = hdr f + f.data.size := by
  unfold b3
  have := b2_size f
  rw [ByteArray.size_append, ByteArray.size_append, be_size]
  omega
theorem bod_size (f : Fr) : (bod f).size = max 60 (hdr f + f.data.size) := by
  unfold bod
  rw [ByteArray.size_append, cop_size, b3_size]
  omega
theorem hdr_le (f : Fr) : 14 ≤ hdr f ∧ hdr f ≤ 24 := by unfold hdr; cases f.tag <;> cases f.red <;> simp
theorem enc_size (f : Fr) : (enc f).size = (bod f).size + 4 := sealB_size _ _

/-- What makes a frame valid. -/
structure Ok (f : Fr) : Prop where
  dst : 0 ≤ f.dst ∧ f.dst ≤ 281474976710655
  src : 0 ≤ f.src ∧ f.src ≤ 281474976710655
  prio : 0 ≤ f.prio ∧ f.prio ≤ ifs f.tag 7
  vid : 0 ≤ f.vid ∧ f.vid ≤ ifs f.tag 4094
  seq : 0 ≤ f.seq ∧ f.seq ≤ ifs f.red 65535
  typ : f.typ = 0 ∨ (1536 ≤ f.typ ∧ f.typ ≤ 65535 ∧ f.typ ≠ 33024 ∧ f.typ ≠ 61889)
  data : (f.data.size : Int) ≤ rm f.red
theorem ok_iff {f : Fr} : okB f = true ↔ Ok f := by
  unfold okB gB
  simp only [Bool.and_eq_true, to_iff, tB_iff, decide_eq_true_eq]
  constructor
  · rintro ⟨⟨⟨⟨h1, h2⟩, ⟨h3, h4⟩, h5⟩, h6⟩, h7⟩
    exact ⟨h1, h2, h3, h4, h5, h6, h7⟩
  · rintro ⟨h1, h2, h3, h4, h5, h6, h7⟩
    exact ⟨⟨⟨⟨h1, h2⟩, ⟨h3, h4⟩, h5⟩, h6⟩, h7⟩
theorem rm_le (b : Bool) : rm b ≤ 1500 := by cases b <;> simp [rm]
theorem Ok.size {f : Fr} (h : Ok f) : f.data.size ≤ 1500 := by have := h.data; have := rm_le f.red; omega
theorem Ok.bod_le {f : Fr} (h : Ok f) : (bod f).size ≤ 1518 := by
  rw [bod_size]
  have h1 := h.data
  unfold rm at h1
  unfold hdr
  cases hr : f.red <;> cases f.tag <;> simp [hr] at h1 ⊢ <;> omega
theorem Ok.tl {f : Fr} (h : Ok f) : 0 ≤ tl f ∧ tl f ≤ 65535 ∧ tl f ≠ 33024 ∧ tl f ≠ 61889 := by
  have h1 := h.size
  unfold Go.Proofs.Ytmhdgpmlconngaa.tl
  rcases h.typ with h2 | h2
  · rw [if_pos h2]; omega
  · rw [if_neg (by omega)]; omega

/-- No padding is encoded, or its end is told. -/
def full (f : Fr) : Prop := f.typ = 0 ∨ 60 ≤ hdr f + f.data.size

/-- An integer in the octets of a string. -/
def rd (b : ByteArray) (a k : Nat) : Int := vl 0 (sub b a k)
theorem sub_at {s : ByteArray} {A B C : List UInt8} {a k : Nat} (h : s.data.toList = A ++ (B ++ C)) (ha : A.length = a) (hk : B.length = k) : sub s a k = B := by
  unfold sub
  rw [h, ← ha, List.drop_left, ← hk, List.take_left]
theorem rd_be {s : ByteArray} {A C : List UInt8} {a k : Nat} {n : Int} (h : s.data.toList = A ++ ((be n k).data.toList ++ C)) (ha : A.length = a) : rd s a k = n % pw k := by
  unfold rd
  rw [sub_at h ha (by rw [show (be n k).data.toList.length = (be n k).size by simp, be_size]), vl_be]
  omega

/-- The frame whose fields stand in a string, the tags being told. -/
def fr3 (b : ByteArray) (t r : Bool) (d s p v q : Int) (a : Nat) : Option Fr :=
  if rd b a 2 < 1536 then
    if (a : Int) + 2 + rd b a 2 ≤ b.size then some ⟨d, s, t, p, v, r, q, 0, b.extract (a + 2) (a + 2 + (rd b a 2).toNat)⟩ else none
  else some ⟨d, s, t, p, v, r, q, rd b a 2, b.extract (a + 2) b.size⟩
def fr2 (b : ByteArray) (t : Bool) (d s p v : Int) (a : Nat) : Option Fr :=
  if b.size < a + 2 then none
  else if rd b a 2 = 61889 then (if b.size < a + 8 then none else fr3 b t true d s p v (rd b (a + 2) 4) (a + 6))
  else fr3 b t false d s p v 0 a
/-- The frame whose fields stand in a string. -/
def prs (b : ByteArray) : Option Fr :=
  if b.size < 14 then none
  else if rd b 12 2 = 33024 then (if b.size < 16 then none else fr2 b true (rd b 0 6) (rd b 6 6) (rd b 14 2 / 8192) (rd b 14 2 % 8192) 16)
  else fr2 b false (rd b 0 6) (rd b 6 6) 0 0 12
/-- What Decode gives. -/
def dec (s : ByteArray) : Option Fr := if chk s 0 then (prs (bef s)).filter (fun f => okB f && decide (bod f = bef s)) else none

end Go.Proofs.Ytmhdgpmlconngaa
