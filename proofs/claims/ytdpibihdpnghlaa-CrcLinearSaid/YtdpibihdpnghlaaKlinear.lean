/-
  CrcLinear: the CRC of the exclusive or of three strings is the exclusive or of their CRCs.
-/
import Derived.Test.YtdpibihdpnghlaaKl
import Derived.Test.YtdpibihdpnghlaaKn
import Derived.Deep.RegionHeld3
namespace Go.Proofs.Ytdpibihdpnghlaa
open Go.RowKit Go.Proofs.Ytdpibihdpnghlaa.Cr

/-- The first k octets of l, then octets 0. -/
def laid (l : List UInt8) (k : Nat) : List UInt8 := l.take k ++ List.replicate (l.length - k) 0
theorem laid_length {l : List UInt8} {k : Nat} (h : k ≤ l.length) : (laid l k).length = l.length := by
  unfold laid
  rw [List.length_append, List.length_take, List.length_replicate]
  omega
theorem laid_zero (l : List UInt8) : laid l 0 = List.replicate l.length 0 := rfl
theorem laid_all (l : List UInt8) : laid l l.length = l := by unfold laid; rw [List.take_length, Nat.sub_self]; simp
theorem laid_set {l : List UInt8} {k : Nat} (h : k < l.length) : (laid l k).set k l[k] = laid l (k + 1) := by
  unfold laid
  have e : l.length - k = (l.length - (k + 1)) + 1 := by omega
  have ht : (l.take k).length = k := by rw [List.length_take]; omega
  rw [e, List.replicate_succ, List.take_succ_eq_append_getElem h, List.append_assoc]
  rw [List.set_append_right _ _ (by omega), ht, Nat.sub_self]
  rfl
theorem Bs.put {w : World} {b : Nat} {l : List UInt8} (h : Bs w b l) {i : Nat} (hi : i < l.length) (v : UInt8) : Bs (w.setCell ⟨b, i, none⟩ (.int .u8 (v.toNat : Int))) b (l.set i v) := by
  refine ⟨by rw [World.size_setCell]; exact h.1, fun j hj => ⟨?_, by rw [World.frozen?_setCell]; exact (h.2 j (by simpa using hj)).2⟩⟩
  have hj' : j < l.length := by simpa using hj
  by_cases e : i = j
  · subst e
    rw [World.cell?_setCell_same _ _ _ (h.2 i hi).1]
    simp
  · rw [World.cell?_setCell_other _ _ _ _ (by intro h'; injection h' with _ h'; omega), (h.2 j hj').1]
    rw [List.getElem_set_ne e]
theorem Bs.go {w w' : World} {b : Nat} {l : List UInt8} (h : Bs w b l) (g : Bl w w') : Bs w' b l :=
  ⟨Nat.lt_of_lt_of_le h.1 g.size, fun i hi => ⟨(g.cell (p := ⟨b, i, none⟩) h.1).trans (h.2 i hi).1, (g.frozen (p := ⟨b, i, none⟩) h.1).trans (h.2 i hi).2⟩⟩
/-- The exclusive or of the first n octets of three strings. -/
def mix (a b c : ByteArray) (n : Nat) : List UInt8 := List.zipWith (· ^^^ ·) (List.zipWith (· ^^^ ·) (a.extract 0 n).data.toList (b.extract 0 n).data.toList) (c.extract 0 n).data.toList
theorem ext_length {a : ByteArray} {n : Nat} (h : n ≤ a.size) : (a.extract 0 n).data.toList.length = n := by
  have : (a.extract 0 n).data.toList.length = (a.extract 0 n).size := by simp
  rw [this, ByteArray.size_extract]; omega
theorem ext_get {a : ByteArray} {n i : Nat} (h : i < (a.extract 0 n).data.toList.length) (h2 : i < a.size) : (a.extract 0 n).data.toList[i] = a[i] := by
  have e : (a.extract 0 n).data.toList = a.data.toList.take n := by
    rw [ByteArray.data_extract, Array.toList_extract, List.extract_eq_take_drop, List.drop_zero, Nat.sub_zero]
  simp only [e, List.getElem_take]
  rfl
theorem mix_length {a b c : ByteArray} {n : Nat} (ha : n ≤ a.size) (hb : n ≤ b.size) (hc : n ≤ c.size) : (mix a b c n).length = n := by
  unfold mix
  rw [List.length_zipWith, List.length_zipWith, ext_length ha, ext_length hb, ext_length hc]
  omega
theorem mix_get {a b c : ByteArray} {n i : Nat} (h : i < (mix a b c n).length) (ha : i < a.size) (hb : i < b.size) (hc : i < c.size) : (mix a b c n)[i] = a[i] ^^^ b[i] ^^^ c[i] := by
  have h' := h
  unfold mix at h'
  show (List.zipWith _ _ _)[i]'h' = _
  rw [List.getElem_zipWith, List.getElem_zipWith, ext_get _ ha, ext_get _ hb, ext_get _ hc]
theorem u8x (x y : UInt8) : bits .xor .u8 (x.toNat : Int) (y.toNat : Int) = ((x ^^^ y).toNat : Int) := by
  rw [u8_xor_nat _ _ x.toNat_lt y.toNat_lt, UInt8.toNat_xor]

set_option maxRecDepth 20000 in
set_option maxHeartbeats 1000000 in
theorem linear_law (a b c : ByteArray) (ha : a.size ≤ maxLen) (w : World) :
    Calls Try.prog 7 #[.string a, .string b, .string c] w fun e w' => e = .returned (.bool true) ∧ Bl w w' := by
  have KW := Lib.hid (fun w => works_any w)
  unfold maxLen at ha
  obtain ⟨p, hp1, hp2, hp3⟩ : ∃ p : Nat, (if (100 : Int) < a.size then 100 else (a.size : Int)) = (p : Int) ∧ p ≤ a.size ∧ p ≤ 100 := ⟨min a.size 100, by split <;> omega, by omega, by omega⟩
  obtain ⟨q, hq1, hq2, hq3⟩ : ∃ q : Nat, (if c.size < b.size then (c.size : Int) else (b.size : Int)) = (q : Int) ∧ q ≤ b.size ∧ q ≤ c.size := ⟨min b.size c.size, by split <;> omega, by omega, by omega⟩
  obtain ⟨n, hn1, hn2, hn3⟩ : ∃ n : Nat, (if q < p then (q : Int) else (p : Int)) = (n : Int) ∧ n ≤ p ∧ n ≤ q := ⟨min p q, by split <;> omega, by omega, by omega⟩
  have na : n ≤ a.size := by omega
  have nb : n ≤ b.size := by omega
  have nc : n ≤ c.size := by omega
  have n1 : n ≤ 100 := by omega
  have hmk := fun W => make_u8 n (by omega) W
  have hz := Lib.hid (mix_length na nb nc)
  go_enter Try.func7, Try.ntmps7
  go_wp2_with fail
  refine (KW.out _).mono ?_; rintro e w1 ⟨rfl, gr⟩
  have G := Lib.hid gr
  have hle := gr.size
  clear gr
  go_wp2_with fail
  generalize hw2 : w1.alloc (.cells (Array.replicate n (.int .u8 0)) 5) = w2
  have HB := Lib.hid (show Bs w2 w1.heap.size (laid (mix a b c n) 0) by rw [laid_zero, hz.out, ← hw2]; exact zeros_in w1 n _)
  replace G := Lib.hid (show Bl w w2 by rw [← hw2]; exact G.out.alloc _)
  have hle' := Lib.hid hle
  clear hw2 hle hmk hp1 hp2 hp3 hq1 hq2 hq3 hn1 hn2 hn3 KW
  generalize w1.heap.size = h at *
  go_loopw [9] (fun i wr => ∃ k : Nat, k ≤ n ∧ i = .int .i64 (k : Int) ∧ Hid (Bs wr h (laid (mix a b c n) k)) ∧ Hid (Bl w wr)) (fun i _ => n - (intOf i).toNat)
  case atStart => exact ⟨0, by omega, rfl, HB, G⟩
  case round =>
    clear HB G
    obtain ⟨k, hk, rfl, HB, G⟩ := hrel
    by_cases hlt : k < n
    · have hlm : k < (mix a b c n).length := by rw [hz.out]; exact hlt
      have hll : k < (laid (mix a b c n) k).length := by rw [laid_length (by omega)]; exact hlm
      have ka : k < a.size := by omega
      have kb : k < b.size := by omega
      have kc : k < c.size := by omega
      have hcell := (HB.out.2 k hll).1
      have hf := (HB.out.2 k hll).2
      have HS := Lib.hid (HB.out.put hll (a[k] ^^^ b[k] ^^^ c[k]))
      rw [← mix_get hlm ka kb kc, laid_set hlm, mix_get hlm ka kb kc] at HS
      have HV := fun v => Lib.hid ((G.out.setCell (p := ⟨h, k, none⟩) hle'.out v).drew)
      have e1 := u8x a[k] b[k]
      have e2 := u8x (a[k] ^^^ b[k]) c[k]
      generalize (laid (mix a b c n) k)[k] = old at *
      generalize a[k] ^^^ b[k] ^^^ c[k] = v at *
      generalize a[k] ^^^ b[k] = u at *
      clear HB G hlm hll
      go_wp2_with fail
      go_region
      go_wp2
      go_roundw
      case rel => exact ⟨k + 1, by omega, by go_num, HS, HV _⟩
      case measure => simp [intOf]; omega
    · obtain rfl : k = n := by omega
      have hZ : laid (mix a b c k) k = mix a b c k := by have h := laid_all (mix a b c k); rw [hz.out] at h; exact h
      rw [hZ] at HB
      have KC := Lib.hid (fun (w' : World) (g : Bl wr w') => by have h1 := back w' h k (mix a b c k) (HB.out.go g); rw [hz.out] at h1; exact h1)
      have E := of_xor3 (a := (a.extract 0 k).data.toList) (b := (b.extract 0 k).data.toList) (c := (c.extract 0 k).data.toList) (by rw [ext_length na, ext_length nb]) (by rw [ext_length nb, ext_length nc])
      have sa : (a.extract 0 k).size = k := by rw [ByteArray.size_extract]; omega
      have sb : (b.extract 0 k).size = k := by rw [ByteArray.size_extract]; omega
      have sc : (c.extract 0 k).size = k := by rw [ByteArray.size_extract]; omega
      have K1 := Lib.hid (fun w => (show ofN (bstr (mix a b c k)).data.toList = ofN (a.extract 0 k).data.toList ^^^ ofN (b.extract 0 k).data.toList ^^^ ofN (c.extract 0 k).data.toList by rw [bstr_list]; exact E) ▸ of_any (bstr (mix a b c k)) (by rw [bstr_size, hz.out]; omega) w)
      have K2 := Lib.hid (fun w => of_any (a.extract 0 k) (by omega) w)
      have K3 := Lib.hid (fun w => of_any (b.extract 0 k) (by omega) w)
      have K4 := Lib.hid (fun w => of_any (c.extract 0 k) (by omega) w)
      have f1 := u32_xor_nat _ _ (ofN_lt (a.extract 0 k).data.toList) (ofN_lt (b.extract 0 k).data.toList)
      have f2 := u32_xor_nat _ _ (mark_lt (ofN_lt (a.extract 0 k).data.toList) (ofN_lt (b.extract 0 k).data.toList)) (ofN_lt (c.extract 0 k).data.toList)
      clear E hZ
      unfold Go.Proofs.Ytdpibihdpnghlaa.u32 at *
      generalize ofN (a.extract 0 k).data.toList = x1 at *
      generalize ofN (b.extract 0 k).data.toList = x2 at *
      generalize ofN (c.extract 0 k).data.toList = x3 at *
      generalize x1 ^^^ x2 ^^^ x3 = x at *
      generalize x1 ^^^ x2 = u at *
      generalize bstr (mix a b c k) = z at *
      clear HB hz
      go_wp2_with fail
      go_region_held3 (fun w' => (convert 37 9 (.slice (some ⟨h, 0, none⟩) k k)).run Try.prog w' = .ok (.string z) w' ∧ Hid (Bl wr w')) (first | with_reducible assumption | exact ⟨KC.out _ (Bl.refl wr).drew, Lib.hid (Bl.refl wr).drew⟩ | (rename _ ∧ Hid (Bl wr _) => hq; (with_reducible exact ⟨KC.out _ (Bl.trans hq.2.out hgr), Lib.hid (Bl.trans hq.2.out hgr)⟩)) | fail) (first | (go_at_call 10; (with_reducible refine (K1.out _).mono ?_); rintro e wn ⟨rfl, hgr⟩) | (go_at_call 10; (with_reducible refine (K2.out _).mono ?_); rintro e wn ⟨rfl, hgr⟩) | (go_at_call 10; (with_reducible refine (K3.out _).mono ?_); rintro e wn ⟨rfl, hgr⟩) | (go_at_call 10; (with_reducible refine (K4.out _).mono ?_); rintro e wn ⟨rfl, hgr⟩) | fail)
      rename _ ∧ Hid (Bl wr _) => hq
      have G2 := Lib.hid (G.out.trans hq.2.out)
      clear hq
      go_wp2_with fail
      go_ret
      exact ⟨rfl, G2.out⟩

end Go.Proofs.Ytdpibihdpnghlaa
