/-
  What the reference's Flip returns: a string with some of its bits changed.
-/
import Derived.Test.YtnapelocjcoofaaKg
import Derived.Laws.IdiomStrings
namespace Go.Proofs.Ytnapelocjcoofaa
open Go.RowKit Go.Proofs.Ytnapelocjcoofaa.Cr

/-- In block b lie the octets l. -/
def Bs (w : World) (b : Nat) (l : List UInt8) : Prop :=
  b < w.heap.size ∧ ∀ i (hi : i < l.length), w.cell? ⟨b, i, none⟩ = some (.int .u8 (l[i].toNat : Int)) ∧ w.frozen? ⟨b, i, none⟩ = false
theorem and_shift (p k : Nat) (hp : p < 4294967296) : bits .and .u32 ((p : Int) / 2 ^ k) 1 = ((p / 2 ^ k % 2 : Nat) : Int) := by
  have h : p / 2 ^ k ≤ p := Nat.div_le_self _ _
  have e : (p : Int) / 2 ^ k = ((p / 2 ^ k : Nat) : Int) := by rw [Int.natCast_ediv, Int.natCast_pow]; rfl
  rw [e]
  exact and_one _ (by omega)
theorem Bs.drew {w : World} {b : Nat} {l : List UInt8} (h : Bs w b l) : Bs w.drew b l := h
theorem bytes_in (s : ByteArray) (cap : Nat) (t : TypeId) (w : World) : Bs (w.drew.alloc (.cells (bytesRow s cap) t ((bytesRow s cap).size, (bytesRow s cap).size + 1))) w.heap.size s.data.toList := by
  refine ⟨by show w.heap.size < (w.drew.heap.push _).size; rw [Array.size_push]; exact Nat.lt_succ_self _, fun i hi => ?_⟩
  have hg : (w.drew.alloc (.cells (bytesRow s cap) t ((bytesRow s cap).size, (bytesRow s cap).size + 1))).heap[w.heap.size]? = some (.cells (bytesRow s cap) t ((bytesRow s cap).size, (bytesRow s cap).size + 1)) := heap_alloc_new w.drew _
  have hi' : i < s.data.size := by simpa using hi
  have hsz : i < (bytesRow s cap).size := by unfold bytesRow; rw [Array.size_append, Array.size_map]; omega
  constructor
  · rw [cell_of_row _ _ _ _ _ _ hg]
    unfold bytesRow
    rw [Array.getElem?_append, if_pos (by rw [Array.size_map]; exact hi'), Array.getElem?_map, Array.getElem?_eq_getElem hi']
    rfl
  · unfold World.frozen?
    rw [hg]
    show (decide ((bytesRow s cap).size ≤ i) && decide (i < (bytesRow s cap).size + 1)) = false
    rw [decide_eq_false (by omega)]
    rfl
theorem Bs.set {w : World} {b : Nat} {l : List UInt8} (h : Bs w b l) {i : Nat} (hi : i < l.length) (f : UInt8 → UInt8) : Bs (w.setCell ⟨b, i, none⟩ (.int .u8 ((f l[i]).toNat : Int))) b (l.modify i f) := by
  refine ⟨by rw [World.size_setCell]; exact h.1, fun j hj => ⟨?_, by rw [World.frozen?_setCell]; exact (h.2 j (by simpa using hj)).2⟩⟩
  have hj' : j < l.length := by simpa using hj
  by_cases e : i = j
  · subst e
    rw [World.cell?_setCell_same _ _ _ (h.2 i hi).1]
    simp
  · rw [World.cell?_setCell_other _ _ _ _ (by intro h'; injection h' with _ h'; omega), (h.2 j hj').1]
    rw [List.getElem_modify, if_neg e]

theorem xor_bit (x : UInt8) {r : Nat} (hr : r < 8) : bits .xor .u8 (x.toNat : Int) ((2 : Int) ^ r % 256) = ((x ^^^ UInt8.ofNat (2 ^ r)).toNat : Int) := by
  have hp : 2 ^ r < 2 ^ 8 := Nat.pow_lt_pow_right (by decide) hr
  have e : (2 : Int) ^ r % 256 = ((2 ^ r : Nat) : Int) := by
    have e0 : (2 : Int) ^ r = ((2 ^ r : Nat) : Int) := by rw [Int.natCast_pow]; rfl
    rw [e0]
    generalize 2 ^ r = y at *
    omega
  have hx : x.toNat < 256 := x.toNat_lt
  rw [e, u8_xor_nat _ _ hx (by omega), UInt8.toNat_xor, UInt8.toNat_ofNat', Nat.mod_eq_of_lt hp]
theorem flip_yes {l : List UInt8} {k p i : Nat} (h1 : p / 2 ^ i % 2 = 1) (h2 : k + i < 8 * l.length) : Cr.flip l k p (i + 1) = (Cr.flip l k p i).modify ((k + i) / 8) (fun b => b ^^^ UInt8.ofNat (2 ^ ((k + i) % 8))) := by
  rw [Cr.flip, if_pos ⟨h1, h2⟩]
  rfl
theorem flip_no {l : List UInt8} {k p i : Nat} (h : ¬ (p / 2 ^ i % 2 = 1 ∧ k + i < 8 * l.length)) : Cr.flip l k p (i + 1) = Cr.flip l k p i := by rw [Cr.flip, if_neg h]
theorem flip_set {w : World} {b : Nat} {l : List UInt8} {a k p i r : Nat} (h : Bs w b (Cr.flip l a p k)) (h1 : p / 2 ^ k % 2 = 1) (h2 : a + k < 8 * l.length) (hi : (a + k) / 8 = i) (hr : (a + k) % 8 = r) (hx : i < (Cr.flip l a p k).length) :
    Bs (w.setCell ⟨b, i, none⟩ (.int .u8 (bits .xor .u8 ((Cr.flip l a p k)[i].toNat : Int) ((2 : Int) ^ r % 256)))).drew b (Cr.flip l a p (k + 1)) := by
  rw [flip_yes h1 h2, hi, hr, xor_bit _ (by omega)]
  exact (h.set hx (fun b => b ^^^ UInt8.ofNat (2 ^ r))).drew
theorem back (w : World) (b cap : Nat) (l : List UInt8) (h : Bs w b l) : (convert 23 9 (.slice (some ⟨b, 0, none⟩) l.length cap)).run Try.prog w = .ok (.string (bstr l)) w :=
  run_convert_bytes_back w 23 9 5 ⟨b, 0, none⟩ cap l Try.underlying23 Try.underlying5 Try.underlying9 (fun j hj => by
    have e : (⟨b, 0, none⟩ : Addr).add j = ⟨b, j, none⟩ := by unfold Addr.add; split <;> simp_all
    rw [e]
    exact (h.2 j hj).1)

set_option maxHeartbeats 1000000 in
theorem flip_any (s : ByteArray) (a p : Nat) (hs : (s.size : Int) ≤ 8000) (ha : a < 8 * s.size) (hp : p < 4294967296) (w : World) :
    Calls Try.prog 19 #[.string s, .int .i64 (a : Int), u32 p] w fun e w' => e = .returned (.string (bstr (Cr.flip s.data.toList a p 32))) ∧ Bl w w' := by
  have hcv := fun w => run_bytes_of_string (P := Try.prog) w 9 23 5 s Try.underlying9 Try.underlying23 Try.underlying5
  unfold u32
  go_enter Try.func19, Try.ntmps19
  go_wp2
  go_loopw [8] (fun i wr => ∃ k : Nat, k ≤ 32 ∧ i = .int .i64 (k : Int) ∧ Hid (Bs wr w.heap.size (Cr.flip s.data.toList a p k)) ∧ Hid (Bl w wr)) (fun i _ => 32 - (intOf i).toNat)
  case atStart => exact ⟨0, by omega, rfl, Lib.hid (bytes_in s _ _ w), Lib.hid ((Bl.refl w).drew.alloc _)⟩
  case round =>
    obtain ⟨k, hk, rfl, HB, HW⟩ := hrel
    by_cases hlt : k < 32
    · have hlen : (Cr.flip s.data.toList a p k).length = s.size := by rw [flip_length]; simp
      have hsl : s.data.toList.length = s.size := by simp
      by_cases hbit : p / 2 ^ k % 2 = 1
      · have hb : bits .and .u32 ((p : Int) / 2 ^ k) 1 = 1 := by rw [and_shift p k hp, hbit]; rfl
        by_cases hin : a + k < 8 * s.size
        · obtain ⟨i, hI, hI'⟩ : ∃ i : Nat, ((a : Int) + (k : Int)) / 8 = (i : Int) ∧ (a + k) / 8 = i := ⟨(a + k) / 8, by omega, rfl⟩
          obtain ⟨r, hR, hR'⟩ : ∃ r : Nat, ((a : Int) + (k : Int)) % 8 = (r : Int) ∧ (a + k) % 8 = r := ⟨(a + k) % 8, by omega, rfl⟩
          have hi : i < s.size := by omega
          have hr : r < 8 := by omega
          have hil : i < (Cr.flip s.data.toList a p k).length := by rw [hlen]; exact hi
          have hc := (HB.out.2 i hil).1
          have hf := (HB.out.2 i hil).2
          have HS := Lib.hid (flip_set HB.out hbit (by rw [hsl]; exact hin) hI' hR' hil)
          have HV := fun v => Lib.hid ((HW.out.setCell (p := ⟨w.heap.size, i, none⟩) (Nat.le_refl _) v).drew)
          generalize (Cr.flip s.data.toList a p k)[i] = x at *
          clear HB HW hI' hR' hil
          go_wp2
          go_region
          go_wp2
          go_roundw
          case rel => exact ⟨k + 1, by omega, by go_num, HS, HV _⟩
          case measure => simp [intOf]; omega
        · have HS := Lib.hid (flip_no (l := s.data.toList) (k := a) (p := p) (i := k) (by rw [hsl]; omega))
          go_wp2
          go_roundw
          case rel => exact ⟨k + 1, by omega, by go_num, by rw [HS.out]; exact HB, HW⟩
          case measure => simp [intOf]; omega
      · have hb : bits .and .u32 ((p : Int) / 2 ^ k) 1 = 0 := by rw [and_shift p k hp, show p / 2 ^ k % 2 = 0 by omega]; rfl
        have HS := Lib.hid (flip_no (l := s.data.toList) (k := a) (p := p) (i := k) (by omega))
        go_wp2
        go_roundw
        case rel => exact ⟨k + 1, by omega, by go_num, by rw [HS.out]; exact HB, HW⟩
        case measure => simp [intOf]; omega
    · obtain rfl : k = 32 := by omega
      have hk := back wr w.heap.size (grownCap w s.size 0 5) _ HB.out
      rw [flip_length, show s.data.toList.length = s.size by simp] at hk
      generalize hy : bstr (Cr.flip s.data.toList a p 32) = y at hk
      have HY := Lib.hid hy
      clear hy
      go_wp2
      go_ret
      exact ⟨by rw [HY.out]; rfl, HW.out⟩

end Go.Proofs.Ytnapelocjcoofaa
