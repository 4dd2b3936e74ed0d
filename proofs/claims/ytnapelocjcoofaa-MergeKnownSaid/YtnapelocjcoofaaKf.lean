/-
  What Extend and Of return.
-/
import Derived.Test.YtnapelocjcoofaaKe
namespace Go.Proofs.Ytnapelocjcoofaa
open Go.RowKit Go.Proofs.Ytnapelocjcoofaa.Cr

set_option maxRecDepth 100000 in
theorem zero43 : (∀ w, (zeroValue 119).run Try.prog w = .ok (.agg (Array.replicate 257 (u32 0))) w) ∧ (Try.prog.info? 119).map (·.size) = some 257 :=
  zero_of_info (by kernel_rfl)
/-- Cells laid over others. -/
theorem laid_get (off : Nat) (vs : List Value) : ∀ (k : Nat) (cs : Array Value) (i : Nat),
    ((vs.zipIdx k).foldl (fun cs p => cs.setIfInBounds (off + p.2) p.1) cs)[i]? = if off + k ≤ i ∧ i < off + k + vs.length ∧ i < cs.size then vs[i - (off + k)]? else cs[i]? := by
  induction vs with
  | nil => intro k cs i; simp; omega
  | cons v vs ih =>
    intro k cs i
    rw [List.zipIdx_cons, List.foldl_cons, ih, Array.size_setIfInBounds, Array.getElem?_setIfInBounds]
    by_cases h0 : off + k = i
    · subst h0
      rw [if_neg (by omega), if_pos rfl]
      by_cases hs : off + k < cs.size
      · rw [if_pos hs, if_pos ⟨Nat.le_refl _, by rw [List.length_cons]; omega, hs⟩, Nat.sub_self]; rfl
      · rw [if_neg hs, if_neg (by omega), Array.getElem?_eq_none (by omega)]
    · rw [if_neg h0]
      by_cases h1 : off + (k + 1) ≤ i ∧ i < off + (k + 1) + vs.length ∧ i < cs.size
      · rw [if_pos h1, if_pos ⟨by omega, by rw [List.length_cons]; omega, h1.2.2⟩, show i - (off + k) = i - (off + (k + 1)) + 1 by omega]; rfl
      · rw [if_neg h1, if_neg (by rw [List.length_cons]; omega)]

/-- A register with its table, as cells. -/
def regc (c : Nat) (T : Array Value) : Array Value := #[u32 c] ++ T
theorem fold_reg (c : Nat) {T : Array Value} (h : T.size = 256) :
    Array.foldl (fun cs x => cs.setIfInBounds (1 + x.2) x.1) ((Array.replicate 257 (u32 0)).setIfInBounds 0 (.int .u32 (c : Int))) T.zipIdx 0 256 = regc c T := by
  have e : T.zipIdx.size = 256 := by rw [Array.size_zipIdx, h]
  rw [← e, ← Array.foldl_toList, Array.toList_zipIdx]
  apply Array.ext_getElem?
  intro i
  rw [laid_get]
  show _ = (#[u32 c] ++ T)[i]?
  rw [Array.getElem?_append, Array.size_setIfInBounds, Array.size_replicate, Array.length_toList, h, Array.getElem?_toList, Nat.add_zero]
  by_cases h0 : i = 0
  · subst h0; simp [u32]
  · by_cases hi : i < 257
    · rw [if_pos (by omega), if_neg (by simp; omega)]; rfl
    · rw [if_neg (by omega), if_neg (by simp; omega), Array.getElem?_eq_none (by simp; omega), Array.getElem?_eq_none (by simp; omega)]
theorem regc_size (c : Nat) {T : Array Value} (h : T.size = 256) : (regc c T).size = 257 := by unfold regc; rw [Array.size_append, h]; rfl
theorem regc_one (c : Nat) {T : Array Value} (h : T.all (·.oneCell') = true) : (regc c T).all (·.oneCell') = true := by
  unfold regc
  rw [Array.all_append, h, Bool.and_true, Array.all_eq_true]
  intro i hi
  obtain rfl : i = 0 := by simpa using hi
  rfl
theorem regc_zero (c : Nat) (T : Array Value) : (regc c T)[0]? = some (u32 c) := by
  unfold regc
  rw [Array.getElem?_append, if_pos (by simp)]
  rfl
theorem regc_get (c i : Nat) (T : Array Value) : (regc c T)[1 + i]? = T[i]? := by
  unfold regc
  rw [Array.getElem?_append, if_neg (by simp)]
  congr 1
  simp
/-- The complement. -/
def cpl (c : Nat) : Nat := c ^^^ 4294967295

theorem xor_max {c : Nat} (hc : c < 4294967296) : bits .xor .u32 IntKind.u32.max (c : Int) = ((cpl c : Nat) : Int) := by
  have h := u32_xor_nat 4294967295 c (by decide) hc
  rw [Nat.xor_comm] at h
  exact h
theorem cpl_lt {c : Nat} (hc : c < 4294967296) : cpl c < 4294967296 := show _ < 2 ^ 32 from Nat.xor_lt_two_pow hc (by decide)
theorem reg_cells (c : Nat) (W : World) : (storeCells ⟨W.heap.size, 0, none⟩ (regc c (tab 256)).toList).run Try.prog (W.alloc (.cells (Array.replicate 257 (u32 0)) 119)) = .ok () (W.alloc (.cells (regc c (tab 256)) 119)) :=
  run_storeCells_new W _ _ _ (by rw [regc_size c (tab_size 256)]; exact zero43.2) (by rw [regc_size c (tab_size 256)]; simp) (regc_one c (tab_one 256))
theorem reg_is (c : Nat) (W : World) : Rg (W.alloc (.cells (regc c (tab 256)) 119)) W.heap.size c := by
  have hg := heap_alloc_new W (.cells (regc c (tab 256)) 119)
  refine ⟨by simp, ?_, frozen_of_row _ _ _ _ _ hg, fun i hi => ?_⟩
  · rw [cell_of_row _ _ _ _ _ _ hg, regc_zero]
  · rw [cell_of_row _ _ _ _ _ _ hg, regc_get, tab_get _ _ hi, if_pos hi]

set_option maxHeartbeats 1000000 in
set_option maxRecDepth 20000 in
theorem extend_any (c : Nat) (s : ByteArray) (hc : c < 4294967296) (hs : (s.size : Int) ≤ 8000) (w : World) :
    Calls Try.prog 76 #[u32 c, .string s] w fun e w' => e = .returned (u32 (cpl (cr (cpl c) s.data.toList))) ∧ Bl w w' := by
  have KO := Lib.hid (fun w => octetSteps_any w)
  have KE := Lib.hid (fun w b hr => each_any b (cpl c) s (cpl_lt hc) hs w hr)
  have hv := zero43.1
  have hf := fold_reg (cpl c) (tab_size 256)
  have hsc := fun W => reg_cells (cpl c) W
  have HI := Lib.hid (fun W => reg_is (cpl c) W)
  have hm := xor_max hc
  have hsg : IntKind.u32.signed = false := rfl
  have hZ : (Array.replicate 257 (u32 0)).size = 257 := by simp
  have hz : ¬ Array.replicate 257 (u32 0) = #[] := by simp
  have hT := tab_size 256
  have hd : decide (¬ (tab 256).size = 256) = false := by rw [hT]; rfl
  have hR := regc_size (cpl c) (tab_size 256)
  have hX := Lib.hid (xor_max (cr_lt (cpl_lt hc) s.data.toList))
  generalize Array.replicate 257 (u32 0) = Z at *
  generalize tab 256 = T at *
  generalize cpl c = d at *
  generalize cr d s.data.toList = x at *
  generalize regc d T = R at *
  unfold u32
  go_enter Try.func76, Try.ntmps76
  go_wp2_with fail
  refine (KO.out _).mono ?_; rintro e w1 ⟨rfl, gr⟩
  have G := Lib.hid gr; clear gr
  go_wp2_with fail
  refine (KE.out _ _ (HI.out _)).mono ?_; rintro e w2 ⟨rfl, hr, hb⟩
  have G2 := Lib.hid (Below.trans (G.out.alloc _) (Below.mono hb G.out.size))
  have hc2 := hr.2.1
  unfold u32 at hc2
  clear hr hb hf hsc hv hZ hz hT hd hR hm HI KE KO G
  have hX := hX.out
  go_wp2_with fail
  go_ret
  exact ⟨rfl, G2.out⟩

set_option maxHeartbeats 400000 in
theorem of_any (s : ByteArray) (hs : (s.size : Int) ≤ 8000) (w : World) :
    Calls Try.prog 66 #[.string s] w fun e w' => e = .returned (u32 (ofN s.data.toList)) ∧ Bl w w' := by
  have KE := Lib.hid (fun w => extend_any 0 s (by decide) hs w)
  rw [show cpl (cr (cpl 0) s.data.toList) = ofN s.data.toList from rfl] at KE
  unfold u32 at *
  generalize ofN s.data.toList = x at *
  go_enter Try.func66, Try.ntmps66
  go_wp2_with fail
  refine (KE.out _).mono ?_; rintro e w1 ⟨rfl, gr⟩
  have G := Lib.hid gr; clear gr
  go_wp2_with fail
  go_ret
  exact ⟨rfl, G.out⟩

end Go.Proofs.Ytnapelocjcoofaa
