/-
  short: a state and a piece with at most 1530 octets of Data.
-/
import Derived.Test.YtnapelocjcoofaaMw
import Derived.Deep.CutBlock
namespace Go.Proofs.Ytnapelocjcoofaa
open Go.RowKit Go.Proofs.Ytnapelocjcoofaa.Cr

def sh30 (d : ByteArray) : ByteArray := d.extract 0 (min d.size 1530)
theorem sh30_size (d : ByteArray) : ((sh30 d).size : Int) ≤ 1530 := by unfold sh30; rw [ByteArray.size_extract]; omega

set_option maxRecDepth 100000 in
set_option maxHeartbeats 4000000 in
theorem short_any (mo : Bool) (mn mx : Int) (md : ByteArray) (po : Bool) (pn pc : Int) (pd : ByteArray) (hm : md.size ≤ maxLen) (hp : pd.size ≤ maxLen) (w : World) :
    Calls Try.prog 17 #[.agg #[.bool mo, .int .i64 mn, .int .i64 mx, .string md], .agg #[.bool po, .int .i64 pn, .int .i64 pc, .string pd]] w
      fun e w' => e = .returned (.tuple #[.agg #[.bool mo, .int .i64 mn, .int .i64 mx, .string (sh30 md)], .agg #[.bool po, .int .i64 pn, .int .i64 pc, .string (sh30 pd)]]) ∧ Bl w w' := by
  unfold maxLen at hm hp
  obtain ⟨x, hx1, hx2, hx3⟩ : ∃ x : Nat, min (md.size : Int) 1530 = (x : Int) ∧ min md.size 1530 = x ∧ (x : Int) ≤ (md.size : Int) := ⟨min md.size 1530, by omega, rfl, by omega⟩
  obtain ⟨y, hy1, hy2, hy3⟩ : ∃ y : Nat, min (pd.size : Int) 1530 = (y : Int) ∧ min pd.size 1530 = y ∧ (y : Int) ≤ (pd.size : Int) := ⟨min pd.size 1530, by omega, rfl, by omega⟩
  have hx4 : (if (1530 : Int) < (md.size : Int) then 1530 else (md.size : Int)) = (x : Int) := by split <;> omega
  have hy4 : (if (1530 : Int) < (pd.size : Int) then 1530 else (pd.size : Int)) = (y : Int) := by split <;> omega
  have EX := Lib.hid (show sh30 md = md.extract 0 x by unfold sh30; rw [hx2])
  have EY := Lib.hid (show sh30 pd = pd.extract 0 y by unfold sh30; rw [hy2])
  generalize sh30 md = mD at *
  generalize sh30 pd = pD at *
  clear hx2 hy2 hm hp
  go_enter Try.func17, Try.ntmps17
  go_upto_region 1 with fail
  have A0 := (((Bk.new w [.bool mo, .int .i64 mn, .int .i64 mx, .string md] 43).alloc (.cells #[.bool po, .int .i64 pn, .int .i64 pc, .string pd] 45)).alloc (.cells #[.bool false, .int .i64 0, .int .i64 0, .string ⟨#[]⟩] 43)).alloc (.cells #[.bool false, .int .i64 0, .int .i64 0, .string ⟨#[]⟩] 45)
  have B0 := ((Bk.new (w.alloc (.cells #[.bool mo, .int .i64 mn, .int .i64 mx, .string md] 43)) [.bool po, .int .i64 pn, .int .i64 pc, .string pd] 45).alloc (.cells #[.bool false, .int .i64 0, .int .i64 0, .string ⟨#[]⟩] 43)).alloc (.cells #[.bool false, .int .i64 0, .int .i64 0, .string ⟨#[]⟩] 45)
  have C0 := (Bk.new ((w.alloc (.cells #[.bool mo, .int .i64 mn, .int .i64 mx, .string md] 43)).alloc (.cells #[.bool po, .int .i64 pn, .int .i64 pc, .string pd] 45)) [.bool false, .int .i64 0, .int .i64 0, .string ⟨#[]⟩] 43).alloc (.cells #[.bool false, .int .i64 0, .int .i64 0, .string ⟨#[]⟩] 45)
  have D0 := Bk.new (((w.alloc (.cells #[.bool mo, .int .i64 mn, .int .i64 mx, .string md] 43)).alloc (.cells #[.bool po, .int .i64 pn, .int .i64 pc, .string pd] 45)).alloc (.cells #[.bool false, .int .i64 0, .int .i64 0, .string ⟨#[]⟩] 43)) [.bool false, .int .i64 0, .int .i64 0, .string ⟨#[]⟩] 45
  have G0 := ((((Bl.refl w).alloc (.cells #[.bool mo, .int .i64 mn, .int .i64 mx, .string md] 43)).alloc (.cells #[.bool po, .int .i64 pn, .int .i64 pc, .string pd] 45)).alloc (.cells #[.bool false, .int .i64 0, .int .i64 0, .string ⟨#[]⟩] 43)).alloc (.cells #[.bool false, .int .i64 0, .int .i64 0, .string ⟨#[]⟩] 45)
  simp only [World.size_alloc] at B0 C0 D0
  have eb : w.heap.size < w.heap.size + 1 := by omega
  have ec : w.heap.size + 1 < w.heap.size + 1 + 1 := by omega
  have ed : w.heap.size + 1 + 1 < w.heap.size + 1 + 1 + 1 := by omega
  have ea : w.heap.size ≤ w.heap.size := Nat.le_refl _
  generalize World.alloc _ _ = W at *
  generalize w.heap.size + 1 + 1 + 1 = d at *
  generalize w.heap.size + 1 + 1 = c at *
  generalize w.heap.size + 1 = b at *
  obtain ⟨a, ha⟩ : ∃ a, a = w.heap.size := ⟨_, rfl⟩
  rw [← ha] at A0 eb ea
  rw [← ha]
  have HA := Lib.hid ha
  clear ha ea
  have nab : a ≠ b := by omega
  have nac : a ≠ c := by omega
  have nad : a ≠ d := by omega
  have nbc : b ≠ c := by omega
  have nbd : b ≠ d := by omega
  have ncd : c ≠ d := by omega
  have HW : Hid (w.heap.size ≤ a ∧ w.heap.size ≤ b ∧ w.heap.size ≤ c ∧ w.heap.size ≤ d) := Lib.hid (by have := HA.out; omega)
  have a3 := A0.at 3 (by show 3 < 4; omega) (v := .string md) rfl
  have af := A0.fr 3 (by show 3 < 4; omega)
  have b3 := B0.at 3 (by show 3 < 4; omega) (v := .string pd) rfl
  have bf := B0.fr 3 (by show 3 < 4; omega)
  have A1 := ((A0.set (i := 3) (by show 3 < 4; omega) (.string (md.extract 0 x)) (us := [.bool mo, .int .i64 mn, .int .i64 mx, .string (md.extract 0 x)]) rfl).far (p := ⟨b, 3, none⟩) (Ne.symm nab) (.string (pd.extract 0 y)))
  have B1 := ((B0.far (p := ⟨a, 3, none⟩) nab (.string (md.extract 0 x))).set (i := 3) (by show 3 < 4; omega) (.string (pd.extract 0 y)) (us := [.bool po, .int .i64 pn, .int .i64 pc, .string (pd.extract 0 y)]) rfl)
  have C1 := ((C0.far (p := ⟨a, 3, none⟩) nac (.string (md.extract 0 x))).far (p := ⟨b, 3, none⟩) nbc (.string (pd.extract 0 y)))
  have D1 := ((D0.far (p := ⟨a, 3, none⟩) nad (.string (md.extract 0 x))).far (p := ⟨b, 3, none⟩) nbd (.string (pd.extract 0 y)))
  have G1 := ((G0.setCell (p := ⟨a, 3, none⟩) HW.out.1 (.string (md.extract 0 x))).setCell (p := ⟨b, 3, none⟩) HW.out.2.1 (.string (pd.extract 0 y)))
  have H1 := Lib.hid (And.intro A1.drew (And.intro B1.drew (And.intro C1.drew (And.intro D1.drew G1.drew))))
  clear A0 B0 C0 D0 G0 A1 B1 C1 D1 G1
  go_cut [2] (fun s wx => Hid (s = .pointer (some ⟨a, 0, none⟩) ∧ Bk wx a [.bool mo, .int .i64 mn, .int .i64 mx, .string (md.extract 0 x)] ∧ Bk wx b [.bool po, .int .i64 pn, .int .i64 pc, .string (pd.extract 0 y)] ∧ Bk wx c [.bool false, .int .i64 0, .int .i64 0, .string ⟨#[]⟩] ∧ Bk wx d [.bool false, .int .i64 0, .int .i64 0, .string ⟨#[]⟩] ∧ Bl w wx))
  case first =>
    go_region
    all_goals (go_wp2_with fail; go_meet)
    all_goals exact Lib.hid ⟨rfl, H1.out⟩
  obtain ⟨rfl, A1, B1, C1, D1, G1⟩ := hcut.out
  rename World => wx
  clear hcut H1 a3 af b3 bf
  have a0 := A1.at 0 (by show 0 < 4; omega) (v := .bool mo) rfl
  have a1 := A1.at 1 (by show 1 < 4; omega) (v := .int .i64 mn) rfl
  have a2 := A1.at 2 (by show 2 < 4; omega) (v := .int .i64 mx) rfl
  have a3 := A1.at 3 (by show 3 < 4; omega) (v := .string (md.extract 0 x)) rfl
  have b0 := B1.at 0 (by show 0 < 4; omega) (v := .bool po) rfl
  have b1 := B1.at 1 (by show 1 < 4; omega) (v := .int .i64 pn) rfl
  have b2 := B1.at 2 (by show 2 < 4; omega) (v := .int .i64 pc) rfl
  have b3 := B1.at 3 (by show 3 < 4; omega) (v := .string (pd.extract 0 y)) rfl
  have c0 := C1.at 0 (by show 0 < 4; omega) (v := .bool false) rfl
  have cf0 := C1.fr 0 (by show 0 < 4; omega)
  have c1 := C1.at 1 (by show 1 < 4; omega) (v := .int .i64 0) rfl
  have cf1 := C1.fr 1 (by show 1 < 4; omega)
  have c2 := C1.at 2 (by show 2 < 4; omega) (v := .int .i64 0) rfl
  have cf2 := C1.fr 2 (by show 2 < 4; omega)
  have c3 := C1.at 3 (by show 3 < 4; omega) (v := .string ⟨#[]⟩) rfl
  have cf3 := C1.fr 3 (by show 3 < 4; omega)
  have d0 := D1.at 0 (by show 0 < 4; omega) (v := .bool false) rfl
  have df0 := D1.fr 0 (by show 0 < 4; omega)
  have d1 := D1.at 1 (by show 1 < 4; omega) (v := .int .i64 0) rfl
  have df1 := D1.fr 1 (by show 1 < 4; omega)
  have d2 := D1.at 2 (by show 2 < 4; omega) (v := .int .i64 0) rfl
  have df2 := D1.fr 2 (by show 2 < 4; omega)
  have d3 := D1.at 3 (by show 3 < 4; omega) (v := .string ⟨#[]⟩) rfl
  have df3 := D1.fr 3 (by show 3 < 4; omega)
  have H2 := Lib.hid (And.intro (((((C1.fourV (.bool mo) (.int .i64 mn) (.int .i64 mx) (.string (md.extract 0 x))).far (p := ⟨d, 0, none⟩) (Ne.symm ncd) (.bool po)).far (p := ⟨d, 1, none⟩) (Ne.symm ncd) (.int .i64 pn)).far (p := ⟨d, 2, none⟩) (Ne.symm ncd) (.int .i64 pc)).far (p := ⟨d, 3, none⟩) (Ne.symm ncd) (.string (pd.extract 0 y))).drew (And.intro ((((((D1).far (p := ⟨c, 0, none⟩) ncd (.bool mo)).far (p := ⟨c, 1, none⟩) ncd (.int .i64 mn)).far (p := ⟨c, 2, none⟩) ncd (.int .i64 mx)).far (p := ⟨c, 3, none⟩) ncd (.string (md.extract 0 x))).fourV (.bool po) (.int .i64 pn) (.int .i64 pc) (.string (pd.extract 0 y))).drew ((G1.four HW.out.2.2.1 (.bool mo) (.int .i64 mn) (.int .i64 mx) (.string (md.extract 0 x))).four HW.out.2.2.2 (.bool po) (.int .i64 pn) (.int .i64 pc) (.string (pd.extract 0 y))).drew))
  clear A1 B1 C1 D1 G1
  go_upto_region 2 with fail
  go_cut [2] (fun s wy => Hid (s = .pointer (some ⟨a, 0, none⟩) ∧ Bk wy c [.bool mo, .int .i64 mn, .int .i64 mx, .string (md.extract 0 x)] ∧ Bk wy d [.bool po, .int .i64 pn, .int .i64 pc, .string (pd.extract 0 y)] ∧ Bl w wy))
  case first =>
    go_region
    all_goals (go_wp2_with fail; go_meet)
    all_goals exact Lib.hid ⟨rfl, H2.out⟩
  obtain ⟨rfl, C1, D1, G1⟩ := hcut.out
  rename World => wy
  clear hcut H2 a0 a1 a2 a3 b0 b1 b2 b3 c0 cf0 c1 cf1 c2 cf2 c3 cf3 d0 df0 d1 df1 d2 df2 d3 df3
  have c0 := C1.at 0 (by show 0 < 4; omega) (v := .bool mo) rfl
  have c1 := C1.at 1 (by show 1 < 4; omega) (v := .int .i64 mn) rfl
  have c2 := C1.at 2 (by show 2 < 4; omega) (v := .int .i64 mx) rfl
  have c3 := C1.at 3 (by show 3 < 4; omega) (v := .string (md.extract 0 x)) rfl
  have d0 := D1.at 0 (by show 0 < 4; omega) (v := .bool po) rfl
  have d1 := D1.at 1 (by show 1 < 4; omega) (v := .int .i64 pn) rfl
  have d2 := D1.at 2 (by show 2 < 4; omega) (v := .int .i64 pc) rfl
  have d3 := D1.at 3 (by show 3 < 4; omega) (v := .string (pd.extract 0 y)) rfl
  have HG := Lib.hid G1
  clear C1 D1 G1
  go_wp2_with fail
  refine bodyPost_ret (v := .tuple #[.agg #[.bool mo, .int .i64 mn, .int .i64 mx, .string (md.extract 0 x)], .agg #[.bool po, .int .i64 pn, .int .i64 pc, .string (pd.extract 0 y)]]) (by simp [results, Try.results17, go_sem, c0, c1, c2, c3, d0, d1, d2, d3]) rfl ⟨by rw [EX.out, EY.out], HG.out⟩

end Go.Proofs.Ytnapelocjcoofaa
