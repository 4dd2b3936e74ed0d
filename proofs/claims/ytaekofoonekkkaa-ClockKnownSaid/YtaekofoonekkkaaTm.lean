/-
  ClockKnown: the examples, the limits and the order of errors.
-/
import Derived.Test.YtaekofoonekkkaaTg
import Derived.Test.YtaekofoonekkkaaTh
namespace Go.Proofs.Ytaekofoonekkkaa
open Go.RowKit

set_option maxRecDepth 100000 in
set_option maxHeartbeats 4000000 in
theorem known_law (w : World) :
    Calls Try.prog 9 #[] w fun e w' => e = .returned (.bool true) ∧ Bl w w' := by
  have KW := Lib.hid (fun w => tworks_any w)
  have K0 := Lib.hid (fun w => clocal_v (show loV 1099511627776 200000 1099511627776 = 2199243157877 by decide +kernel) (show loE 1099511627776 200000 1099511627776 = 0 by decide +kernel) w)
  have K1 := Lib.hid (fun w => clocal_v (show loV (-1099511627776) (-200000) 1099511627776 = -219902326 by decide +kernel) (show loE (-1099511627776) (-200000) 1099511627776 = 0 by decide +kernel) w)
  have K2 := Lib.hid (fun w => ctrue_v (show tuV (-1099511627776) (-200000) (-4611686018427387904) = 0 by decide +kernel) (show tuE (-1099511627776) (-200000) (-4611686018427387904) = 0 by decide +kernel) w)
  have K3 := Lib.hid (fun w => ctrue_v (show tuV (-1099511627776) (-200000) 1 = 0 by decide +kernel) (show tuE (-1099511627776) (-200000) 1 = 4 by decide +kernel) w)
  have K4 := Lib.hid (fun w => ctrue_v (show tuV 0 200001 1152921504606846976 = 0 by decide +kernel) (show tuE 0 200001 1152921504606846976 = 190 by decide +kernel) w)
  have K5 := Lib.hid (fun w => clocal_v (show loV 1099511627777 0 (-1) = 0 by decide +kernel) (show loE 1099511627777 0 (-1) = 190 by decide +kernel) w)
  have K6 := Lib.hid (fun w => celapsed_v (show elV 0 0 1 1099511627776 = 0 by decide +kernel) (show elE 0 0 1 1099511627776 = 2 by decide +kernel) w)
  have K7 := Lib.hid (fun w => celapsed_v (show elV 0 0 4611686018427387904 4611686018427387904 = 0 by decide +kernel) (show elE 0 0 4611686018427387904 4611686018427387904 = 2 by decide +kernel) w)
  have K8 := Lib.hid (fun w => coffset_v (show ofV 0 0 0 (-200001) (-1) = 0 by decide +kernel) (show ofE 0 0 0 (-200001) (-1) = 190 by decide +kernel) w)
  have K9 := Lib.hid (fun w => cbound_v (show boV 200001 0 = 0 by decide +kernel) (show boE 200001 0 = 2 by decide +kernel) w)
  have K10 := Lib.hid (fun w => cbound_v (show boV 0 (-1) = 0 by decide +kernel) (show boE 0 (-1) = 2 by decide +kernel) w)
  have K11 := Lib.hid (fun w => cbound_v (show boV 200000 1099511627776 = 219902326 by decide +kernel) (show boE 200000 1099511627776 = 0 by decide +kernel) w)
  have KC := Lib.hid (fun w => ccheck_v (show ckE 1099511627776 200000 = 0 by decide +kernel) w)
  have KD := Lib.hid (fun w => ccheck_v (show ckE (-1099511627776) (-200000) = 0 by decide +kernel) w)
  go_enter Try.func9, Try.ntmps9
  go_wp2_with fail
  refine (KW.out _).mono ?_; rintro e w1 ⟨rfl, gr⟩
  have G := Lib.hid gr; clear gr
  go_wp2_with fail
  refine (K0.out _).mono ?_; rintro e w2 ⟨rfl, gr⟩
  have a0 := (gr.cell (p := ⟨w1.heap.size, 0, none⟩) (by simp; try omega)).trans (show _ = some (Value.int .i64 1099511627776) by simp [go_sem])
  have a1 := (gr.cell (p := ⟨w1.heap.size, 1, none⟩) (by simp; try omega)).trans (show _ = some (Value.int .i64 200000) by simp [go_sem])
  have b0 := (gr.cell (p := ⟨w1.heap.size + 1, 0, none⟩) (by simp; try omega)).trans (show _ = some (Value.int .i64 (-1099511627776)) by simp [go_sem])
  have b1 := (gr.cell (p := ⟨w1.heap.size + 1, 1, none⟩) (by simp; try omega)).trans (show _ = some (Value.int .i64 (-200000)) by simp [go_sem])
  replace G := Lib.hid (((G.out.alloc _).alloc _).trans gr); clear gr
  go_wp2_with fail
  refine (K1.out _).mono ?_; rintro e w3 ⟨rfl, gr⟩
  replace a0 := cell_keep gr a0
  replace a1 := cell_keep gr a1
  replace b0 := cell_keep gr b0
  replace b1 := cell_keep gr b1
  replace G := Lib.hid (G.out.trans gr); clear gr
  go_wp2_with fail
  refine (K2.out _).mono ?_; rintro e w4 ⟨rfl, gr⟩
  replace a0 := cell_keep gr a0
  replace a1 := cell_keep gr a1
  replace b0 := cell_keep gr b0
  replace b1 := cell_keep gr b1
  replace G := Lib.hid (G.out.trans gr); clear gr
  go_wp2_with fail
  refine (K3.out _).mono ?_; rintro e w5 ⟨rfl, gr⟩
  replace a0 := cell_keep gr a0
  replace a1 := cell_keep gr a1
  replace b0 := cell_keep gr b0
  replace b1 := cell_keep gr b1
  replace G := Lib.hid (G.out.trans gr); clear gr
  go_wp2_with fail
  refine (K4.out _).mono ?_; rintro e w6 ⟨rfl, gr⟩
  replace a0 := cell_keep gr a0
  replace a1 := cell_keep gr a1
  replace b0 := cell_keep gr b0
  replace b1 := cell_keep gr b1
  replace G := Lib.hid (G.out.trans gr); clear gr
  go_wp2_with fail
  refine (K5.out _).mono ?_; rintro e w7 ⟨rfl, gr⟩
  replace a0 := cell_keep gr a0
  replace a1 := cell_keep gr a1
  replace b0 := cell_keep gr b0
  replace b1 := cell_keep gr b1
  replace G := Lib.hid (G.out.trans gr); clear gr
  go_wp2_with fail
  refine (K6.out _).mono ?_; rintro e w8 ⟨rfl, gr⟩
  replace a0 := cell_keep gr a0
  replace a1 := cell_keep gr a1
  replace b0 := cell_keep gr b0
  replace b1 := cell_keep gr b1
  replace G := Lib.hid (G.out.trans gr); clear gr
  go_wp2_with fail
  refine (K7.out _).mono ?_; rintro e w9 ⟨rfl, gr⟩
  replace a0 := cell_keep gr a0
  replace a1 := cell_keep gr a1
  replace b0 := cell_keep gr b0
  replace b1 := cell_keep gr b1
  replace G := Lib.hid (G.out.trans gr); clear gr
  go_wp2_with fail
  refine (K8.out _).mono ?_; rintro e w10 ⟨rfl, gr⟩
  replace a0 := cell_keep gr a0
  replace a1 := cell_keep gr a1
  replace b0 := cell_keep gr b0
  replace b1 := cell_keep gr b1
  replace G := Lib.hid (G.out.trans gr); clear gr
  go_wp2_with fail
  refine (K9.out _).mono ?_; rintro e w11 ⟨rfl, gr⟩
  replace a0 := cell_keep gr a0
  replace a1 := cell_keep gr a1
  replace b0 := cell_keep gr b0
  replace b1 := cell_keep gr b1
  replace G := Lib.hid (G.out.trans gr); clear gr
  go_wp2_with fail
  refine (K10.out _).mono ?_; rintro e w12 ⟨rfl, gr⟩
  replace a0 := cell_keep gr a0
  replace a1 := cell_keep gr a1
  replace b0 := cell_keep gr b0
  replace b1 := cell_keep gr b1
  replace G := Lib.hid (G.out.trans gr); clear gr
  go_wp2_with fail
  refine (K11.out _).mono ?_; rintro e w13 ⟨rfl, gr⟩
  replace a0 := cell_keep gr a0
  replace a1 := cell_keep gr a1
  replace b0 := cell_keep gr b0
  replace b1 := cell_keep gr b1
  replace G := Lib.hid (G.out.trans gr); clear gr
  go_wp2_with fail
  refine (KC.out _).mono ?_; rintro e w20 ⟨rfl, gr⟩
  replace b0 := cell_keep gr b0
  replace b1 := cell_keep gr b1
  replace G := Lib.hid (G.out.trans gr); clear gr
  go_wp2_with fail
  refine (KD.out _).mono ?_; rintro e w21 ⟨rfl, gr⟩
  replace G := Lib.hid (G.out.trans gr); clear gr
  go_wp2_with fail
  go_ret
  exact ⟨rfl, G.out⟩

end Go.Proofs.Ytaekofoonekkkaa
