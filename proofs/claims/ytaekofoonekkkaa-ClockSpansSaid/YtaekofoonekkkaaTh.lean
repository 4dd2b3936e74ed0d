/-
  The chapter's examples hold.
-/
import Derived.Test.YtaekofoonekkkaaTf
namespace Go.Proofs.Ytaekofoonekkkaa
open Go.RowKit

theorem clocal_v {o p t v c : Int} (h1 : loV o p t = v) (h2 : loE o p t = c) (w : World) :
    Calls Try.prog 12 #[.agg #[.int .i64 o, .int .i64 p], .int .i64 t] w fun e w' => e = .returned (.tuple #[.int .i64 v, .int .i64 c]) ∧ Bl w w' := by
  have := clocal_any o p t w; rw [h1, h2] at this; exact this
theorem ctrue_v {o p l v c : Int} (h1 : tuV o p l = v) (h2 : tuE o p l = c) (w : World) :
    Calls Try.prog 16 #[.agg #[.int .i64 o, .int .i64 p], .int .i64 l] w fun e w' => e = .returned (.tuple #[.int .i64 v, .int .i64 c]) ∧ Bl w w' := by
  have := ctrue_any o p l w; rw [h1, h2] at this; exact this
theorem celapsed_v {o p t d v c : Int} (h1 : elV o p t d = v) (h2 : elE o p t d = c) (w : World) :
    Calls Try.prog 18 #[.agg #[.int .i64 o, .int .i64 p], .int .i64 t, .int .i64 d] w fun e w' => e = .returned (.tuple #[.int .i64 v, .int .i64 c]) ∧ Bl w w' := by
  have := celapsed_any o p t d w; rw [h1, h2] at this; exact this
theorem coffset_v {o p o' p' t v c : Int} (h1 : ofV o p o' p' t = v) (h2 : ofE o p o' p' t = c) (w : World) :
    Calls Try.prog 20 #[.agg #[.int .i64 o, .int .i64 p], .agg #[.int .i64 o', .int .i64 p'], .int .i64 t] w fun e w' => e = .returned (.tuple #[.int .i64 v, .int .i64 c]) ∧ Bl w w' := by
  have := coffset_any o p o' p' t w; rw [h1, h2] at this; exact this
theorem cbound_v {p d v c : Int} (h1 : boV p d = v) (h2 : boE p d = c) (w : World) :
    Calls Try.prog 22 #[.int .i64 p, .int .i64 d] w fun e w' => e = .returned (.tuple #[.int .i64 v, .int .i64 c]) ∧ Bl w w' := by
  have := cbound_any p d w; rw [h1, h2] at this; exact this

set_option maxRecDepth 100000 in
set_option maxHeartbeats 4000000 in
theorem tworks_any (w : World) :
    Calls Try.prog 10 #[] w fun e w' => e = .returned (.bool true) ∧ Bl w w' := by
  have K0 := Lib.hid (fun w => clocal_v (show loV 5 100000 10000 = 10006 by decide +kernel) (show loE 5 100000 10000 = 0 by decide +kernel) w)
  have K1 := Lib.hid (fun w => clocal_v (show loV 0 (-100000) 9999 = 9998 by decide +kernel) (show loE 0 (-100000) 9999 = 0 by decide +kernel) w)
  have K2 := Lib.hid (fun w => ctrue_v (show tuV 0 (-100000) 9999 = 10000 by decide +kernel) (show tuE 0 (-100000) 9999 = 0 by decide +kernel) w)
  have K3 := Lib.hid (fun w => ctrue_v (show tuV 50 0 20 = 0 by decide +kernel) (show tuE 50 0 20 = 0 by decide +kernel) w)
  have K4 := Lib.hid (fun w => celapsed_v (show elV 7 200000 0 5000 = 5001 by decide +kernel) (show elE 7 200000 0 5000 = 0 by decide +kernel) w)
  have K5 := Lib.hid (fun w => coffset_v (show ofV 5 0 2 0 9 = 3 by decide +kernel) (show ofE 5 0 2 0 9 = 0 by decide +kernel) w)
  have K6 := Lib.hid (fun w => cbound_v (show boV 200000 1 = 1 by decide +kernel) (show boE 200000 1 = 0 by decide +kernel) w)
  have K7 := Lib.hid (fun w => cbound_v (show boV 100000 10000 = 1 by decide +kernel) (show boE 100000 10000 = 0 by decide +kernel) w)
  have K8 := Lib.hid (fun w => clocal_v (show loV 0 0 (-1) = 0 by decide +kernel) (show loE 0 0 (-1) = 2 by decide +kernel) w)
  have K9 := Lib.hid (fun w => ctrue_v (show tuV 0 0 1099511627777 = 0 by decide +kernel) (show tuE 0 0 1099511627777 = 4 by decide +kernel) w)
  have KC := Lib.hid (fun w => ccheck_v (show ckE 0 200001 = 190 by decide +kernel) w)
  go_enter Try.func10, Try.ntmps10
  go_wp2_with fail
  refine (K0.out _).mono ?_; rintro e w1 ⟨rfl, g0⟩
  have G := Lib.hid g0; clear g0
  go_wp2_with fail
  refine (K1.out _).mono ?_; rintro e w2 ⟨rfl, g1⟩
  replace G := Lib.hid (G.out.trans g1); clear g1
  go_wp2_with fail
  refine (K2.out _).mono ?_; rintro e w3 ⟨rfl, g2⟩
  replace G := Lib.hid (G.out.trans g2); clear g2
  go_wp2_with fail
  refine (K3.out _).mono ?_; rintro e w4 ⟨rfl, g3⟩
  replace G := Lib.hid (G.out.trans g3); clear g3
  go_wp2_with fail
  refine (K4.out _).mono ?_; rintro e w5 ⟨rfl, g4⟩
  replace G := Lib.hid (G.out.trans g4); clear g4
  go_wp2_with fail
  refine (K5.out _).mono ?_; rintro e w6 ⟨rfl, g5⟩
  replace G := Lib.hid (G.out.trans g5); clear g5
  go_wp2_with fail
  refine (K6.out _).mono ?_; rintro e w7 ⟨rfl, g6⟩
  replace G := Lib.hid (G.out.trans g6); clear g6
  go_wp2_with fail
  refine (K7.out _).mono ?_; rintro e w8 ⟨rfl, g7⟩
  replace G := Lib.hid (G.out.trans g7); clear g7
  go_wp2_with fail
  refine (K8.out _).mono ?_; rintro e w9 ⟨rfl, g8⟩
  replace G := Lib.hid (G.out.trans g8); clear g8
  go_wp2_with fail
  refine (K9.out _).mono ?_; rintro e w10 ⟨rfl, g9⟩
  replace G := Lib.hid (G.out.trans g9); clear g9
  go_wp2_with fail
  refine (KC.out _).mono ?_; rintro e w11 ⟨rfl, g⟩
  go_wp2_with fail
  go_ret
  exact ⟨rfl, G.out.trans g⟩

end Go.Proofs.Ytaekofoonekkkaa
