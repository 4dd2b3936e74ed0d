/-
  The examples of the chapter: works returns true, whatever the world.
-/
import Derived.Test.YtgbjooecomgfoaaRq
namespace Go.Proofs.Ytgbjooecomgfoaa
open Go.RowKit

set_option maxRecDepth 100000 in
set_option maxHeartbeats 4000000 in
theorem works_any (w : World) :
    Calls Try.prog 14 #[] w fun e w' => e = .returned (.bool true) ∧ Grown w w' := by
  go_enter Try.func14, Try.ntmps14
  go_wp2_with fail
  have C0 : Hid (Cs [] w) := trivial
  have G0 : Hid (Grown w w) := Grown.refl w
  refine ((fun w => make_v 6 (-4) (-3) 2 0 w (by decide +kernel)) _).mono ?_; rintro e w1 ⟨rfl, gr⟩
  have C1 := Lib.hid (Cs.go C0.out gr)
  have G1 := Lib.hid (grown_trans G0.out gr)
  clear gr C0 G0
  go_wp2_with fail
  refine ((fun w => make_v 0 (-7) 0 1 0 w (by decide +kernel)) _).mono ?_; rintro e w2 ⟨rfl, gr⟩
  have C2 := Lib.hid (Cs.new C1.out gr)
  have G2 := Lib.hid (grown_trans (G1.out.alloc _ _) gr)
  clear gr C1 G1
  go_wp2_with fail
  refine ((fun w => make_v 1 0 0 0 2 w (by decide +kernel)) _).mono ?_; rintro e w3 ⟨rfl, gr⟩
  have C3 := Lib.hid (Cs.new C2.out gr)
  have G3 := Lib.hid (grown_trans (G2.out.alloc _ _) gr)
  clear gr C2 G2
  go_wp2_with fail
  refine ((fun w => make_v 2147483648 2 1073741824 1 0 w (by decide +kernel)) _).mono ?_; rintro e w4 ⟨rfl, gr⟩
  have C4 := Lib.hid (Cs.new C3.out gr)
  have G4 := Lib.hid (grown_trans (G3.out.alloc _ _) gr)
  clear gr C3 G3
  go_wp2_with fail
  refine ((fun w => make_v 1073741825 1 0 0 6 w (by decide +kernel)) _).mono ?_; rintro e w5 ⟨rfl, gr⟩
  have C5 := Lib.hid (Cs.new C4.out gr)
  have G5 := Lib.hid (grown_trans (G4.out.alloc _ _) gr)
  clear gr C4 G4
  go_wp2_with fail
  refine ((fun w => make_v 4611686018427387904 4611686018427387904 1 1 0 w (by decide +kernel)) _).mono ?_; rintro e w6 ⟨rfl, gr⟩
  have C6 := Lib.hid (Cs.new C5.out gr)
  have G6 := Lib.hid (grown_trans (G5.out.alloc _ _) gr)
  clear gr C5 G5
  have za := C6.out.2.2.2.2.1.1
  have xa := C6.out.2.2.2.2.1.2.1
  have ya := C6.out.2.2.2.2.1.2.2
  go_wp2_with fail
  refine (is_yes (-3) 2 _).mono ?_; rintro e w7 ⟨rfl, gr⟩
  clear za xa ya
  have C7 := Lib.hid (Cs.new C6.out gr)
  have G7 := Lib.hid (grown_trans (G6.out.alloc _ _) gr)
  clear gr C6 G6
  have zb := C7.out.2.2.2.2.1.1
  have xb := C7.out.2.2.2.2.1.2.1
  have yb := C7.out.2.2.2.2.1.2.2
  go_wp2_with fail
  refine (is_yes 0 1 _).mono ?_; rintro e w8 ⟨rfl, gr⟩
  clear zb xb yb
  have C8 := Lib.hid (Cs.go C7.out gr)
  have G8 := Lib.hid (grown_trans G7.out gr)
  clear gr C7 G7
  have zd := C8.out.2.2.1.1
  have xd := C8.out.2.2.1.2.1
  have yd := C8.out.2.2.1.2.2
  go_wp2_with fail
  refine (is_yes 1073741824 1 _).mono ?_; rintro e w9 ⟨rfl, gr⟩
  clear zd xd yd
  have C9 := Lib.hid (Cs.go C8.out gr)
  have G9 := Lib.hid (grown_trans G8.out gr)
  clear gr C8 G8
  have zh := C9.out.1.1
  have xh := C9.out.1.2.1
  have yh := C9.out.1.2.2
  go_wp2_with fail
  refine (is_yes 1 1 _).mono ?_; rintro e w10 ⟨rfl, gr⟩
  clear zh xh yh
  have C10 := Lib.hid (Cs.go C9.out gr)
  have G10 := Lib.hid (grown_trans G9.out gr)
  clear gr C9 G9
  go_wp2_with fail
  refine (of_any 2 4 _).mono ?_; rintro e w11 ⟨rfl, gr⟩
  have C11 := Lib.hid (Cs.go C10.out gr)
  have G11 := Lib.hid (grown_trans G10.out gr)
  clear gr C10 G10
  go_wp2_with fail
  refine ((fun w => check_v 2 4 120 w (by decide +kernel)) _).mono ?_; rintro e w12 ⟨rfl, gr⟩
  have C12 := Lib.hid (Cs.go C11.out gr)
  have G12 := Lib.hid (grown_trans G11.out gr)
  clear gr C11 G11
  go_wp2_with fail
  refine (of_any 1 2 _).mono ?_; rintro e w13 ⟨rfl, gr⟩
  have C13 := Lib.hid (Cs.go C12.out gr)
  have G13 := Lib.hid (grown_trans G12.out gr)
  clear gr C12 G12
  go_wp2_with fail
  refine (of_any 1 3 _).mono ?_; rintro e w14 ⟨rfl, gr⟩
  have C14 := Lib.hid (Cs.go C13.out gr)
  have G14 := Lib.hid (grown_trans G13.out gr)
  clear gr C13 G13
  go_wp2_with fail
  refine ((fun w => add_v 1 2 1 3 5 6 0 w (by decide +kernel)) _).mono ?_; rintro e w15 ⟨rfl, gr⟩
  have C15 := Lib.hid (Cs.go C14.out gr)
  have G15 := Lib.hid (grown_trans G14.out gr)
  clear gr C14 G14
  go_wp2_with fail
  refine (of_any 1 2 _).mono ?_; rintro e w16 ⟨rfl, gr⟩
  have C16 := Lib.hid (Cs.new C15.out gr)
  have G16 := Lib.hid (grown_trans (G15.out.alloc _ _) gr)
  clear gr C15 G15
  go_wp2_with fail
  refine (of_any 1 2 _).mono ?_; rintro e w17 ⟨rfl, gr⟩
  have C17 := Lib.hid (Cs.go C16.out gr)
  have G17 := Lib.hid (grown_trans G16.out gr)
  clear gr C16 G16
  go_wp2_with fail
  refine ((fun w => sub_v 1 2 1 2 0 1 0 w (by decide +kernel)) _).mono ?_; rintro e w18 ⟨rfl, gr⟩
  have C18 := Lib.hid (Cs.go C17.out gr)
  have G18 := Lib.hid (grown_trans G17.out gr)
  clear gr C17 G17
  go_wp2_with fail
  refine (of_any 2 3 _).mono ?_; rintro e w19 ⟨rfl, gr⟩
  have C19 := Lib.hid (Cs.new C18.out gr)
  have G19 := Lib.hid (grown_trans (G18.out.alloc _ _) gr)
  clear gr C18 G18
  go_wp2_with fail
  refine (of_any 3 4 _).mono ?_; rintro e w20 ⟨rfl, gr⟩
  have C20 := Lib.hid (Cs.go C19.out gr)
  have G20 := Lib.hid (grown_trans G19.out gr)
  clear gr C19 G19
  go_wp2_with fail
  refine ((fun w => mul_v 2 3 3 4 1 2 0 w (by decide +kernel)) _).mono ?_; rintro e w21 ⟨rfl, gr⟩
  have C21 := Lib.hid (Cs.go C20.out gr)
  have G21 := Lib.hid (grown_trans G20.out gr)
  clear gr C20 G20
  go_wp2_with fail
  refine (of_any 1 2 _).mono ?_; rintro e w22 ⟨rfl, gr⟩
  have C22 := Lib.hid (Cs.new C21.out gr)
  have G22 := Lib.hid (grown_trans (G21.out.alloc _ _) gr)
  clear gr C21 G21
  go_wp2_with fail
  refine (of_any (-3) 4 _).mono ?_; rintro e w23 ⟨rfl, gr⟩
  have C23 := Lib.hid (Cs.go C22.out gr)
  have G23 := Lib.hid (grown_trans G22.out gr)
  clear gr C22 G22
  go_wp2_with fail
  refine ((fun w => div_v 1 2 (-3) 4 (-2) 3 0 w (by decide +kernel)) _).mono ?_; rintro e w24 ⟨rfl, gr⟩
  have C24 := Lib.hid (Cs.go C23.out gr)
  have G24 := Lib.hid (grown_trans G23.out gr)
  clear gr C23 G23
  go_wp2_with fail
  refine (of_any 1 2 _).mono ?_; rintro e w25 ⟨rfl, gr⟩
  have C25 := Lib.hid (Cs.new C24.out gr)
  have G25 := Lib.hid (grown_trans (G24.out.alloc _ _) gr)
  clear gr C24 G24
  go_wp2_with fail
  refine (of_any 0 1 _).mono ?_; rintro e w26 ⟨rfl, gr⟩
  have C26 := Lib.hid (Cs.go C25.out gr)
  have G26 := Lib.hid (grown_trans G25.out gr)
  clear gr C25 G25
  go_wp2_with fail
  refine ((fun w => div_v 1 2 0 1 0 0 2 w (by decide +kernel)) _).mono ?_; rintro e w27 ⟨rfl, gr⟩
  have C27 := Lib.hid (Cs.go C26.out gr)
  have G27 := Lib.hid (grown_trans G26.out gr)
  clear gr C26 G26
  go_wp2_with fail
  refine (of_any 1048576 1 _).mono ?_; rintro e w28 ⟨rfl, gr⟩
  have C28 := Lib.hid (Cs.new C27.out gr)
  have G28 := Lib.hid (grown_trans (G27.out.alloc _ _) gr)
  clear gr C27 G27
  go_wp2_with fail
  refine (of_any 1048576 1 _).mono ?_; rintro e w29 ⟨rfl, gr⟩
  have C29 := Lib.hid (Cs.go C28.out gr)
  have G29 := Lib.hid (grown_trans G28.out gr)
  clear gr C28 G28
  go_wp2_with fail
  refine ((fun w => mul_v 1048576 1 1048576 1 0 0 6 w (by decide +kernel)) _).mono ?_; rintro e w30 ⟨rfl, gr⟩
  have C30 := Lib.hid (Cs.go C29.out gr)
  have G30 := Lib.hid (grown_trans G29.out gr)
  clear gr C29 G29
  have zk := C30.out.2.2.2.2.1.1
  have xk := C30.out.2.2.2.2.1.2.1
  have yk := C30.out.2.2.2.2.1.2.2
  go_wp2_with fail
  refine (is_yes 5 6 _).mono ?_; rintro e w31 ⟨rfl, gr⟩
  clear zk xk yk
  have C31 := Lib.hid (Cs.new C30.out gr)
  have G31 := Lib.hid (grown_trans (G30.out.alloc _ _) gr)
  clear gr C30 G30
  have zm := C31.out.2.2.2.2.1.1
  have xm := C31.out.2.2.2.2.1.2.1
  have ym := C31.out.2.2.2.2.1.2.2
  go_wp2_with fail
  refine (is_yes 0 1 _).mono ?_; rintro e w32 ⟨rfl, gr⟩
  clear zm xm ym
  have C32 := Lib.hid (Cs.go C31.out gr)
  have G32 := Lib.hid (grown_trans G31.out gr)
  clear gr C31 G31
  have zo := C32.out.2.2.2.1.1
  have xo := C32.out.2.2.2.1.2.1
  have yo := C32.out.2.2.2.1.2.2
  go_wp2_with fail
  refine (is_yes 1 2 _).mono ?_; rintro e w33 ⟨rfl, gr⟩
  clear zo xo yo
  have C33 := Lib.hid (Cs.go C32.out gr)
  have G33 := Lib.hid (grown_trans G32.out gr)
  clear gr C32 G32
  have zq := C33.out.2.2.1.1
  have xq := C33.out.2.2.1.2.1
  have yq := C33.out.2.2.1.2.2
  go_wp2_with fail
  refine (is_yes (-2) 3 _).mono ?_; rintro e w34 ⟨rfl, gr⟩
  clear zq xq yq
  have C34 := Lib.hid (Cs.go C33.out gr)
  have G34 := Lib.hid (grown_trans G33.out gr)
  clear gr C33 G33
  go_wp2_with fail
  refine (of_any 1 3 _).mono ?_; rintro e w35 ⟨rfl, gr⟩
  have C35 := Lib.hid (Cs.go C34.out gr)
  have G35 := Lib.hid (grown_trans G34.out gr)
  clear gr C34 G34
  go_wp2_with fail
  refine (of_any 2 5 _).mono ?_; rintro e w36 ⟨rfl, gr⟩
  have C36 := Lib.hid (Cs.go C35.out gr)
  have G36 := Lib.hid (grown_trans G35.out gr)
  clear gr C35 G35
  go_wp2_with fail
  refine ((fun w => cmp_v 1 3 2 5 (-1) 0 w (by decide +kernel)) _).mono ?_; rintro e w37 ⟨rfl, gr⟩
  have C37 := Lib.hid (Cs.go C36.out gr)
  have G37 := Lib.hid (grown_trans G36.out gr)
  clear gr C36 G36
  go_wp2_with fail
  refine (of_any (-3) 2 _).mono ?_; rintro e w38 ⟨rfl, gr⟩
  have C38 := Lib.hid (Cs.go C37.out gr)
  have G38 := Lib.hid (grown_trans G37.out gr)
  clear gr C37 G37
  go_wp2_with fail
  refine ((fun w => floor_v (-3) 2 (-2) 0 w (by decide +kernel)) _).mono ?_; rintro e w39 ⟨rfl, gr⟩
  have C39 := Lib.hid (Cs.go C38.out gr)
  have G39 := Lib.hid (grown_trans G38.out gr)
  clear gr C38 G38
  go_wp2_with fail
  refine (of_any (-3) 2 _).mono ?_; rintro e w40 ⟨rfl, gr⟩
  have C40 := Lib.hid (Cs.go C39.out gr)
  have G40 := Lib.hid (grown_trans G39.out gr)
  clear gr C39 G39
  go_wp2_with fail
  refine ((fun w => ceil_v (-3) 2 (-1) 0 w (by decide +kernel)) _).mono ?_; rintro e w41 ⟨rfl, gr⟩
  have C41 := Lib.hid (Cs.go C40.out gr)
  have G41 := Lib.hid (grown_trans G40.out gr)
  clear gr C40 G40
  go_wp2_with fail
  refine (of_any 1 3 _).mono ?_; rintro e w42 ⟨rfl, gr⟩
  have C42 := Lib.hid (Cs.go C41.out gr)
  have G42 := Lib.hid (grown_trans G41.out gr)
  clear gr C41 G41
  go_wp2_with fail
  refine (of_any 2 5 _).mono ?_; rintro e w43 ⟨rfl, gr⟩
  have C43 := Lib.hid (Cs.go C42.out gr)
  have G43 := Lib.hid (grown_trans G42.out gr)
  clear gr C42 G42
  go_wp2_with fail
  refine ((fun w => max_v 1 3 2 5 2 5 0 w (by decide +kernel)) _).mono ?_; rintro e w44 ⟨rfl, gr⟩
  have C44 := Lib.hid (Cs.go C43.out gr)
  have G44 := Lib.hid (grown_trans G43.out gr)
  clear gr C43 G43
  go_wp2_with fail
  refine (is_yes 2 5 _).mono ?_; rintro e w45 ⟨rfl, gr⟩
  have C45 := Lib.hid (Cs.new C44.out gr)
  have G45 := Lib.hid (grown_trans (G44.out.alloc _ _) gr)
  clear gr C44 G44
  go_wp2_with fail
  go_ret
  exact ⟨rfl, G45.out⟩

end Go.Proofs.Ytgbjooecomgfoaa
