/-
  What Join of the reference returns.
-/
import Derived.Test.YtnapelocjcoofaaEc
import Derived.Test.YtnapelocjcoofaaEf
namespace Go.Proofs.Ytnapelocjcoofaa
open Go.RowKit Go.Proofs.Ytnapelocjcoofaa.Cr

theorem jnD_long {d : ByteArray} {n x : Int} (h : (1522 : Int) < d.size) : jnD d n x = (zM, ⟨#[]⟩) := by unfold jnD; rw [if_pos (by omega)]
theorem jnD_good {d : ByteArray} {n x : Int} (h : (d.size : Int) ≤ 1522) (hg : chk d 0 = true) : jnD d n x = (zM, d) := by unfold jnD; rw [if_neg (by omega), if_pos hg]
theorem jnD_mark {d : ByteArray} {n x : Int} (h : (d.size : Int) ≤ 1522) (hg : chk d 0 = false) (hm : chk d mkC = true) : jnD d n x = (⟨true, n, x, bef d⟩, ⟨#[]⟩) := by unfold jnD; rw [if_neg (by omega), if_neg (by simp [hg]), if_pos hm]
theorem jnD_none {d : ByteArray} {n x : Int} (h : (d.size : Int) ≤ 1522) (hg : chk d 0 = false) (hm : chk d mkC = false) : jnD d n x = (zM, ⟨#[]⟩) := by unfold jnD; rw [if_neg (by omega), if_neg (by simp [hg]), if_neg (by simp [hm])]
theorem jnR_start' {m : Ms} {q c : Int} {z : ByteArray} : jnR m ⟨true, q, c, z⟩ = jnD z q 0 := by unfold jnR; rw [if_pos rfl]
theorem jnR_cont {q c : Int} {d z : ByteArray} {b : Bool} (hb : b = false) : jnR ⟨true, q, c, d⟩ ⟨b, q, c, z⟩ = jnD (d ++ z) q ((c + 1) % 4) := by subst hb; unfold jnR; rw [if_neg (by simp), if_pos ⟨rfl, rfl, rfl⟩]
theorem jnR_no {m : Ms} {q c : Int} {z : ByteArray} (h : ¬ (m.on = true ∧ m.num = q ∧ m.next = c)) : jnR m ⟨false, q, c, z⟩ = (zM, ⟨#[]⟩) := by unfold jnR; rw [if_neg (by simp), if_neg h]
theorem rgood_v {s : ByteArray} {b : Bool} (h : chk s 0 = b) (hs : (s.size : Int) ≤ 8000) (w : World) :
    Calls Try.prog 48 #[.string s] w fun e w' => e = .returned (.bool b) ∧ Bl w w' := by subst h; exact rgood_any s hs w
theorem rmarked_v {s : ByteArray} {b : Bool} (h : chk s mkC = b) (hs : (s.size : Int) ≤ 8000) (w : World) :
    Calls Try.prog 49 #[.string s] w fun e w' => e = .returned (.bool b) ∧ Bl w w' := by subst h; exact rmarked_any s hs w

set_option maxHeartbeats 4000000 in
theorem rjoin_any (m : Ms) (p : Pc) (hm : (m.data.size : Int) ≤ 4000) (hs : (p.data.size : Int) ≤ 4000) (w : World) :
    Calls Try.prog 21 #[m.v, p.v] w fun e w' => e = .returned (jnV m p) ∧ Bl w w' := by
  obtain ⟨o, n, x, d⟩ := m
  obtain ⟨s0, q, c, z⟩ := p
  dsimp only at hm hs
  have HR := Lib.hid (show Bl w (((w.alloc (.cells #[.bool o, .int .i64 n, .int .i64 x, .string d] 43)).alloc (.cells #[.bool s0, .int .i64 q, .int .i64 c, .string z] 45)).alloc (.cells #[.bool false, .int .i64 0, .int .i64 0, .string ⟨#[]⟩] 43)) from (((Bl.refl w).alloc _).alloc _).alloc _)
  have BM := ((Ms.boxed w ⟨o, n, x, d⟩ 43).alloc (.cells #[.bool s0, .int .i64 q, .int .i64 c, .string z] 45)).alloc (.cells #[.bool false, .int .i64 0, .int .i64 0, .string ⟨#[]⟩] 43)
  have BP := (Pc.boxed (w.alloc (.cells #[.bool o, .int .i64 n, .int .i64 x, .string d] 43)) ⟨s0, q, c, z⟩ 45).alloc (.cells #[.bool false, .int .i64 0, .int .i64 0, .string ⟨#[]⟩] 43)
  have BZ := Ms.boxed ((w.alloc (.cells #[.bool o, .int .i64 n, .int .i64 x, .string d] 43)).alloc (.cells #[.bool s0, .int .i64 q, .int .i64 c, .string z] 45)) zM 43
  rw [World.size_alloc] at BP
  rw [World.size_alloc, World.size_alloc] at BZ
  unfold jnV
  have HM := Lib.hid BM; have HP := Lib.hid BP; have HZ := Lib.hid BZ
  have a0 := BM.at 0 (by show 0 < 4; omega) (v := .bool o) rfl
  have a1 := BM.at 1 (by show 1 < 4; omega) (v := .int .i64 n) rfl
  have a2 := BM.at 2 (by show 2 < 4; omega) (v := .int .i64 x) rfl
  have a3 := BM.at 3 (by show 3 < 4; omega) (v := .string d) rfl
  have p0 := BP.at 0 (by show 0 < 4; omega) (v := .bool s0) rfl
  have p1 := BP.at 1 (by show 1 < 4; omega) (v := .int .i64 q) rfl
  have p2 := BP.at 2 (by show 2 < 4; omega) (v := .int .i64 c) rfl
  have p3 := BP.at 3 (by show 3 < 4; omega) (v := .string z) rfl
  clear BM BP BZ
  rcases two_bool (okM ⟨o, n, x, d⟩) with h1 | h1
  · have K1 := Lib.hid (fun w => right_v h1 (by dsimp only; omega) w)
    rcases two_bool (okP ⟨s0, q, c, z⟩) with h2 | h2
    · have K2 := Lib.hid (fun w => rightPiece_v h2 (by dsimp only; omega) w)
      rw [jn_yes h1 h2]
      have h64 : 64 ≤ z.size := (okP_iff.1 h2).2.2.2.1
      cases s0
      · by_cases hc : o = true ∧ n = q ∧ x = c
        · obtain ⟨e1, e2, e3⟩ := hc
          subst e1; subst e2; subst e3
          rw [jnR_cont rfl]
          have hx : 0 ≤ x ∧ x ≤ 3 := ((okM_on rfl).1 h1).2.1
          clear h1 h2
          have hsz : ((d ++ z).size : Int) ≤ 8000 := by rw [ByteArray.size_append]; omega
          have h64' : (64 : Int) ≤ (d ++ z).size := by rw [ByteArray.size_append]; omega
          unfold Ms.v Pc.v at *
          dsimp only at *
          by_cases hl : (1522 : Int) < (d ++ z).size
          · rw [jnD_long hl]
            go_enter Try.func21, Try.ntmps21
            go_wp2_with fail
            refine (K1.out _).mono ?_; rintro e w1 ⟨rfl, gr⟩
            have R1 := Lib.hid (HR.out.trans gr)
            have M1 := HM.out.bl gr; have P1 := HP.out.bl gr; have Z1 := HZ.out.bl gr; clear gr
            have b10 := M1.at 0 (by show 0 < 4; omega) (v := .bool true) rfl
            have b11 := M1.at 1 (by show 1 < 4; omega) (v := .int .i64 n) rfl
            have b12 := M1.at 2 (by show 2 < 4; omega) (v := .int .i64 x) rfl
            have b13 := M1.at 3 (by show 3 < 4; omega) (v := .string d) rfl
            have r10 := P1.at 0 (by show 0 < 4; omega) (v := .bool false) rfl
            have r11 := P1.at 1 (by show 1 < 4; omega) (v := .int .i64 n) rfl
            have r12 := P1.at 2 (by show 2 < 4; omega) (v := .int .i64 x) rfl
            have r13 := P1.at 3 (by show 3 < 4; omega) (v := .string z) rfl
            have z10 := Z1.at 0 (by show 0 < 4; omega) (v := .bool false) rfl
            have z1f0 := Z1.fr 0 (by show 0 < 4; omega)
            have z11 := Z1.at 1 (by show 1 < 4; omega) (v := .int .i64 0) rfl
            have z1f1 := Z1.fr 1 (by show 1 < 4; omega)
            have z12 := Z1.at 2 (by show 2 < 4; omega) (v := .int .i64 0) rfl
            have z1f2 := Z1.fr 2 (by show 2 < 4; omega)
            have z13 := Z1.at 3 (by show 3 < 4; omega) (v := .string ⟨#[]⟩) rfl
            have z1f3 := Z1.fr 3 (by show 3 < 4; omega)
            have HM := Lib.hid M1; have HP := Lib.hid P1; have HZ := Lib.hid Z1; have HR := R1; clear M1 P1 Z1 R1
            go_wp2_with fail
            refine (K2.out _).mono ?_; rintro e w2 ⟨rfl, gr⟩
            have R2 := Lib.hid (HR.out.trans gr)
            have M2 := HM.out.bl gr; have P2 := HP.out.bl gr; have Z2 := HZ.out.bl gr; clear gr
            have b20 := M2.at 0 (by show 0 < 4; omega) (v := .bool true) rfl
            have b21 := M2.at 1 (by show 1 < 4; omega) (v := .int .i64 n) rfl
            have b22 := M2.at 2 (by show 2 < 4; omega) (v := .int .i64 x) rfl
            have b23 := M2.at 3 (by show 3 < 4; omega) (v := .string d) rfl
            have r20 := P2.at 0 (by show 0 < 4; omega) (v := .bool false) rfl
            have r21 := P2.at 1 (by show 1 < 4; omega) (v := .int .i64 n) rfl
            have r22 := P2.at 2 (by show 2 < 4; omega) (v := .int .i64 x) rfl
            have r23 := P2.at 3 (by show 3 < 4; omega) (v := .string z) rfl
            have z20 := Z2.at 0 (by show 0 < 4; omega) (v := .bool false) rfl
            have z2f0 := Z2.fr 0 (by show 0 < 4; omega)
            have z21 := Z2.at 1 (by show 1 < 4; omega) (v := .int .i64 0) rfl
            have z2f1 := Z2.fr 1 (by show 1 < 4; omega)
            have z22 := Z2.at 2 (by show 2 < 4; omega) (v := .int .i64 0) rfl
            have z2f2 := Z2.fr 2 (by show 2 < 4; omega)
            have z23 := Z2.at 3 (by show 3 < 4; omega) (v := .string ⟨#[]⟩) rfl
            have z2f3 := Z2.fr 3 (by show 3 < 4; omega)
            go_wp2_with fail
            go_quiet (fail)
            have HM := Lib.hid (M2.bl ((Bl.refl _).drewN nq)); have HP := Lib.hid (P2.bl ((Bl.refl _).drewN nq)); have HZ := Lib.hid (Z2.bl ((Bl.refl _).drewN nq)); have HR := Lib.hid (R2.out.drewN nq)
            clear b20 r20 z20 z2f0 b21 r21 z21 z2f1 b22 r22 z22 z2f2 b23 r23 z23 z2f3 M2 P2 Z2 R2
            generalize w2.drewN nq = w3 at *
            generalize hdd : d ++ z = dd at *
            have HDD := Lib.hid hdd; clear hdd
            have R3 := HR; have M3 := HM.out; have P3 := HP.out; have Z3 := HZ.out
            have b30 := M3.at 0 (by show 0 < 4; omega) (v := .bool true) rfl
            have b31 := M3.at 1 (by show 1 < 4; omega) (v := .int .i64 n) rfl
            have b32 := M3.at 2 (by show 2 < 4; omega) (v := .int .i64 x) rfl
            have b33 := M3.at 3 (by show 3 < 4; omega) (v := .string d) rfl
            have r30 := P3.at 0 (by show 0 < 4; omega) (v := .bool false) rfl
            have r31 := P3.at 1 (by show 1 < 4; omega) (v := .int .i64 n) rfl
            have r32 := P3.at 2 (by show 2 < 4; omega) (v := .int .i64 x) rfl
            have r33 := P3.at 3 (by show 3 < 4; omega) (v := .string z) rfl
            have z30 := Z3.at 0 (by show 0 < 4; omega) (v := .bool false) rfl
            have z3f0 := Z3.fr 0 (by show 0 < 4; omega)
            have z31 := Z3.at 1 (by show 1 < 4; omega) (v := .int .i64 0) rfl
            have z3f1 := Z3.fr 1 (by show 1 < 4; omega)
            have z32 := Z3.at 2 (by show 2 < 4; omega) (v := .int .i64 0) rfl
            have z3f2 := Z3.fr 2 (by show 2 < 4; omega)
            have z33 := Z3.at 3 (by show 3 < 4; omega) (v := .string ⟨#[]⟩) rfl
            have z3f3 := Z3.fr 3 (by show 3 < 4; omega)
            have ZZ := Z3.four (false) (0) (0) (⟨#[]⟩)
            have y0 := ZZ.at 0 (by show 0 < 4; omega) (v := .bool false) rfl
            have y1 := ZZ.at 1 (by show 1 < 4; omega) (v := .int .i64 0) rfl
            have y2 := ZZ.at 2 (by show 2 < 4; omega) (v := .int .i64 0) rfl
            have y3 := ZZ.at 3 (by show 3 < 4; omega) (v := .string ⟨#[]⟩) rfl
            have hb : w.heap.size ≤ w.heap.size + 1 + 1 := by omega
            have RR := Lib.hid (R3.out.four hb (.bool false) (.int .i64 0) (.int .i64 0) (.string ⟨#[]⟩))
            clear ZZ
            clear M3 P3 Z3
            go_wp2_with fail
            refine bodyPost_ret (v := .tuple #[.agg #[.bool false, .int .i64 0, .int .i64 0, .string ⟨#[]⟩], .string ⟨#[]⟩, .int .i64 0]) (by simp [results, Try.results21, go_sem, y0, y1, y2, y3]) rfl ⟨rfl, RR.out⟩
          · have hl' : ((d ++ z).size : Int) ≤ 1522 := by omega
            rcases two_bool (chk (d ++ z) 0) with hg | hg <;> have KG := Lib.hid (fun w => rgood_v hg (by omega) w)
            · rw [jnD_good hl' hg]
              clear hg
              go_enter Try.func21, Try.ntmps21
              go_wp2_with fail
              refine (K1.out _).mono ?_; rintro e w1 ⟨rfl, gr⟩
              have R1 := Lib.hid (HR.out.trans gr)
              have M1 := HM.out.bl gr; have P1 := HP.out.bl gr; have Z1 := HZ.out.bl gr; clear gr
              have b10 := M1.at 0 (by show 0 < 4; omega) (v := .bool true) rfl
              have b11 := M1.at 1 (by show 1 < 4; omega) (v := .int .i64 n) rfl
              have b12 := M1.at 2 (by show 2 < 4; omega) (v := .int .i64 x) rfl
              have b13 := M1.at 3 (by show 3 < 4; omega) (v := .string d) rfl
              have r10 := P1.at 0 (by show 0 < 4; omega) (v := .bool false) rfl
              have r11 := P1.at 1 (by show 1 < 4; omega) (v := .int .i64 n) rfl
              have r12 := P1.at 2 (by show 2 < 4; omega) (v := .int .i64 x) rfl
              have r13 := P1.at 3 (by show 3 < 4; omega) (v := .string z) rfl
              have z10 := Z1.at 0 (by show 0 < 4; omega) (v := .bool false) rfl
              have z1f0 := Z1.fr 0 (by show 0 < 4; omega)
              have z11 := Z1.at 1 (by show 1 < 4; omega) (v := .int .i64 0) rfl
              have z1f1 := Z1.fr 1 (by show 1 < 4; omega)
              have z12 := Z1.at 2 (by show 2 < 4; omega) (v := .int .i64 0) rfl
              have z1f2 := Z1.fr 2 (by show 2 < 4; omega)
              have z13 := Z1.at 3 (by show 3 < 4; omega) (v := .string ⟨#[]⟩) rfl
              have z1f3 := Z1.fr 3 (by show 3 < 4; omega)
              have HM := Lib.hid M1; have HP := Lib.hid P1; have HZ := Lib.hid Z1; have HR := R1; clear M1 P1 Z1 R1
              go_wp2_with fail
              refine (K2.out _).mono ?_; rintro e w2 ⟨rfl, gr⟩
              have R2 := Lib.hid (HR.out.trans gr)
              have M2 := HM.out.bl gr; have P2 := HP.out.bl gr; have Z2 := HZ.out.bl gr; clear gr
              have b20 := M2.at 0 (by show 0 < 4; omega) (v := .bool true) rfl
              have b21 := M2.at 1 (by show 1 < 4; omega) (v := .int .i64 n) rfl
              have b22 := M2.at 2 (by show 2 < 4; omega) (v := .int .i64 x) rfl
              have b23 := M2.at 3 (by show 3 < 4; omega) (v := .string d) rfl
              have r20 := P2.at 0 (by show 0 < 4; omega) (v := .bool false) rfl
              have r21 := P2.at 1 (by show 1 < 4; omega) (v := .int .i64 n) rfl
              have r22 := P2.at 2 (by show 2 < 4; omega) (v := .int .i64 x) rfl
              have r23 := P2.at 3 (by show 3 < 4; omega) (v := .string z) rfl
              have z20 := Z2.at 0 (by show 0 < 4; omega) (v := .bool false) rfl
              have z2f0 := Z2.fr 0 (by show 0 < 4; omega)
              have z21 := Z2.at 1 (by show 1 < 4; omega) (v := .int .i64 0) rfl
              have z2f1 := Z2.fr 1 (by show 1 < 4; omega)
              have z22 := Z2.at 2 (by show 2 < 4; omega) (v := .int .i64 0) rfl
              have z2f2 := Z2.fr 2 (by show 2 < 4; omega)
              have z23 := Z2.at 3 (by show 3 < 4; omega) (v := .string ⟨#[]⟩) rfl
              have z2f3 := Z2.fr 3 (by show 3 < 4; omega)
              go_wp2_with fail
              go_quiet (fail)
              have HM := Lib.hid (M2.bl ((Bl.refl _).drewN nq)); have HP := Lib.hid (P2.bl ((Bl.refl _).drewN nq)); have HZ := Lib.hid (Z2.bl ((Bl.refl _).drewN nq)); have HR := Lib.hid (R2.out.drewN nq)
              clear b20 r20 z20 z2f0 b21 r21 z21 z2f1 b22 r22 z22 z2f2 b23 r23 z23 z2f3 M2 P2 Z2 R2
              generalize w2.drewN nq = w3 at *
              generalize hdd : d ++ z = dd at *
              have HDD := Lib.hid hdd; clear hdd
              have R3 := HR; have M3 := HM.out; have P3 := HP.out; have Z3 := HZ.out
              have b30 := M3.at 0 (by show 0 < 4; omega) (v := .bool true) rfl
              have b31 := M3.at 1 (by show 1 < 4; omega) (v := .int .i64 n) rfl
              have b32 := M3.at 2 (by show 2 < 4; omega) (v := .int .i64 x) rfl
              have b33 := M3.at 3 (by show 3 < 4; omega) (v := .string d) rfl
              have r30 := P3.at 0 (by show 0 < 4; omega) (v := .bool false) rfl
              have r31 := P3.at 1 (by show 1 < 4; omega) (v := .int .i64 n) rfl
              have r32 := P3.at 2 (by show 2 < 4; omega) (v := .int .i64 x) rfl
              have r33 := P3.at 3 (by show 3 < 4; omega) (v := .string z) rfl
              have z30 := Z3.at 0 (by show 0 < 4; omega) (v := .bool false) rfl
              have z3f0 := Z3.fr 0 (by show 0 < 4; omega)
              have z31 := Z3.at 1 (by show 1 < 4; omega) (v := .int .i64 0) rfl
              have z3f1 := Z3.fr 1 (by show 1 < 4; omega)
              have z32 := Z3.at 2 (by show 2 < 4; omega) (v := .int .i64 0) rfl
              have z3f2 := Z3.fr 2 (by show 2 < 4; omega)
              have z33 := Z3.at 3 (by show 3 < 4; omega) (v := .string ⟨#[]⟩) rfl
              have z3f3 := Z3.fr 3 (by show 3 < 4; omega)
              clear M3 P3 Z3 R3
              go_wp2_with fail
              refine (KG.out _).mono ?_; rintro e w4 ⟨rfl, gr⟩
              have R4 := Lib.hid (HR.out.trans gr)
              have M4 := HM.out.bl gr; have P4 := HP.out.bl gr; have Z4 := HZ.out.bl gr; clear gr
              have b40 := M4.at 0 (by show 0 < 4; omega) (v := .bool true) rfl
              have b41 := M4.at 1 (by show 1 < 4; omega) (v := .int .i64 n) rfl
              have b42 := M4.at 2 (by show 2 < 4; omega) (v := .int .i64 x) rfl
              have b43 := M4.at 3 (by show 3 < 4; omega) (v := .string d) rfl
              have r40 := P4.at 0 (by show 0 < 4; omega) (v := .bool false) rfl
              have r41 := P4.at 1 (by show 1 < 4; omega) (v := .int .i64 n) rfl
              have r42 := P4.at 2 (by show 2 < 4; omega) (v := .int .i64 x) rfl
              have r43 := P4.at 3 (by show 3 < 4; omega) (v := .string z) rfl
              have z40 := Z4.at 0 (by show 0 < 4; omega) (v := .bool false) rfl
              have z4f0 := Z4.fr 0 (by show 0 < 4; omega)
              have z41 := Z4.at 1 (by show 1 < 4; omega) (v := .int .i64 0) rfl
              have z4f1 := Z4.fr 1 (by show 1 < 4; omega)
              have z42 := Z4.at 2 (by show 2 < 4; omega) (v := .int .i64 0) rfl
              have z4f2 := Z4.fr 2 (by show 2 < 4; omega)
              have z43 := Z4.at 3 (by show 3 < 4; omega) (v := .string ⟨#[]⟩) rfl
              have z4f3 := Z4.fr 3 (by show 3 < 4; omega)
              have ZZ := Z4.four (false) (0) (0) (⟨#[]⟩)
              have y0 := ZZ.at 0 (by show 0 < 4; omega) (v := .bool false) rfl
              have y1 := ZZ.at 1 (by show 1 < 4; omega) (v := .int .i64 0) rfl
              have y2 := ZZ.at 2 (by show 2 < 4; omega) (v := .int .i64 0) rfl
              have y3 := ZZ.at 3 (by show 3 < 4; omega) (v := .string ⟨#[]⟩) rfl
              have hb : w.heap.size ≤ w.heap.size + 1 + 1 := by omega
              have RR := Lib.hid (R4.out.four hb (.bool false) (.int .i64 0) (.int .i64 0) (.string ⟨#[]⟩))
              clear ZZ
              clear M4 P4 Z4
              go_wp2_with fail
              refine bodyPost_ret (v := .tuple #[.agg #[.bool false, .int .i64 0, .int .i64 0, .string ⟨#[]⟩], .string dd, .int .i64 0]) (by simp [results, Try.results21, go_sem, y0, y1, y2, y3]) rfl ⟨by rw [HDD.out]; rfl, RR.out⟩
            · rcases two_bool (chk (d ++ z) mkC) with hk | hk <;> have KM := Lib.hid (fun w => rmarked_v hk (by omega) w)
              · rw [jnD_mark hl' hg hk]
                clear hg hk
                go_enter Try.func21, Try.ntmps21
                go_wp2_with fail
                refine (K1.out _).mono ?_; rintro e w1 ⟨rfl, gr⟩
                have R1 := Lib.hid (HR.out.trans gr)
                have M1 := HM.out.bl gr; have P1 := HP.out.bl gr; have Z1 := HZ.out.bl gr; clear gr
                have b10 := M1.at 0 (by show 0 < 4; omega) (v := .bool true) rfl
                have b11 := M1.at 1 (by show 1 < 4; omega) (v := .int .i64 n) rfl
                have b12 := M1.at 2 (by show 2 < 4; omega) (v := .int .i64 x) rfl
                have b13 := M1.at 3 (by show 3 < 4; omega) (v := .string d) rfl
                have r10 := P1.at 0 (by show 0 < 4; omega) (v := .bool false) rfl
                have r11 := P1.at 1 (by show 1 < 4; omega) (v := .int .i64 n) rfl
                have r12 := P1.at 2 (by show 2 < 4; omega) (v := .int .i64 x) rfl
                have r13 := P1.at 3 (by show 3 < 4; omega) (v := .string z) rfl
                have z10 := Z1.at 0 (by show 0 < 4; omega) (v := .bool false) rfl
                have z1f0 := Z1.fr 0 (by show 0 < 4; omega)
                have z11 := Z1.at 1 (by show 1 < 4; omega) (v := .int .i64 0) rfl
                have z1f1 := Z1.fr 1 (by show 1 < 4; omega)
                have z12 := Z1.at 2 (by show 2 < 4; omega) (v := .int .i64 0) rfl
                have z1f2 := Z1.fr 2 (by show 2 < 4; omega)
                have z13 := Z1.at 3 (by show 3 < 4; omega) (v := .string ⟨#[]⟩) rfl
                have z1f3 := Z1.fr 3 (by show 3 < 4; omega)
                have HM := Lib.hid M1; have HP := Lib.hid P1; have HZ := Lib.hid Z1; have HR := R1; clear M1 P1 Z1 R1
                go_wp2_with fail
                refine (K2.out _).mono ?_; rintro e w2 ⟨rfl, gr⟩
                have R2 := Lib.hid (HR.out.trans gr)
                have M2 := HM.out.bl gr; have P2 := HP.out.bl gr; have Z2 := HZ.out.bl gr; clear gr
                have b20 := M2.at 0 (by show 0 < 4; omega) (v := .bool true) rfl
                have b21 := M2.at 1 (by show 1 < 4; omega) (v := .int .i64 n) rfl
                have b22 := M2.at 2 (by show 2 < 4; omega) (v := .int .i64 x) rfl
                have b23 := M2.at 3 (by show 3 < 4; omega) (v := .string d) rfl
                have r20 := P2.at 0 (by show 0 < 4; omega) (v := .bool false) rfl
                have r21 := P2.at 1 (by show 1 < 4; omega) (v := .int .i64 n) rfl
                have r22 := P2.at 2 (by show 2 < 4; omega) (v := .int .i64 x) rfl
                have r23 := P2.at 3 (by show 3 < 4; omega) (v := .string z) rfl
                have z20 := Z2.at 0 (by show 0 < 4; omega) (v := .bool false) rfl
                have z2f0 := Z2.fr 0 (by show 0 < 4; omega)
                have z21 := Z2.at 1 (by show 1 < 4; omega) (v := .int .i64 0) rfl
                have z2f1 := Z2.fr 1 (by show 1 < 4; omega)
                have z22 := Z2.at 2 (by show 2 < 4; omega) (v := .int .i64 0) rfl
                have z2f2 := Z2.fr 2 (by show 2 < 4; omega)
                have z23 := Z2.at 3 (by show 3 < 4; omega) (v := .string ⟨#[]⟩) rfl
                have z2f3 := Z2.fr 3 (by show 3 < 4; omega)
                go_wp2_with fail
                go_quiet (fail)
                have HM := Lib.hid (M2.bl ((Bl.refl _).drewN nq)); have HP := Lib.hid (P2.bl ((Bl.refl _).drewN nq)); have HZ := Lib.hid (Z2.bl ((Bl.refl _).drewN nq)); have HR := Lib.hid (R2.out.drewN nq)
                clear b20 r20 z20 z2f0 b21 r21 z21 z2f1 b22 r22 z22 z2f2 b23 r23 z23 z2f3 M2 P2 Z2 R2
                generalize w2.drewN nq = w3 at *
                generalize hdd : d ++ z = dd at *
                have HDD := Lib.hid hdd; clear hdd
                have R3 := HR; have M3 := HM.out; have P3 := HP.out; have Z3 := HZ.out
                have b30 := M3.at 0 (by show 0 < 4; omega) (v := .bool true) rfl
                have b31 := M3.at 1 (by show 1 < 4; omega) (v := .int .i64 n) rfl
                have b32 := M3.at 2 (by show 2 < 4; omega) (v := .int .i64 x) rfl
                have b33 := M3.at 3 (by show 3 < 4; omega) (v := .string d) rfl
                have r30 := P3.at 0 (by show 0 < 4; omega) (v := .bool false) rfl
                have r31 := P3.at 1 (by show 1 < 4; omega) (v := .int .i64 n) rfl
                have r32 := P3.at 2 (by show 2 < 4; omega) (v := .int .i64 x) rfl
                have r33 := P3.at 3 (by show 3 < 4; omega) (v := .string z) rfl
                have z30 := Z3.at 0 (by show 0 < 4; omega) (v := .bool false) rfl
                have z3f0 := Z3.fr 0 (by show 0 < 4; omega)
                have z31 := Z3.at 1 (by show 1 < 4; omega) (v := .int .i64 0) rfl
                have z3f1 := Z3.fr 1 (by show 1 < 4; omega)
                have z32 := Z3.at 2 (by show 2 < 4; omega) (v := .int .i64 0) rfl
                have z3f2 := Z3.fr 2 (by show 2 < 4; omega)
                have z33 := Z3.at 3 (by show 3 < 4; omega) (v := .string ⟨#[]⟩) rfl
                have z3f3 := Z3.fr 3 (by show 3 < 4; omega)
                clear M3 P3 Z3 R3
                go_wp2_with fail
                refine (KG.out _).mono ?_; rintro e w4 ⟨rfl, gr⟩
                have R4 := Lib.hid (HR.out.trans gr)
                have M4 := HM.out.bl gr; have P4 := HP.out.bl gr; have Z4 := HZ.out.bl gr; clear gr
                have b40 := M4.at 0 (by show 0 < 4; omega) (v := .bool true) rfl
                have b41 := M4.at 1 (by show 1 < 4; omega) (v := .int .i64 n) rfl
                have b42 := M4.at 2 (by show 2 < 4; omega) (v := .int .i64 x) rfl
                have b43 := M4.at 3 (by show 3 < 4; omega) (v := .string d) rfl
                have r40 := P4.at 0 (by show 0 < 4; omega) (v := .bool false) rfl
                have r41 := P4.at 1 (by show 1 < 4; omega) (v := .int .i64 n) rfl
                have r42 := P4.at 2 (by show 2 < 4; omega) (v := .int .i64 x) rfl
                have r43 := P4.at 3 (by show 3 < 4; omega) (v := .string z) rfl
                have z40 := Z4.at 0 (by show 0 < 4; omega) (v := .bool false) rfl
                have z4f0 := Z4.fr 0 (by show 0 < 4; omega)
                have z41 := Z4.at 1 (by show 1 < 4; omega) (v := .int .i64 0) rfl
                have z4f1 := Z4.fr 1 (by show 1 < 4; omega)
                have z42 := Z4.at 2 (by show 2 < 4; omega) (v := .int .i64 0) rfl
                have z4f2 := Z4.fr 2 (by show 2 < 4; omega)
                have z43 := Z4.at 3 (by show 3 < 4; omega) (v := .string ⟨#[]⟩) rfl
                have z4f3 := Z4.fr 3 (by show 3 < 4; omega)
                have HM := Lib.hid M4; have HP := Lib.hid P4; have HZ := Lib.hid Z4; have HR := R4; clear M4 P4 Z4 R4
                go_wp2_with fail
                refine (KM.out _).mono ?_; rintro e w5 ⟨rfl, gr⟩
                have R5 := Lib.hid (HR.out.trans gr)
                have M5 := HM.out.bl gr; have P5 := HP.out.bl gr; have Z5 := HZ.out.bl gr; clear gr
                have b50 := M5.at 0 (by show 0 < 4; omega) (v := .bool true) rfl
                have b51 := M5.at 1 (by show 1 < 4; omega) (v := .int .i64 n) rfl
                have b52 := M5.at 2 (by show 2 < 4; omega) (v := .int .i64 x) rfl
                have b53 := M5.at 3 (by show 3 < 4; omega) (v := .string d) rfl
                have r50 := P5.at 0 (by show 0 < 4; omega) (v := .bool false) rfl
                have r51 := P5.at 1 (by show 1 < 4; omega) (v := .int .i64 n) rfl
                have r52 := P5.at 2 (by show 2 < 4; omega) (v := .int .i64 x) rfl
                have r53 := P5.at 3 (by show 3 < 4; omega) (v := .string z) rfl
                have z50 := Z5.at 0 (by show 0 < 4; omega) (v := .bool false) rfl
                have z5f0 := Z5.fr 0 (by show 0 < 4; omega)
                have z51 := Z5.at 1 (by show 1 < 4; omega) (v := .int .i64 0) rfl
                have z5f1 := Z5.fr 1 (by show 1 < 4; omega)
                have z52 := Z5.at 2 (by show 2 < 4; omega) (v := .int .i64 0) rfl
                have z5f2 := Z5.fr 2 (by show 2 < 4; omega)
                have z53 := Z5.at 3 (by show 3 < 4; omega) (v := .string ⟨#[]⟩) rfl
                have z5f3 := Z5.fr 3 (by show 3 < 4; omega)
                have ZZ := (Z5.four true n ((x + 1) % 4) (dd.extract 0 (dd.size - 4))).drew
                have RR := Lib.hid (R5.out.four (show w.heap.size ≤ w.heap.size + 1 + 1 by omega) (.bool true) (.int .i64 n) (.int .i64 ((x + 1) % 4)) (.string (dd.extract 0 (dd.size - 4)))).drew
                have y0 := ZZ.at 0 (by show 0 < 4; omega) (v := .bool true) rfl
                have y1 := ZZ.at 1 (by show 1 < 4; omega) (v := .int .i64 n) rfl
                have y2 := ZZ.at 2 (by show 2 < 4; omega) (v := .int .i64 ((x + 1) % 4)) rfl
                have y3 := ZZ.at 3 (by show 3 < 4; omega) (v := .string (dd.extract 0 (dd.size - 4))) rfl
                clear M5 P5 Z5 ZZ
                go_wp2_with fail
                go_region
                go_wp2_with fail
                refine bodyPost_ret (v := .tuple #[.agg #[.bool true, .int .i64 n, .int .i64 ((x + 1) % 4), .string (dd.extract 0 (dd.size - 4))], .string ⟨#[]⟩, .int .i64 0]) (by simp [results, Try.results21, go_sem, y0, y1, y2, y3]) rfl ⟨by rw [HDD.out]; rfl, RR.out⟩
              · rw [jnD_none hl' hg hk]
                clear hg hk
                go_enter Try.func21, Try.ntmps21
                go_wp2_with fail
                refine (K1.out _).mono ?_; rintro e w1 ⟨rfl, gr⟩
                have R1 := Lib.hid (HR.out.trans gr)
                have M1 := HM.out.bl gr; have P1 := HP.out.bl gr; have Z1 := HZ.out.bl gr; clear gr
                have b10 := M1.at 0 (by show 0 < 4; omega) (v := .bool true) rfl
                have b11 := M1.at 1 (by show 1 < 4; omega) (v := .int .i64 n) rfl
                have b12 := M1.at 2 (by show 2 < 4; omega) (v := .int .i64 x) rfl
                have b13 := M1.at 3 (by show 3 < 4; omega) (v := .string d) rfl
                have r10 := P1.at 0 (by show 0 < 4; omega) (v := .bool false) rfl
                have r11 := P1.at 1 (by show 1 < 4; omega) (v := .int .i64 n) rfl
                have r12 := P1.at 2 (by show 2 < 4; omega) (v := .int .i64 x) rfl
                have r13 := P1.at 3 (by show 3 < 4; omega) (v := .string z) rfl
                have z10 := Z1.at 0 (by show 0 < 4; omega) (v := .bool false) rfl
                have z1f0 := Z1.fr 0 (by show 0 < 4; omega)
                have z11 := Z1.at 1 (by show 1 < 4; omega) (v := .int .i64 0) rfl
                have z1f1 := Z1.fr 1 (by show 1 < 4; omega)
                have z12 := Z1.at 2 (by show 2 < 4; omega) (v := .int .i64 0) rfl
                have z1f2 := Z1.fr 2 (by show 2 < 4; omega)
                have z13 := Z1.at 3 (by show 3 < 4; omega) (v := .string ⟨#[]⟩) rfl
                have z1f3 := Z1.fr 3 (by show 3 < 4; omega)
                have HM := Lib.hid M1; have HP := Lib.hid P1; have HZ := Lib.hid Z1; have HR := R1; clear M1 P1 Z1 R1
                go_wp2_with fail
                refine (K2.out _).mono ?_; rintro e w2 ⟨rfl, gr⟩
                have R2 := Lib.hid (HR.out.trans gr)
                have M2 := HM.out.bl gr; have P2 := HP.out.bl gr; have Z2 := HZ.out.bl gr; clear gr
                have b20 := M2.at 0 (by show 0 < 4; omega) (v := .bool true) rfl
                have b21 := M2.at 1 (by show 1 < 4; omega) (v := .int .i64 n) rfl
                have b22 := M2.at 2 (by show 2 < 4; omega) (v := .int .i64 x) rfl
                have b23 := M2.at 3 (by show 3 < 4; omega) (v := .string d) rfl
                have r20 := P2.at 0 (by show 0 < 4; omega) (v := .bool false) rfl
                have r21 := P2.at 1 (by show 1 < 4; omega) (v := .int .i64 n) rfl
                have r22 := P2.at 2 (by show 2 < 4; omega) (v := .int .i64 x) rfl
                have r23 := P2.at 3 (by show 3 < 4; omega) (v := .string z) rfl
                have z20 := Z2.at 0 (by show 0 < 4; omega) (v := .bool false) rfl
                have z2f0 := Z2.fr 0 (by show 0 < 4; omega)
                have z21 := Z2.at 1 (by show 1 < 4; omega) (v := .int .i64 0) rfl
                have z2f1 := Z2.fr 1 (by show 1 < 4; omega)
                have z22 := Z2.at 2 (by show 2 < 4; omega) (v := .int .i64 0) rfl
                have z2f2 := Z2.fr 2 (by show 2 < 4; omega)
                have z23 := Z2.at 3 (by show 3 < 4; omega) (v := .string ⟨#[]⟩) rfl
                have z2f3 := Z2.fr 3 (by show 3 < 4; omega)
                go_wp2_with fail
                go_quiet (fail)
                have HM := Lib.hid (M2.bl ((Bl.refl _).drewN nq)); have HP := Lib.hid (P2.bl ((Bl.refl _).drewN nq)); have HZ := Lib.hid (Z2.bl ((Bl.refl _).drewN nq)); have HR := Lib.hid (R2.out.drewN nq)
                clear b20 r20 z20 z2f0 b21 r21 z21 z2f1 b22 r22 z22 z2f2 b23 r23 z23 z2f3 M2 P2 Z2 R2
                generalize w2.drewN nq = w3 at *
                generalize hdd : d ++ z = dd at *
                have HDD := Lib.hid hdd; clear hdd
                have R3 := HR; have M3 := HM.out; have P3 := HP.out; have Z3 := HZ.out
                have b30 := M3.at 0 (by show 0 < 4; omega) (v := .bool true) rfl
                have b31 := M3.at 1 (by show 1 < 4; omega) (v := .int .i64 n) rfl
                have b32 := M3.at 2 (by show 2 < 4; omega) (v := .int .i64 x) rfl
                have b33 := M3.at 3 (by show 3 < 4; omega) (v := .string d) rfl
                have r30 := P3.at 0 (by show 0 < 4; omega) (v := .bool false) rfl
                have r31 := P3.at 1 (by show 1 < 4; omega) (v := .int .i64 n) rfl
                have r32 := P3.at 2 (by show 2 < 4; omega) (v := .int .i64 x) rfl
                have r33 := P3.at 3 (by show 3 < 4; omega) (v := .string z) rfl
                have z30 := Z3.at 0 (by show 0 < 4; omega) (v := .bool false) rfl
                have z3f0 := Z3.fr 0 (by show 0 < 4; omega)
                have z31 := Z3.at 1 (by show 1 < 4; omega) (v := .int .i64 0) rfl
                have z3f1 := Z3.fr 1 (by show 1 < 4; omega)
                have z32 := Z3.at 2 (by show 2 < 4; omega) (v := .int .i64 0) rfl
                have z3f2 := Z3.fr 2 (by show 2 < 4; omega)
                have z33 := Z3.at 3 (by show 3 < 4; omega) (v := .string ⟨#[]⟩) rfl
                have z3f3 := Z3.fr 3 (by show 3 < 4; omega)
                clear M3 P3 Z3 R3
                go_wp2_with fail
                refine (KG.out _).mono ?_; rintro e w4 ⟨rfl, gr⟩
                have R4 := Lib.hid (HR.out.trans gr)
                have M4 := HM.out.bl gr; have P4 := HP.out.bl gr; have Z4 := HZ.out.bl gr; clear gr
                have b40 := M4.at 0 (by show 0 < 4; omega) (v := .bool true) rfl
                have b41 := M4.at 1 (by show 1 < 4; omega) (v := .int .i64 n) rfl
                have b42 := M4.at 2 (by show 2 < 4; omega) (v := .int .i64 x) rfl
                have b43 := M4.at 3 (by show 3 < 4; omega) (v := .string d) rfl
                have r40 := P4.at 0 (by show 0 < 4; omega) (v := .bool false) rfl
                have r41 := P4.at 1 (by show 1 < 4; omega) (v := .int .i64 n) rfl
                have r42 := P4.at 2 (by show 2 < 4; omega) (v := .int .i64 x) rfl
                have r43 := P4.at 3 (by show 3 < 4; omega) (v := .string z) rfl
                have z40 := Z4.at 0 (by show 0 < 4; omega) (v := .bool false) rfl
                have z4f0 := Z4.fr 0 (by show 0 < 4; omega)
                have z41 := Z4.at 1 (by show 1 < 4; omega) (v := .int .i64 0) rfl
                have z4f1 := Z4.fr 1 (by show 1 < 4; omega)
                have z42 := Z4.at 2 (by show 2 < 4; omega) (v := .int .i64 0) rfl
                have z4f2 := Z4.fr 2 (by show 2 < 4; omega)
                have z43 := Z4.at 3 (by show 3 < 4; omega) (v := .string ⟨#[]⟩) rfl
                have z4f3 := Z4.fr 3 (by show 3 < 4; omega)
                have HM := Lib.hid M4; have HP := Lib.hid P4; have HZ := Lib.hid Z4; have HR := R4; clear M4 P4 Z4 R4
                go_wp2_with fail
                refine (KM.out _).mono ?_; rintro e w5 ⟨rfl, gr⟩
                have R5 := Lib.hid (HR.out.trans gr)
                have M5 := HM.out.bl gr; have P5 := HP.out.bl gr; have Z5 := HZ.out.bl gr; clear gr
                have b50 := M5.at 0 (by show 0 < 4; omega) (v := .bool true) rfl
                have b51 := M5.at 1 (by show 1 < 4; omega) (v := .int .i64 n) rfl
                have b52 := M5.at 2 (by show 2 < 4; omega) (v := .int .i64 x) rfl
                have b53 := M5.at 3 (by show 3 < 4; omega) (v := .string d) rfl
                have r50 := P5.at 0 (by show 0 < 4; omega) (v := .bool false) rfl
                have r51 := P5.at 1 (by show 1 < 4; omega) (v := .int .i64 n) rfl
                have r52 := P5.at 2 (by show 2 < 4; omega) (v := .int .i64 x) rfl
                have r53 := P5.at 3 (by show 3 < 4; omega) (v := .string z) rfl
                have z50 := Z5.at 0 (by show 0 < 4; omega) (v := .bool false) rfl
                have z5f0 := Z5.fr 0 (by show 0 < 4; omega)
                have z51 := Z5.at 1 (by show 1 < 4; omega) (v := .int .i64 0) rfl
                have z5f1 := Z5.fr 1 (by show 1 < 4; omega)
                have z52 := Z5.at 2 (by show 2 < 4; omega) (v := .int .i64 0) rfl
                have z5f2 := Z5.fr 2 (by show 2 < 4; omega)
                have z53 := Z5.at 3 (by show 3 < 4; omega) (v := .string ⟨#[]⟩) rfl
                have z5f3 := Z5.fr 3 (by show 3 < 4; omega)
                have ZZ := Z5.four (false) (0) (0) (⟨#[]⟩)
                have y0 := ZZ.at 0 (by show 0 < 4; omega) (v := .bool false) rfl
                have y1 := ZZ.at 1 (by show 1 < 4; omega) (v := .int .i64 0) rfl
                have y2 := ZZ.at 2 (by show 2 < 4; omega) (v := .int .i64 0) rfl
                have y3 := ZZ.at 3 (by show 3 < 4; omega) (v := .string ⟨#[]⟩) rfl
                have hb : w.heap.size ≤ w.heap.size + 1 + 1 := by omega
                have RR := Lib.hid (R5.out.four hb (.bool false) (.int .i64 0) (.int .i64 0) (.string ⟨#[]⟩))
                clear ZZ
                clear M5 P5 Z5
                go_wp2_with fail
                refine bodyPost_ret (v := .tuple #[.agg #[.bool false, .int .i64 0, .int .i64 0, .string ⟨#[]⟩], .string ⟨#[]⟩, .int .i64 0]) (by simp [results, Try.results21, go_sem, y0, y1, y2, y3]) rfl ⟨rfl, RR.out⟩
        · rw [jnR_no hc]
          clear h1 h2
          unfold Ms.v Pc.v at *
          dsimp only at *
          cases o
          · go_enter Try.func21, Try.ntmps21
            go_wp2_with fail
            refine (K1.out _).mono ?_; rintro e w1 ⟨rfl, gr⟩
            have R1 := Lib.hid (HR.out.trans gr)
            have M1 := HM.out.bl gr; have P1 := HP.out.bl gr; have Z1 := HZ.out.bl gr; clear gr
            have b10 := M1.at 0 (by show 0 < 4; omega) (v := .bool false) rfl
            have b11 := M1.at 1 (by show 1 < 4; omega) (v := .int .i64 n) rfl
            have b12 := M1.at 2 (by show 2 < 4; omega) (v := .int .i64 x) rfl
            have b13 := M1.at 3 (by show 3 < 4; omega) (v := .string d) rfl
            have r10 := P1.at 0 (by show 0 < 4; omega) (v := .bool false) rfl
            have r11 := P1.at 1 (by show 1 < 4; omega) (v := .int .i64 q) rfl
            have r12 := P1.at 2 (by show 2 < 4; omega) (v := .int .i64 c) rfl
            have r13 := P1.at 3 (by show 3 < 4; omega) (v := .string z) rfl
            have z10 := Z1.at 0 (by show 0 < 4; omega) (v := .bool false) rfl
            have z1f0 := Z1.fr 0 (by show 0 < 4; omega)
            have z11 := Z1.at 1 (by show 1 < 4; omega) (v := .int .i64 0) rfl
            have z1f1 := Z1.fr 1 (by show 1 < 4; omega)
            have z12 := Z1.at 2 (by show 2 < 4; omega) (v := .int .i64 0) rfl
            have z1f2 := Z1.fr 2 (by show 2 < 4; omega)
            have z13 := Z1.at 3 (by show 3 < 4; omega) (v := .string ⟨#[]⟩) rfl
            have z1f3 := Z1.fr 3 (by show 3 < 4; omega)
            have HM := Lib.hid M1; have HP := Lib.hid P1; have HZ := Lib.hid Z1; have HR := R1; clear M1 P1 Z1 R1
            go_wp2_with fail
            refine (K2.out _).mono ?_; rintro e w2 ⟨rfl, gr⟩
            have R2 := Lib.hid (HR.out.trans gr)
            have M2 := HM.out.bl gr; have P2 := HP.out.bl gr; have Z2 := HZ.out.bl gr; clear gr
            have b20 := M2.at 0 (by show 0 < 4; omega) (v := .bool false) rfl
            have b21 := M2.at 1 (by show 1 < 4; omega) (v := .int .i64 n) rfl
            have b22 := M2.at 2 (by show 2 < 4; omega) (v := .int .i64 x) rfl
            have b23 := M2.at 3 (by show 3 < 4; omega) (v := .string d) rfl
            have r20 := P2.at 0 (by show 0 < 4; omega) (v := .bool false) rfl
            have r21 := P2.at 1 (by show 1 < 4; omega) (v := .int .i64 q) rfl
            have r22 := P2.at 2 (by show 2 < 4; omega) (v := .int .i64 c) rfl
            have r23 := P2.at 3 (by show 3 < 4; omega) (v := .string z) rfl
            have z20 := Z2.at 0 (by show 0 < 4; omega) (v := .bool false) rfl
            have z2f0 := Z2.fr 0 (by show 0 < 4; omega)
            have z21 := Z2.at 1 (by show 1 < 4; omega) (v := .int .i64 0) rfl
            have z2f1 := Z2.fr 1 (by show 1 < 4; omega)
            have z22 := Z2.at 2 (by show 2 < 4; omega) (v := .int .i64 0) rfl
            have z2f2 := Z2.fr 2 (by show 2 < 4; omega)
            have z23 := Z2.at 3 (by show 3 < 4; omega) (v := .string ⟨#[]⟩) rfl
            have z2f3 := Z2.fr 3 (by show 3 < 4; omega)
            have ZZ := Z2.four (false) (0) (0) (⟨#[]⟩)
            have y0 := ZZ.at 0 (by show 0 < 4; omega) (v := .bool false) rfl
            have y1 := ZZ.at 1 (by show 1 < 4; omega) (v := .int .i64 0) rfl
            have y2 := ZZ.at 2 (by show 2 < 4; omega) (v := .int .i64 0) rfl
            have y3 := ZZ.at 3 (by show 3 < 4; omega) (v := .string ⟨#[]⟩) rfl
            have hb : w.heap.size ≤ w.heap.size + 1 + 1 := by omega
            have RR := Lib.hid (R2.out.four hb (.bool false) (.int .i64 0) (.int .i64 0) (.string ⟨#[]⟩))
            clear ZZ
            clear M2 P2 Z2
            go_wp2_with fail
            refine bodyPost_ret (v := .tuple #[.agg #[.bool false, .int .i64 0, .int .i64 0, .string ⟨#[]⟩], .string ⟨#[]⟩, .int .i64 0]) (by simp [results, Try.results21, go_sem, y0, y1, y2, y3]) rfl ⟨rfl, RR.out⟩
          · by_cases hn : n = q
            · have hx : ¬ x = c := fun hx => hc ⟨rfl, hn, hx⟩
              clear hc
              subst hn
              have e2 : decide (x = c) = false := decide_eq_false hx
              have e3 : (x != c) = true := bne_iff_ne.2 hx
              go_enter Try.func21, Try.ntmps21
              go_wp2_with fail
              refine (K1.out _).mono ?_; rintro e w1 ⟨rfl, gr⟩
              have R1 := Lib.hid (HR.out.trans gr)
              have M1 := HM.out.bl gr; have P1 := HP.out.bl gr; have Z1 := HZ.out.bl gr; clear gr
              have b10 := M1.at 0 (by show 0 < 4; omega) (v := .bool true) rfl
              have b11 := M1.at 1 (by show 1 < 4; omega) (v := .int .i64 n) rfl
              have b12 := M1.at 2 (by show 2 < 4; omega) (v := .int .i64 x) rfl
              have b13 := M1.at 3 (by show 3 < 4; omega) (v := .string d) rfl
              have r10 := P1.at 0 (by show 0 < 4; omega) (v := .bool false) rfl
              have r11 := P1.at 1 (by show 1 < 4; omega) (v := .int .i64 n) rfl
              have r12 := P1.at 2 (by show 2 < 4; omega) (v := .int .i64 c) rfl
              have r13 := P1.at 3 (by show 3 < 4; omega) (v := .string z) rfl
              have z10 := Z1.at 0 (by show 0 < 4; omega) (v := .bool false) rfl
              have z1f0 := Z1.fr 0 (by show 0 < 4; omega)
              have z11 := Z1.at 1 (by show 1 < 4; omega) (v := .int .i64 0) rfl
              have z1f1 := Z1.fr 1 (by show 1 < 4; omega)
              have z12 := Z1.at 2 (by show 2 < 4; omega) (v := .int .i64 0) rfl
              have z1f2 := Z1.fr 2 (by show 2 < 4; omega)
              have z13 := Z1.at 3 (by show 3 < 4; omega) (v := .string ⟨#[]⟩) rfl
              have z1f3 := Z1.fr 3 (by show 3 < 4; omega)
              have HM := Lib.hid M1; have HP := Lib.hid P1; have HZ := Lib.hid Z1; have HR := R1; clear M1 P1 Z1 R1
              go_wp2_with fail
              refine (K2.out _).mono ?_; rintro e w2 ⟨rfl, gr⟩
              have R2 := Lib.hid (HR.out.trans gr)
              have M2 := HM.out.bl gr; have P2 := HP.out.bl gr; have Z2 := HZ.out.bl gr; clear gr
              have b20 := M2.at 0 (by show 0 < 4; omega) (v := .bool true) rfl
              have b21 := M2.at 1 (by show 1 < 4; omega) (v := .int .i64 n) rfl
              have b22 := M2.at 2 (by show 2 < 4; omega) (v := .int .i64 x) rfl
              have b23 := M2.at 3 (by show 3 < 4; omega) (v := .string d) rfl
              have r20 := P2.at 0 (by show 0 < 4; omega) (v := .bool false) rfl
              have r21 := P2.at 1 (by show 1 < 4; omega) (v := .int .i64 n) rfl
              have r22 := P2.at 2 (by show 2 < 4; omega) (v := .int .i64 c) rfl
              have r23 := P2.at 3 (by show 3 < 4; omega) (v := .string z) rfl
              have z20 := Z2.at 0 (by show 0 < 4; omega) (v := .bool false) rfl
              have z2f0 := Z2.fr 0 (by show 0 < 4; omega)
              have z21 := Z2.at 1 (by show 1 < 4; omega) (v := .int .i64 0) rfl
              have z2f1 := Z2.fr 1 (by show 1 < 4; omega)
              have z22 := Z2.at 2 (by show 2 < 4; omega) (v := .int .i64 0) rfl
              have z2f2 := Z2.fr 2 (by show 2 < 4; omega)
              have z23 := Z2.at 3 (by show 3 < 4; omega) (v := .string ⟨#[]⟩) rfl
              have z2f3 := Z2.fr 3 (by show 3 < 4; omega)
              have ZZ := Z2.four (false) (0) (0) (⟨#[]⟩)
              have y0 := ZZ.at 0 (by show 0 < 4; omega) (v := .bool false) rfl
              have y1 := ZZ.at 1 (by show 1 < 4; omega) (v := .int .i64 0) rfl
              have y2 := ZZ.at 2 (by show 2 < 4; omega) (v := .int .i64 0) rfl
              have y3 := ZZ.at 3 (by show 3 < 4; omega) (v := .string ⟨#[]⟩) rfl
              have hb : w.heap.size ≤ w.heap.size + 1 + 1 := by omega
              have RR := Lib.hid (R2.out.four hb (.bool false) (.int .i64 0) (.int .i64 0) (.string ⟨#[]⟩))
              clear ZZ
              clear M2 P2 Z2
              go_wp2_with fail
              refine bodyPost_ret (v := .tuple #[.agg #[.bool false, .int .i64 0, .int .i64 0, .string ⟨#[]⟩], .string ⟨#[]⟩, .int .i64 0]) (by simp [results, Try.results21, go_sem, y0, y1, y2, y3]) rfl ⟨rfl, RR.out⟩
            · clear hc
              have e2 : decide (n = q) = false := decide_eq_false hn
              have e3 : (n != q) = true := bne_iff_ne.2 hn
              go_enter Try.func21, Try.ntmps21
              go_wp2_with fail
              refine (K1.out _).mono ?_; rintro e w1 ⟨rfl, gr⟩
              have R1 := Lib.hid (HR.out.trans gr)
              have M1 := HM.out.bl gr; have P1 := HP.out.bl gr; have Z1 := HZ.out.bl gr; clear gr
              have b10 := M1.at 0 (by show 0 < 4; omega) (v := .bool true) rfl
              have b11 := M1.at 1 (by show 1 < 4; omega) (v := .int .i64 n) rfl
              have b12 := M1.at 2 (by show 2 < 4; omega) (v := .int .i64 x) rfl
              have b13 := M1.at 3 (by show 3 < 4; omega) (v := .string d) rfl
              have r10 := P1.at 0 (by show 0 < 4; omega) (v := .bool false) rfl
              have r11 := P1.at 1 (by show 1 < 4; omega) (v := .int .i64 q) rfl
              have r12 := P1.at 2 (by show 2 < 4; omega) (v := .int .i64 c) rfl
              have r13 := P1.at 3 (by show 3 < 4; omega) (v := .string z) rfl
              have z10 := Z1.at 0 (by show 0 < 4; omega) (v := .bool false) rfl
              have z1f0 := Z1.fr 0 (by show 0 < 4; omega)
              have z11 := Z1.at 1 (by show 1 < 4; omega) (v := .int .i64 0) rfl
              have z1f1 := Z1.fr 1 (by show 1 < 4; omega)
              have z12 := Z1.at 2 (by show 2 < 4; omega) (v := .int .i64 0) rfl
              have z1f2 := Z1.fr 2 (by show 2 < 4; omega)
              have z13 := Z1.at 3 (by show 3 < 4; omega) (v := .string ⟨#[]⟩) rfl
              have z1f3 := Z1.fr 3 (by show 3 < 4; omega)
              have HM := Lib.hid M1; have HP := Lib.hid P1; have HZ := Lib.hid Z1; have HR := R1; clear M1 P1 Z1 R1
              go_wp2_with fail
              refine (K2.out _).mono ?_; rintro e w2 ⟨rfl, gr⟩
              have R2 := Lib.hid (HR.out.trans gr)
              have M2 := HM.out.bl gr; have P2 := HP.out.bl gr; have Z2 := HZ.out.bl gr; clear gr
              have b20 := M2.at 0 (by show 0 < 4; omega) (v := .bool true) rfl
              have b21 := M2.at 1 (by show 1 < 4; omega) (v := .int .i64 n) rfl
              have b22 := M2.at 2 (by show 2 < 4; omega) (v := .int .i64 x) rfl
              have b23 := M2.at 3 (by show 3 < 4; omega) (v := .string d) rfl
              have r20 := P2.at 0 (by show 0 < 4; omega) (v := .bool false) rfl
              have r21 := P2.at 1 (by show 1 < 4; omega) (v := .int .i64 q) rfl
              have r22 := P2.at 2 (by show 2 < 4; omega) (v := .int .i64 c) rfl
              have r23 := P2.at 3 (by show 3 < 4; omega) (v := .string z) rfl
              have z20 := Z2.at 0 (by show 0 < 4; omega) (v := .bool false) rfl
              have z2f0 := Z2.fr 0 (by show 0 < 4; omega)
              have z21 := Z2.at 1 (by show 1 < 4; omega) (v := .int .i64 0) rfl
              have z2f1 := Z2.fr 1 (by show 1 < 4; omega)
              have z22 := Z2.at 2 (by show 2 < 4; omega) (v := .int .i64 0) rfl
              have z2f2 := Z2.fr 2 (by show 2 < 4; omega)
              have z23 := Z2.at 3 (by show 3 < 4; omega) (v := .string ⟨#[]⟩) rfl
              have z2f3 := Z2.fr 3 (by show 3 < 4; omega)
              have ZZ := Z2.four (false) (0) (0) (⟨#[]⟩)
              have y0 := ZZ.at 0 (by show 0 < 4; omega) (v := .bool false) rfl
              have y1 := ZZ.at 1 (by show 1 < 4; omega) (v := .int .i64 0) rfl
              have y2 := ZZ.at 2 (by show 2 < 4; omega) (v := .int .i64 0) rfl
              have y3 := ZZ.at 3 (by show 3 < 4; omega) (v := .string ⟨#[]⟩) rfl
              have hb : w.heap.size ≤ w.heap.size + 1 + 1 := by omega
              have RR := Lib.hid (R2.out.four hb (.bool false) (.int .i64 0) (.int .i64 0) (.string ⟨#[]⟩))
              clear ZZ
              clear M2 P2 Z2
              go_wp2_with fail
              refine bodyPost_ret (v := .tuple #[.agg #[.bool false, .int .i64 0, .int .i64 0, .string ⟨#[]⟩], .string ⟨#[]⟩, .int .i64 0]) (by simp [results, Try.results21, go_sem, y0, y1, y2, y3]) rfl ⟨rfl, RR.out⟩
      · rw [jnR_start']
        clear h1 h2
        unfold Ms.v Pc.v at *
        dsimp only at *
        by_cases hl : (1522 : Int) < (z).size
        · rw [jnD_long hl]
          go_enter Try.func21, Try.ntmps21
          go_wp2_with fail
          refine (K1.out _).mono ?_; rintro e w1 ⟨rfl, gr⟩
          have R1 := Lib.hid (HR.out.trans gr)
          have M1 := HM.out.bl gr; have P1 := HP.out.bl gr; have Z1 := HZ.out.bl gr; clear gr
          have b10 := M1.at 0 (by show 0 < 4; omega) (v := .bool o) rfl
          have b11 := M1.at 1 (by show 1 < 4; omega) (v := .int .i64 n) rfl
          have b12 := M1.at 2 (by show 2 < 4; omega) (v := .int .i64 x) rfl
          have b13 := M1.at 3 (by show 3 < 4; omega) (v := .string d) rfl
          have r10 := P1.at 0 (by show 0 < 4; omega) (v := .bool true) rfl
          have r11 := P1.at 1 (by show 1 < 4; omega) (v := .int .i64 q) rfl
          have r12 := P1.at 2 (by show 2 < 4; omega) (v := .int .i64 c) rfl
          have r13 := P1.at 3 (by show 3 < 4; omega) (v := .string z) rfl
          have z10 := Z1.at 0 (by show 0 < 4; omega) (v := .bool false) rfl
          have z1f0 := Z1.fr 0 (by show 0 < 4; omega)
          have z11 := Z1.at 1 (by show 1 < 4; omega) (v := .int .i64 0) rfl
          have z1f1 := Z1.fr 1 (by show 1 < 4; omega)
          have z12 := Z1.at 2 (by show 2 < 4; omega) (v := .int .i64 0) rfl
          have z1f2 := Z1.fr 2 (by show 2 < 4; omega)
          have z13 := Z1.at 3 (by show 3 < 4; omega) (v := .string ⟨#[]⟩) rfl
          have z1f3 := Z1.fr 3 (by show 3 < 4; omega)
          have HM := Lib.hid M1; have HP := Lib.hid P1; have HZ := Lib.hid Z1; have HR := R1; clear M1 P1 Z1 R1
          go_wp2_with fail
          refine (K2.out _).mono ?_; rintro e w2 ⟨rfl, gr⟩
          have R2 := Lib.hid (HR.out.trans gr)
          have M2 := HM.out.bl gr; have P2 := HP.out.bl gr; have Z2 := HZ.out.bl gr; clear gr
          have b20 := M2.at 0 (by show 0 < 4; omega) (v := .bool o) rfl
          have b21 := M2.at 1 (by show 1 < 4; omega) (v := .int .i64 n) rfl
          have b22 := M2.at 2 (by show 2 < 4; omega) (v := .int .i64 x) rfl
          have b23 := M2.at 3 (by show 3 < 4; omega) (v := .string d) rfl
          have r20 := P2.at 0 (by show 0 < 4; omega) (v := .bool true) rfl
          have r21 := P2.at 1 (by show 1 < 4; omega) (v := .int .i64 q) rfl
          have r22 := P2.at 2 (by show 2 < 4; omega) (v := .int .i64 c) rfl
          have r23 := P2.at 3 (by show 3 < 4; omega) (v := .string z) rfl
          have z20 := Z2.at 0 (by show 0 < 4; omega) (v := .bool false) rfl
          have z2f0 := Z2.fr 0 (by show 0 < 4; omega)
          have z21 := Z2.at 1 (by show 1 < 4; omega) (v := .int .i64 0) rfl
          have z2f1 := Z2.fr 1 (by show 1 < 4; omega)
          have z22 := Z2.at 2 (by show 2 < 4; omega) (v := .int .i64 0) rfl
          have z2f2 := Z2.fr 2 (by show 2 < 4; omega)
          have z23 := Z2.at 3 (by show 3 < 4; omega) (v := .string ⟨#[]⟩) rfl
          have z2f3 := Z2.fr 3 (by show 3 < 4; omega)
          have HM := Lib.hid M2; have HP := Lib.hid P2; have HZ := Lib.hid Z2; have HR := R2
          have ZZ := Z2.four (false) (0) (0) (⟨#[]⟩)
          have y0 := ZZ.at 0 (by show 0 < 4; omega) (v := .bool false) rfl
          have y1 := ZZ.at 1 (by show 1 < 4; omega) (v := .int .i64 0) rfl
          have y2 := ZZ.at 2 (by show 2 < 4; omega) (v := .int .i64 0) rfl
          have y3 := ZZ.at 3 (by show 3 < 4; omega) (v := .string ⟨#[]⟩) rfl
          have hb : w.heap.size ≤ w.heap.size + 1 + 1 := by omega
          have RR := Lib.hid (R2.out.four hb (.bool false) (.int .i64 0) (.int .i64 0) (.string ⟨#[]⟩))
          clear ZZ
          clear M2 P2 Z2
          go_wp2_with fail
          refine bodyPost_ret (v := .tuple #[.agg #[.bool false, .int .i64 0, .int .i64 0, .string ⟨#[]⟩], .string ⟨#[]⟩, .int .i64 0]) (by simp [results, Try.results21, go_sem, y0, y1, y2, y3]) rfl ⟨rfl, RR.out⟩
        · have hl' : ((z).size : Int) ≤ 1522 := by omega
          rcases two_bool (chk (z) 0) with hg | hg <;> have KG := Lib.hid (fun w => rgood_v hg (by omega) w)
          · rw [jnD_good hl' hg]
            clear hg
            go_enter Try.func21, Try.ntmps21
            go_wp2_with fail
            refine (K1.out _).mono ?_; rintro e w1 ⟨rfl, gr⟩
            have R1 := Lib.hid (HR.out.trans gr)
            have M1 := HM.out.bl gr; have P1 := HP.out.bl gr; have Z1 := HZ.out.bl gr; clear gr
            have b10 := M1.at 0 (by show 0 < 4; omega) (v := .bool o) rfl
            have b11 := M1.at 1 (by show 1 < 4; omega) (v := .int .i64 n) rfl
            have b12 := M1.at 2 (by show 2 < 4; omega) (v := .int .i64 x) rfl
            have b13 := M1.at 3 (by show 3 < 4; omega) (v := .string d) rfl
            have r10 := P1.at 0 (by show 0 < 4; omega) (v := .bool true) rfl
            have r11 := P1.at 1 (by show 1 < 4; omega) (v := .int .i64 q) rfl
            have r12 := P1.at 2 (by show 2 < 4; omega) (v := .int .i64 c) rfl
            have r13 := P1.at 3 (by show 3 < 4; omega) (v := .string z) rfl
            have z10 := Z1.at 0 (by show 0 < 4; omega) (v := .bool false) rfl
            have z1f0 := Z1.fr 0 (by show 0 < 4; omega)
            have z11 := Z1.at 1 (by show 1 < 4; omega) (v := .int .i64 0) rfl
            have z1f1 := Z1.fr 1 (by show 1 < 4; omega)
            have z12 := Z1.at 2 (by show 2 < 4; omega) (v := .int .i64 0) rfl
            have z1f2 := Z1.fr 2 (by show 2 < 4; omega)
            have z13 := Z1.at 3 (by show 3 < 4; omega) (v := .string ⟨#[]⟩) rfl
            have z1f3 := Z1.fr 3 (by show 3 < 4; omega)
            have HM := Lib.hid M1; have HP := Lib.hid P1; have HZ := Lib.hid Z1; have HR := R1; clear M1 P1 Z1 R1
            go_wp2_with fail
            refine (K2.out _).mono ?_; rintro e w2 ⟨rfl, gr⟩
            have R2 := Lib.hid (HR.out.trans gr)
            have M2 := HM.out.bl gr; have P2 := HP.out.bl gr; have Z2 := HZ.out.bl gr; clear gr
            have b20 := M2.at 0 (by show 0 < 4; omega) (v := .bool o) rfl
            have b21 := M2.at 1 (by show 1 < 4; omega) (v := .int .i64 n) rfl
            have b22 := M2.at 2 (by show 2 < 4; omega) (v := .int .i64 x) rfl
            have b23 := M2.at 3 (by show 3 < 4; omega) (v := .string d) rfl
            have r20 := P2.at 0 (by show 0 < 4; omega) (v := .bool true) rfl
            have r21 := P2.at 1 (by show 1 < 4; omega) (v := .int .i64 q) rfl
            have r22 := P2.at 2 (by show 2 < 4; omega) (v := .int .i64 c) rfl
            have r23 := P2.at 3 (by show 3 < 4; omega) (v := .string z) rfl
            have z20 := Z2.at 0 (by show 0 < 4; omega) (v := .bool false) rfl
            have z2f0 := Z2.fr 0 (by show 0 < 4; omega)
            have z21 := Z2.at 1 (by show 1 < 4; omega) (v := .int .i64 0) rfl
            have z2f1 := Z2.fr 1 (by show 1 < 4; omega)
            have z22 := Z2.at 2 (by show 2 < 4; omega) (v := .int .i64 0) rfl
            have z2f2 := Z2.fr 2 (by show 2 < 4; omega)
            have z23 := Z2.at 3 (by show 3 < 4; omega) (v := .string ⟨#[]⟩) rfl
            have z2f3 := Z2.fr 3 (by show 3 < 4; omega)
            have HM := Lib.hid M2; have HP := Lib.hid P2; have HZ := Lib.hid Z2; have HR := R2
            clear M2 P2 Z2 R2
            go_wp2_with fail
            refine (KG.out _).mono ?_; rintro e w4 ⟨rfl, gr⟩
            have R4 := Lib.hid (HR.out.trans gr)
            have M4 := HM.out.bl gr; have P4 := HP.out.bl gr; have Z4 := HZ.out.bl gr; clear gr
            have b40 := M4.at 0 (by show 0 < 4; omega) (v := .bool o) rfl
            have b41 := M4.at 1 (by show 1 < 4; omega) (v := .int .i64 n) rfl
            have b42 := M4.at 2 (by show 2 < 4; omega) (v := .int .i64 x) rfl
            have b43 := M4.at 3 (by show 3 < 4; omega) (v := .string d) rfl
            have r40 := P4.at 0 (by show 0 < 4; omega) (v := .bool true) rfl
            have r41 := P4.at 1 (by show 1 < 4; omega) (v := .int .i64 q) rfl
            have r42 := P4.at 2 (by show 2 < 4; omega) (v := .int .i64 c) rfl
            have r43 := P4.at 3 (by show 3 < 4; omega) (v := .string z) rfl
            have z40 := Z4.at 0 (by show 0 < 4; omega) (v := .bool false) rfl
            have z4f0 := Z4.fr 0 (by show 0 < 4; omega)
            have z41 := Z4.at 1 (by show 1 < 4; omega) (v := .int .i64 0) rfl
            have z4f1 := Z4.fr 1 (by show 1 < 4; omega)
            have z42 := Z4.at 2 (by show 2 < 4; omega) (v := .int .i64 0) rfl
            have z4f2 := Z4.fr 2 (by show 2 < 4; omega)
            have z43 := Z4.at 3 (by show 3 < 4; omega) (v := .string ⟨#[]⟩) rfl
            have z4f3 := Z4.fr 3 (by show 3 < 4; omega)
            have ZZ := Z4.four (false) (0) (0) (⟨#[]⟩)
            have y0 := ZZ.at 0 (by show 0 < 4; omega) (v := .bool false) rfl
            have y1 := ZZ.at 1 (by show 1 < 4; omega) (v := .int .i64 0) rfl
            have y2 := ZZ.at 2 (by show 2 < 4; omega) (v := .int .i64 0) rfl
            have y3 := ZZ.at 3 (by show 3 < 4; omega) (v := .string ⟨#[]⟩) rfl
            have hb : w.heap.size ≤ w.heap.size + 1 + 1 := by omega
            have RR := Lib.hid (R4.out.four hb (.bool false) (.int .i64 0) (.int .i64 0) (.string ⟨#[]⟩))
            clear ZZ
            clear M4 P4 Z4
            go_wp2_with fail
            refine bodyPost_ret (v := .tuple #[.agg #[.bool false, .int .i64 0, .int .i64 0, .string ⟨#[]⟩], .string z, .int .i64 0]) (by simp [results, Try.results21, go_sem, y0, y1, y2, y3]) rfl ⟨rfl, RR.out⟩
          · rcases two_bool (chk (z) mkC) with hk | hk <;> have KM := Lib.hid (fun w => rmarked_v hk (by omega) w)
            · rw [jnD_mark hl' hg hk]
              clear hg hk
              go_enter Try.func21, Try.ntmps21
              go_wp2_with fail
              refine (K1.out _).mono ?_; rintro e w1 ⟨rfl, gr⟩
              have R1 := Lib.hid (HR.out.trans gr)
              have M1 := HM.out.bl gr; have P1 := HP.out.bl gr; have Z1 := HZ.out.bl gr; clear gr
              have b10 := M1.at 0 (by show 0 < 4; omega) (v := .bool o) rfl
              have b11 := M1.at 1 (by show 1 < 4; omega) (v := .int .i64 n) rfl
              have b12 := M1.at 2 (by show 2 < 4; omega) (v := .int .i64 x) rfl
              have b13 := M1.at 3 (by show 3 < 4; omega) (v := .string d) rfl
              have r10 := P1.at 0 (by show 0 < 4; omega) (v := .bool true) rfl
              have r11 := P1.at 1 (by show 1 < 4; omega) (v := .int .i64 q) rfl
              have r12 := P1.at 2 (by show 2 < 4; omega) (v := .int .i64 c) rfl
              have r13 := P1.at 3 (by show 3 < 4; omega) (v := .string z) rfl
              have z10 := Z1.at 0 (by show 0 < 4; omega) (v := .bool false) rfl
              have z1f0 := Z1.fr 0 (by show 0 < 4; omega)
              have z11 := Z1.at 1 (by show 1 < 4; omega) (v := .int .i64 0) rfl
              have z1f1 := Z1.fr 1 (by show 1 < 4; omega)
              have z12 := Z1.at 2 (by show 2 < 4; omega) (v := .int .i64 0) rfl
              have z1f2 := Z1.fr 2 (by show 2 < 4; omega)
              have z13 := Z1.at 3 (by show 3 < 4; omega) (v := .string ⟨#[]⟩) rfl
              have z1f3 := Z1.fr 3 (by show 3 < 4; omega)
              have HM := Lib.hid M1; have HP := Lib.hid P1; have HZ := Lib.hid Z1; have HR := R1; clear M1 P1 Z1 R1
              go_wp2_with fail
              refine (K2.out _).mono ?_; rintro e w2 ⟨rfl, gr⟩
              have R2 := Lib.hid (HR.out.trans gr)
              have M2 := HM.out.bl gr; have P2 := HP.out.bl gr; have Z2 := HZ.out.bl gr; clear gr
              have b20 := M2.at 0 (by show 0 < 4; omega) (v := .bool o) rfl
              have b21 := M2.at 1 (by show 1 < 4; omega) (v := .int .i64 n) rfl
              have b22 := M2.at 2 (by show 2 < 4; omega) (v := .int .i64 x) rfl
              have b23 := M2.at 3 (by show 3 < 4; omega) (v := .string d) rfl
              have r20 := P2.at 0 (by show 0 < 4; omega) (v := .bool true) rfl
              have r21 := P2.at 1 (by show 1 < 4; omega) (v := .int .i64 q) rfl
              have r22 := P2.at 2 (by show 2 < 4; omega) (v := .int .i64 c) rfl
              have r23 := P2.at 3 (by show 3 < 4; omega) (v := .string z) rfl
              have z20 := Z2.at 0 (by show 0 < 4; omega) (v := .bool false) rfl
              have z2f0 := Z2.fr 0 (by show 0 < 4; omega)
              have z21 := Z2.at 1 (by show 1 < 4; omega) (v := .int .i64 0) rfl
              have z2f1 := Z2.fr 1 (by show 1 < 4; omega)
              have z22 := Z2.at 2 (by show 2 < 4; omega) (v := .int .i64 0) rfl
              have z2f2 := Z2.fr 2 (by show 2 < 4; omega)
              have z23 := Z2.at 3 (by show 3 < 4; omega) (v := .string ⟨#[]⟩) rfl
              have z2f3 := Z2.fr 3 (by show 3 < 4; omega)
              have HM := Lib.hid M2; have HP := Lib.hid P2; have HZ := Lib.hid Z2; have HR := R2
              clear M2 P2 Z2 R2
              go_wp2_with fail
              refine (KG.out _).mono ?_; rintro e w4 ⟨rfl, gr⟩
              have R4 := Lib.hid (HR.out.trans gr)
              have M4 := HM.out.bl gr; have P4 := HP.out.bl gr; have Z4 := HZ.out.bl gr; clear gr
              have b40 := M4.at 0 (by show 0 < 4; omega) (v := .bool o) rfl
              have b41 := M4.at 1 (by show 1 < 4; omega) (v := .int .i64 n) rfl
              have b42 := M4.at 2 (by show 2 < 4; omega) (v := .int .i64 x) rfl
              have b43 := M4.at 3 (by show 3 < 4; omega) (v := .string d) rfl
              have r40 := P4.at 0 (by show 0 < 4; omega) (v := .bool true) rfl
              have r41 := P4.at 1 (by show 1 < 4; omega) (v := .int .i64 q) rfl
              have r42 := P4.at 2 (by show 2 < 4; omega) (v := .int .i64 c) rfl
              have r43 := P4.at 3 (by show 3 < 4; omega) (v := .string z) rfl
              have z40 := Z4.at 0 (by show 0 < 4; omega) (v := .bool false) rfl
              have z4f0 := Z4.fr 0 (by show 0 < 4; omega)
              have z41 := Z4.at 1 (by show 1 < 4; omega) (v := .int .i64 0) rfl
              have z4f1 := Z4.fr 1 (by show 1 < 4; omega)
              have z42 := Z4.at 2 (by show 2 < 4; omega) (v := .int .i64 0) rfl
              have z4f2 := Z4.fr 2 (by show 2 < 4; omega)
              have z43 := Z4.at 3 (by show 3 < 4; omega) (v := .string ⟨#[]⟩) rfl
              have z4f3 := Z4.fr 3 (by show 3 < 4; omega)
              have HM := Lib.hid M4; have HP := Lib.hid P4; have HZ := Lib.hid Z4; have HR := R4; clear M4 P4 Z4 R4
              go_wp2_with fail
              refine (KM.out _).mono ?_; rintro e w5 ⟨rfl, gr⟩
              have R5 := Lib.hid (HR.out.trans gr)
              have M5 := HM.out.bl gr; have P5 := HP.out.bl gr; have Z5 := HZ.out.bl gr; clear gr
              have b50 := M5.at 0 (by show 0 < 4; omega) (v := .bool o) rfl
              have b51 := M5.at 1 (by show 1 < 4; omega) (v := .int .i64 n) rfl
              have b52 := M5.at 2 (by show 2 < 4; omega) (v := .int .i64 x) rfl
              have b53 := M5.at 3 (by show 3 < 4; omega) (v := .string d) rfl
              have r50 := P5.at 0 (by show 0 < 4; omega) (v := .bool true) rfl
              have r51 := P5.at 1 (by show 1 < 4; omega) (v := .int .i64 q) rfl
              have r52 := P5.at 2 (by show 2 < 4; omega) (v := .int .i64 c) rfl
              have r53 := P5.at 3 (by show 3 < 4; omega) (v := .string z) rfl
              have z50 := Z5.at 0 (by show 0 < 4; omega) (v := .bool false) rfl
              have z5f0 := Z5.fr 0 (by show 0 < 4; omega)
              have z51 := Z5.at 1 (by show 1 < 4; omega) (v := .int .i64 0) rfl
              have z5f1 := Z5.fr 1 (by show 1 < 4; omega)
              have z52 := Z5.at 2 (by show 2 < 4; omega) (v := .int .i64 0) rfl
              have z5f2 := Z5.fr 2 (by show 2 < 4; omega)
              have z53 := Z5.at 3 (by show 3 < 4; omega) (v := .string ⟨#[]⟩) rfl
              have z5f3 := Z5.fr 3 (by show 3 < 4; omega)
              have ZZ := (Z5.four true q (0) (z.extract 0 (z.size - 4))).drew
              have RR := Lib.hid (R5.out.four (show w.heap.size ≤ w.heap.size + 1 + 1 by omega) (.bool true) (.int .i64 q) (.int .i64 (0)) (.string (z.extract 0 (z.size - 4)))).drew
              have y0 := ZZ.at 0 (by show 0 < 4; omega) (v := .bool true) rfl
              have y1 := ZZ.at 1 (by show 1 < 4; omega) (v := .int .i64 q) rfl
              have y2 := ZZ.at 2 (by show 2 < 4; omega) (v := .int .i64 (0)) rfl
              have y3 := ZZ.at 3 (by show 3 < 4; omega) (v := .string (z.extract 0 (z.size - 4))) rfl
              clear M5 P5 Z5 ZZ
              go_wp2_with fail
              go_region
              go_wp2_with fail
              refine bodyPost_ret (v := .tuple #[.agg #[.bool true, .int .i64 q, .int .i64 (0), .string (z.extract 0 (z.size - 4))], .string ⟨#[]⟩, .int .i64 0]) (by simp [results, Try.results21, go_sem, y0, y1, y2, y3]) rfl ⟨rfl, RR.out⟩
            · rw [jnD_none hl' hg hk]
              clear hg hk
              go_enter Try.func21, Try.ntmps21
              go_wp2_with fail
              refine (K1.out _).mono ?_; rintro e w1 ⟨rfl, gr⟩
              have R1 := Lib.hid (HR.out.trans gr)
              have M1 := HM.out.bl gr; have P1 := HP.out.bl gr; have Z1 := HZ.out.bl gr; clear gr
              have b10 := M1.at 0 (by show 0 < 4; omega) (v := .bool o) rfl
              have b11 := M1.at 1 (by show 1 < 4; omega) (v := .int .i64 n) rfl
              have b12 := M1.at 2 (by show 2 < 4; omega) (v := .int .i64 x) rfl
              have b13 := M1.at 3 (by show 3 < 4; omega) (v := .string d) rfl
              have r10 := P1.at 0 (by show 0 < 4; omega) (v := .bool true) rfl
              have r11 := P1.at 1 (by show 1 < 4; omega) (v := .int .i64 q) rfl
              have r12 := P1.at 2 (by show 2 < 4; omega) (v := .int .i64 c) rfl
              have r13 := P1.at 3 (by show 3 < 4; omega) (v := .string z) rfl
              have z10 := Z1.at 0 (by show 0 < 4; omega) (v := .bool false) rfl
              have z1f0 := Z1.fr 0 (by show 0 < 4; omega)
              have z11 := Z1.at 1 (by show 1 < 4; omega) (v := .int .i64 0) rfl
              have z1f1 := Z1.fr 1 (by show 1 < 4; omega)
              have z12 := Z1.at 2 (by show 2 < 4; omega) (v := .int .i64 0) rfl
              have z1f2 := Z1.fr 2 (by show 2 < 4; omega)
              have z13 := Z1.at 3 (by show 3 < 4; omega) (v := .string ⟨#[]⟩) rfl
              have z1f3 := Z1.fr 3 (by show 3 < 4; omega)
              have HM := Lib.hid M1; have HP := Lib.hid P1; have HZ := Lib.hid Z1; have HR := R1; clear M1 P1 Z1 R1
              go_wp2_with fail
              refine (K2.out _).mono ?_; rintro e w2 ⟨rfl, gr⟩
              have R2 := Lib.hid (HR.out.trans gr)
              have M2 := HM.out.bl gr; have P2 := HP.out.bl gr; have Z2 := HZ.out.bl gr; clear gr
              have b20 := M2.at 0 (by show 0 < 4; omega) (v := .bool o) rfl
              have b21 := M2.at 1 (by show 1 < 4; omega) (v := .int .i64 n) rfl
              have b22 := M2.at 2 (by show 2 < 4; omega) (v := .int .i64 x) rfl
              have b23 := M2.at 3 (by show 3 < 4; omega) (v := .string d) rfl
              have r20 := P2.at 0 (by show 0 < 4; omega) (v := .bool true) rfl
              have r21 := P2.at 1 (by show 1 < 4; omega) (v := .int .i64 q) rfl
              have r22 := P2.at 2 (by show 2 < 4; omega) (v := .int .i64 c) rfl
              have r23 := P2.at 3 (by show 3 < 4; omega) (v := .string z) rfl
              have z20 := Z2.at 0 (by show 0 < 4; omega) (v := .bool false) rfl
              have z2f0 := Z2.fr 0 (by show 0 < 4; omega)
              have z21 := Z2.at 1 (by show 1 < 4; omega) (v := .int .i64 0) rfl
              have z2f1 := Z2.fr 1 (by show 1 < 4; omega)
              have z22 := Z2.at 2 (by show 2 < 4; omega) (v := .int .i64 0) rfl
              have z2f2 := Z2.fr 2 (by show 2 < 4; omega)
              have z23 := Z2.at 3 (by show 3 < 4; omega) (v := .string ⟨#[]⟩) rfl
              have z2f3 := Z2.fr 3 (by show 3 < 4; omega)
              have HM := Lib.hid M2; have HP := Lib.hid P2; have HZ := Lib.hid Z2; have HR := R2
              clear M2 P2 Z2 R2
              go_wp2_with fail
              refine (KG.out _).mono ?_; rintro e w4 ⟨rfl, gr⟩
              have R4 := Lib.hid (HR.out.trans gr)
              have M4 := HM.out.bl gr; have P4 := HP.out.bl gr; have Z4 := HZ.out.bl gr; clear gr
              have b40 := M4.at 0 (by show 0 < 4; omega) (v := .bool o) rfl
              have b41 := M4.at 1 (by show 1 < 4; omega) (v := .int .i64 n) rfl
              have b42 := M4.at 2 (by show 2 < 4; omega) (v := .int .i64 x) rfl
              have b43 := M4.at 3 (by show 3 < 4; omega) (v := .string d) rfl
              have r40 := P4.at 0 (by show 0 < 4; omega) (v := .bool true) rfl
              have r41 := P4.at 1 (by show 1 < 4; omega) (v := .int .i64 q) rfl
              have r42 := P4.at 2 (by show 2 < 4; omega) (v := .int .i64 c) rfl
              have r43 := P4.at 3 (by show 3 < 4; omega) (v := .string z) rfl
              have z40 := Z4.at 0 (by show 0 < 4; omega) (v := .bool false) rfl
              have z4f0 := Z4.fr 0 (by show 0 < 4; omega)
              have z41 := Z4.at 1 (by show 1 < 4; omega) (v := .int .i64 0) rfl
              have z4f1 := Z4.fr 1 (by show 1 < 4; omega)
              have z42 := Z4.at 2 (by show 2 < 4; omega) (v := .int .i64 0) rfl
              have z4f2 := Z4.fr 2 (by show 2 < 4; omega)
              have z43 := Z4.at 3 (by show 3 < 4; omega) (v := .string ⟨#[]⟩) rfl
              have z4f3 := Z4.fr 3 (by show 3 < 4; omega)
              have HM := Lib.hid M4; have HP := Lib.hid P4; have HZ := Lib.hid Z4; have HR := R4; clear M4 P4 Z4 R4
              go_wp2_with fail
              refine (KM.out _).mono ?_; rintro e w5 ⟨rfl, gr⟩
              have R5 := Lib.hid (HR.out.trans gr)
              have M5 := HM.out.bl gr; have P5 := HP.out.bl gr; have Z5 := HZ.out.bl gr; clear gr
              have b50 := M5.at 0 (by show 0 < 4; omega) (v := .bool o) rfl
              have b51 := M5.at 1 (by show 1 < 4; omega) (v := .int .i64 n) rfl
              have b52 := M5.at 2 (by show 2 < 4; omega) (v := .int .i64 x) rfl
              have b53 := M5.at 3 (by show 3 < 4; omega) (v := .string d) rfl
              have r50 := P5.at 0 (by show 0 < 4; omega) (v := .bool true) rfl
              have r51 := P5.at 1 (by show 1 < 4; omega) (v := .int .i64 q) rfl
              have r52 := P5.at 2 (by show 2 < 4; omega) (v := .int .i64 c) rfl
              have r53 := P5.at 3 (by show 3 < 4; omega) (v := .string z) rfl
              have z50 := Z5.at 0 (by show 0 < 4; omega) (v := .bool false) rfl
              have z5f0 := Z5.fr 0 (by show 0 < 4; omega)
              have z51 := Z5.at 1 (by show 1 < 4; omega) (v := .int .i64 0) rfl
              have z5f1 := Z5.fr 1 (by show 1 < 4; omega)
              have z52 := Z5.at 2 (by show 2 < 4; omega) (v := .int .i64 0) rfl
              have z5f2 := Z5.fr 2 (by show 2 < 4; omega)
              have z53 := Z5.at 3 (by show 3 < 4; omega) (v := .string ⟨#[]⟩) rfl
              have z5f3 := Z5.fr 3 (by show 3 < 4; omega)
              have ZZ := Z5.four (false) (0) (0) (⟨#[]⟩)
              have y0 := ZZ.at 0 (by show 0 < 4; omega) (v := .bool false) rfl
              have y1 := ZZ.at 1 (by show 1 < 4; omega) (v := .int .i64 0) rfl
              have y2 := ZZ.at 2 (by show 2 < 4; omega) (v := .int .i64 0) rfl
              have y3 := ZZ.at 3 (by show 3 < 4; omega) (v := .string ⟨#[]⟩) rfl
              have hb : w.heap.size ≤ w.heap.size + 1 + 1 := by omega
              have RR := Lib.hid (R5.out.four hb (.bool false) (.int .i64 0) (.int .i64 0) (.string ⟨#[]⟩))
              clear ZZ
              clear M5 P5 Z5
              go_wp2_with fail
              refine bodyPost_ret (v := .tuple #[.agg #[.bool false, .int .i64 0, .int .i64 0, .string ⟨#[]⟩], .string ⟨#[]⟩, .int .i64 0]) (by simp [results, Try.results21, go_sem, y0, y1, y2, y3]) rfl ⟨rfl, RR.out⟩
    · have K2 := Lib.hid (fun w => rightPiece_v h2 (by dsimp only; omega) w)
      rw [jn_noP h1 h2]
      clear h1 h2
      unfold Ms.v Pc.v at *
      dsimp only at *
      go_enter Try.func21, Try.ntmps21
      go_wp2_with fail
      refine (K1.out _).mono ?_; rintro e w1 ⟨rfl, gr⟩
      have R1 := Lib.hid (HR.out.trans gr)
      have M1 := HM.out.bl gr; have P1 := HP.out.bl gr; have Z1 := HZ.out.bl gr; clear gr
      have b10 := M1.at 0 (by show 0 < 4; omega) (v := .bool o) rfl
      have b11 := M1.at 1 (by show 1 < 4; omega) (v := .int .i64 n) rfl
      have b12 := M1.at 2 (by show 2 < 4; omega) (v := .int .i64 x) rfl
      have b13 := M1.at 3 (by show 3 < 4; omega) (v := .string d) rfl
      have r10 := P1.at 0 (by show 0 < 4; omega) (v := .bool s0) rfl
      have r11 := P1.at 1 (by show 1 < 4; omega) (v := .int .i64 q) rfl
      have r12 := P1.at 2 (by show 2 < 4; omega) (v := .int .i64 c) rfl
      have r13 := P1.at 3 (by show 3 < 4; omega) (v := .string z) rfl
      have z10 := Z1.at 0 (by show 0 < 4; omega) (v := .bool false) rfl
      have z1f0 := Z1.fr 0 (by show 0 < 4; omega)
      have z11 := Z1.at 1 (by show 1 < 4; omega) (v := .int .i64 0) rfl
      have z1f1 := Z1.fr 1 (by show 1 < 4; omega)
      have z12 := Z1.at 2 (by show 2 < 4; omega) (v := .int .i64 0) rfl
      have z1f2 := Z1.fr 2 (by show 2 < 4; omega)
      have z13 := Z1.at 3 (by show 3 < 4; omega) (v := .string ⟨#[]⟩) rfl
      have z1f3 := Z1.fr 3 (by show 3 < 4; omega)
      have HM := Lib.hid M1; have HP := Lib.hid P1; have HZ := Lib.hid Z1; have HR := R1; clear M1 P1 Z1 R1
      go_wp2_with fail
      refine (K2.out _).mono ?_; rintro e w2 ⟨rfl, gr⟩
      have R2 := Lib.hid (HR.out.trans gr)
      have M2 := HM.out.bl gr; have P2 := HP.out.bl gr; have Z2 := HZ.out.bl gr; clear gr
      have b20 := M2.at 0 (by show 0 < 4; omega) (v := .bool o) rfl
      have b21 := M2.at 1 (by show 1 < 4; omega) (v := .int .i64 n) rfl
      have b22 := M2.at 2 (by show 2 < 4; omega) (v := .int .i64 x) rfl
      have b23 := M2.at 3 (by show 3 < 4; omega) (v := .string d) rfl
      have r20 := P2.at 0 (by show 0 < 4; omega) (v := .bool s0) rfl
      have r21 := P2.at 1 (by show 1 < 4; omega) (v := .int .i64 q) rfl
      have r22 := P2.at 2 (by show 2 < 4; omega) (v := .int .i64 c) rfl
      have r23 := P2.at 3 (by show 3 < 4; omega) (v := .string z) rfl
      have z20 := Z2.at 0 (by show 0 < 4; omega) (v := .bool false) rfl
      have z2f0 := Z2.fr 0 (by show 0 < 4; omega)
      have z21 := Z2.at 1 (by show 1 < 4; omega) (v := .int .i64 0) rfl
      have z2f1 := Z2.fr 1 (by show 1 < 4; omega)
      have z22 := Z2.at 2 (by show 2 < 4; omega) (v := .int .i64 0) rfl
      have z2f2 := Z2.fr 2 (by show 2 < 4; omega)
      have z23 := Z2.at 3 (by show 3 < 4; omega) (v := .string ⟨#[]⟩) rfl
      have z2f3 := Z2.fr 3 (by show 3 < 4; omega)
      have ZZ := Z2.four (false) (0) (0) (⟨#[]⟩)
      have y0 := ZZ.at 0 (by show 0 < 4; omega) (v := .bool false) rfl
      have y1 := ZZ.at 1 (by show 1 < 4; omega) (v := .int .i64 0) rfl
      have y2 := ZZ.at 2 (by show 2 < 4; omega) (v := .int .i64 0) rfl
      have y3 := ZZ.at 3 (by show 3 < 4; omega) (v := .string ⟨#[]⟩) rfl
      have hb : w.heap.size ≤ w.heap.size + 1 + 1 := by omega
      have RR := Lib.hid (R2.out.four hb (.bool false) (.int .i64 0) (.int .i64 0) (.string ⟨#[]⟩))
      clear ZZ
      clear M2 P2 Z2
      go_wp2_with fail
      refine bodyPost_ret (v := .tuple #[.agg #[.bool false, .int .i64 0, .int .i64 0, .string ⟨#[]⟩], .string ⟨#[]⟩, .int .i64 181]) (by simp [results, Try.results21, go_sem, y0, y1, y2, y3]) rfl ⟨rfl, RR.out⟩
  · have K1 := Lib.hid (fun w => right_v h1 (by dsimp only; omega) w)
    rw [jn_noM h1]
    clear h1
    unfold Ms.v Pc.v at *
    dsimp only at *
    go_enter Try.func21, Try.ntmps21
    go_wp2_with fail
    refine (K1.out _).mono ?_; rintro e w1 ⟨rfl, gr⟩
    have R1 := Lib.hid (HR.out.trans gr)
    have M1 := HM.out.bl gr; have P1 := HP.out.bl gr; have Z1 := HZ.out.bl gr; clear gr
    have b10 := M1.at 0 (by show 0 < 4; omega) (v := .bool o) rfl
    have b11 := M1.at 1 (by show 1 < 4; omega) (v := .int .i64 n) rfl
    have b12 := M1.at 2 (by show 2 < 4; omega) (v := .int .i64 x) rfl
    have b13 := M1.at 3 (by show 3 < 4; omega) (v := .string d) rfl
    have r10 := P1.at 0 (by show 0 < 4; omega) (v := .bool s0) rfl
    have r11 := P1.at 1 (by show 1 < 4; omega) (v := .int .i64 q) rfl
    have r12 := P1.at 2 (by show 2 < 4; omega) (v := .int .i64 c) rfl
    have r13 := P1.at 3 (by show 3 < 4; omega) (v := .string z) rfl
    have z10 := Z1.at 0 (by show 0 < 4; omega) (v := .bool false) rfl
    have z1f0 := Z1.fr 0 (by show 0 < 4; omega)
    have z11 := Z1.at 1 (by show 1 < 4; omega) (v := .int .i64 0) rfl
    have z1f1 := Z1.fr 1 (by show 1 < 4; omega)
    have z12 := Z1.at 2 (by show 2 < 4; omega) (v := .int .i64 0) rfl
    have z1f2 := Z1.fr 2 (by show 2 < 4; omega)
    have z13 := Z1.at 3 (by show 3 < 4; omega) (v := .string ⟨#[]⟩) rfl
    have z1f3 := Z1.fr 3 (by show 3 < 4; omega)
    have ZZ := Z1.four (false) (0) (0) (⟨#[]⟩)
    have y0 := ZZ.at 0 (by show 0 < 4; omega) (v := .bool false) rfl
    have y1 := ZZ.at 1 (by show 1 < 4; omega) (v := .int .i64 0) rfl
    have y2 := ZZ.at 2 (by show 2 < 4; omega) (v := .int .i64 0) rfl
    have y3 := ZZ.at 3 (by show 3 < 4; omega) (v := .string ⟨#[]⟩) rfl
    have hb : w.heap.size ≤ w.heap.size + 1 + 1 := by omega
    have RR := Lib.hid (R1.out.four hb (.bool false) (.int .i64 0) (.int .i64 0) (.string ⟨#[]⟩))
    clear ZZ
    clear M1 P1 Z1
    go_wp2_with fail
    refine bodyPost_ret (v := .tuple #[.agg #[.bool false, .int .i64 0, .int .i64 0, .string ⟨#[]⟩], .string ⟨#[]⟩, .int .i64 182]) (by simp [results, Try.results21, go_sem, y0, y1, y2, y3]) rfl ⟨rfl, RR.out⟩

end Go.Proofs.Ytnapelocjcoofaa
