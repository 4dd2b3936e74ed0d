/-
  What Join of package merge returns.
-/
import Derived.Test.YtnapelocjcoofaaEe
namespace Go.Proofs.Ytnapelocjcoofaa
open Go.RowKit Go.Proofs.Ytnapelocjcoofaa.Cr

/-- What Join gives: the next state, the frame, the code. -/
def jnA (m : Ms) (p : Pc) : (Ms × ByteArray) × Int := if okM m = true then (if okP p = true then (jnR m p, 0) else ((zM, ⟨#[]⟩), 181)) else ((zM, ⟨#[]⟩), 182)
def jnV (m : Ms) (p : Pc) : Value := .tuple #[(jnA m p).1.1.v, .string (jnA m p).1.2, .int .i64 (jnA m p).2]
theorem jn_start {m : Ms} {p : Pc} (hp : okP p = true) (h : p.start = true) : jnR m p = tkR ⟨true, p.num, 0, ⟨#[]⟩⟩ p.data := by
  rw [tk_jnD (okP_iff.1 hp).2.2.2.1]
  unfold jnR
  rw [if_pos h]
theorem jn_cont {m : Ms} {p : Pc} (hp : okP p = true) (h : p.start = false) : jnR m p = prR m p := by
  unfold jnR prR
  rw [if_neg (by simp [h])]
  have h4 := (okP_iff.1 hp).2.2.2.1
  split
  · rename_i hc
    obtain ⟨o, n, x, d⟩ := m
    obtain ⟨rfl, rfl, rfl⟩ : o = true ∧ n = p.num ∧ x = p.cnt := hc
    exact (tk_jnD (by rw [ByteArray.size_append]; omega)).symm
  · rfl
theorem jn_noM {m : Ms} {p : Pc} (h : okM m = false) : jnA m p = ((zM, ⟨#[]⟩), 182) := by unfold jnA; rw [if_neg (by simp [h])]
theorem jn_noP {m : Ms} {p : Pc} (h : okM m = true) (h2 : okP p = false) : jnA m p = ((zM, ⟨#[]⟩), 181) := by unfold jnA; rw [if_pos h, if_neg (by simp [h2])]
theorem jn_yes {m : Ms} {p : Pc} (h : okM m = true) (h2 : okP p = true) : jnA m p = (jnR m p, 0) := by unfold jnA; rw [if_pos h, if_pos h2]
theorem check_v {m : Ms} {c : Int} (h : cmE m = c) (hs : (m.data.size : Int) ≤ 8000) (w : World) :
    Calls Try.prog 22 #[m.v] w fun e w' => e = .returned (.int .i64 c) ∧ Bl w w' := by subst h; exact check_any m hs w
theorem checkPiece_v {p : Pc} {c : Int} (h : cpE p = c) (hs : (p.data.size : Int) ≤ 8000) (w : World) :
    Calls Try.prog 24 #[p.v] w fun e w' => e = .returned (.int .i64 c) ∧ Bl w w' := by subst h; exact checkPiece_any p hs w

set_option maxHeartbeats 2000000 in
theorem join_any (m : Ms) (p : Pc) (hm : (m.data.size : Int) ≤ 4000) (hs : (p.data.size : Int) ≤ 4000) (w : World) :
    Calls Try.prog 20 #[m.v, p.v] w fun e w' => e = .returned (jnV m p) ∧ Bl w w' := by
  have HR := Lib.hid (show Bl w (((w.alloc (.cells #[.bool m.on, .int .i64 m.num, .int .i64 m.next, .string m.data] 43)).alloc (.cells #[.bool p.start, .int .i64 p.num, .int .i64 p.cnt, .string p.data] 45)).alloc (.cells #[.bool false, .int .i64 0, .int .i64 0, .string ⟨#[]⟩] 43)) from (((Bl.refl w).alloc _).alloc _).alloc _)
  have BM := ((Ms.boxed w m 43).alloc (.cells #[.bool p.start, .int .i64 p.num, .int .i64 p.cnt, .string p.data] 45)).alloc (.cells #[.bool false, .int .i64 0, .int .i64 0, .string ⟨#[]⟩] 43)
  have BP := (Pc.boxed (w.alloc (.cells #[.bool m.on, .int .i64 m.num, .int .i64 m.next, .string m.data] 43)) p 45).alloc (.cells #[.bool false, .int .i64 0, .int .i64 0, .string ⟨#[]⟩] 43)
  have BZ := Ms.boxed ((w.alloc (.cells #[.bool m.on, .int .i64 m.num, .int .i64 m.next, .string m.data] 43)).alloc (.cells #[.bool p.start, .int .i64 p.num, .int .i64 p.cnt, .string p.data] 45)) zM 43
  rw [World.size_alloc] at BP
  rw [World.size_alloc, World.size_alloc] at BZ
  unfold jnV
  have HM := Lib.hid BM; have HP := Lib.hid BP; have HZ := Lib.hid BZ
  have a0 := BM.at 0 (by show 0 < 4; omega) (v := .bool m.on) rfl
  have a1 := BM.at 1 (by show 1 < 4; omega) (v := .int .i64 m.num) rfl
  have a2 := BM.at 2 (by show 2 < 4; omega) (v := .int .i64 m.next) rfl
  have a3 := BM.at 3 (by show 3 < 4; omega) (v := .string m.data) rfl
  have q0 := BP.at 0 (by show 0 < 4; omega) (v := .bool p.start) rfl
  have q1 := BP.at 1 (by show 1 < 4; omega) (v := .int .i64 p.num) rfl
  have q2 := BP.at 2 (by show 2 < 4; omega) (v := .int .i64 p.cnt) rfl
  have q3 := BP.at 3 (by show 3 < 4; omega) (v := .string p.data) rfl
  clear BM BP BZ
  rcases two_bool (okM m) with h1 | h1
  · have K1 := Lib.hid (fun w => check_v (show cmE m = 0 by unfold cmE; rw [if_pos h1]) (by omega) w)
    rcases two_bool (okP p) with h2 | h2
    · have K2 := Lib.hid (fun w => checkPiece_v (show cpE p = 0 by unfold cpE; rw [if_pos h2]) (by omega) w)
      rw [jn_yes h1 h2]
      obtain ⟨s0, q, c, z⟩ := p
      cases s0
      · rw [jn_cont h2 rfl]
        have hx : 0 ≤ m.next ∧ m.next ≤ 3 := by
          cases ho : m.on
          · rw [(okM_off ho).1 h1]; decide
          · exact ((okM_on ho).1 h1).2.1
        have KB := Lib.hid (fun u w' b hB hU hb => proceed_any m ⟨false, q, c, z⟩ hs hm hx u w' b hB hU hb)
        generalize prR m ⟨false, q, c, z⟩ = RR at *
        obtain ⟨⟨o', n', x', d'⟩, s'⟩ := RR
        clear h1 h2 hx
        unfold Ms.v Pc.v at *
        dsimp only at *
        go_enter Try.func20, Try.ntmps20
        go_wp2_with fail
        refine (K1.out _).mono ?_; rintro e w1 ⟨rfl, gr⟩
        have R1 := Lib.hid (HR.out.trans gr)
        have M1 := HM.out.bl gr; have P1 := HP.out.bl gr; have Z1 := HZ.out.bl gr; clear gr
        have b0 := M1.at 0 (by show 0 < 4; omega) (v := .bool m.on) rfl
        have b1 := M1.at 1 (by show 1 < 4; omega) (v := .int .i64 m.num) rfl
        have b2 := M1.at 2 (by show 2 < 4; omega) (v := .int .i64 m.next) rfl
        have b3 := M1.at 3 (by show 3 < 4; omega) (v := .string m.data) rfl
        have r0 := P1.at 0 (by show 0 < 4; omega) (v := .bool false) rfl
        have r1 := P1.at 1 (by show 1 < 4; omega) (v := .int .i64 q) rfl
        have r2 := P1.at 2 (by show 2 < 4; omega) (v := .int .i64 c) rfl
        have r3 := P1.at 3 (by show 3 < 4; omega) (v := .string z) rfl
        have HM := Lib.hid M1; have HP := Lib.hid P1; have HZ := Lib.hid Z1; have HR := R1; clear M1 P1 Z1 R1
        go_wp2_with fail
        refine (K2.out _).mono ?_; rintro e w2 ⟨rfl, gr⟩
        have R2 := Lib.hid (HR.out.trans gr)
        have M2 := HM.out.bl gr; have P2 := HP.out.bl gr; have Z2 := HZ.out.bl gr; clear gr
        have P3 := P2.alloc (.cells #[.bool m.on, .int .i64 m.num, .int .i64 m.next, .string m.data] 80); have B3 := Lib.hid (Ms.boxed w2 m 80); have Z2' := Lib.hid Z2
        have e0 := P3.at 0 (by show 0 < 4; omega) (v := .bool false) rfl
        have e1 := P3.at 1 (by show 1 < 4; omega) (v := .int .i64 q) rfl
        have e2 := P3.at 2 (by show 2 < 4; omega) (v := .int .i64 c) rfl
        have e3 := P3.at 3 (by show 3 < 4; omega) (v := .string z) rfl
        have m0 := M2.at 0 (by show 0 < 4; omega) (v := .bool m.on) rfl
        have m1 := M2.at 1 (by show 1 < 4; omega) (v := .int .i64 m.num) rfl
        have m2 := M2.at 2 (by show 2 < 4; omega) (v := .int .i64 m.next) rfl
        have m3 := M2.at 3 (by show 3 < 4; omega) (v := .string m.data) rfl
        have HB := Lib.hid (KB.out w2 _ _ B3.out ((Bl.refl w2).alloc _) (Nat.le_refl _))
        clear P2 M2 Z2 P3
        go_wp2_with fail
        refine HB.out.mono ?_; rintro e w4 ⟨rfl, r4, b4⟩
        have Z4 := Z2'.out.bl r4
        have R4 := Lib.hid (R2.out.trans r4)
        have ZZ := Z4.four o' n' x' d'
        have hb : w.heap.size ≤ w.heap.size + 1 + 1 := by omega
        have RR := Lib.hid (R4.out.four hb (.bool o') (.int .i64 n') (.int .i64 x') (.string d'))
        have h0 := b4.at 0 (by show 0 < 4; omega) (v := .bool o') rfl
        have h1 := b4.at 1 (by show 1 < 4; omega) (v := .int .i64 n') rfl
        have h2 := b4.at 2 (by show 2 < 4; omega) (v := .int .i64 x') rfl
        have h3 := b4.at 3 (by show 3 < 4; omega) (v := .string d') rfl
        have z0 := Z4.at 0 (by show 0 < 4; omega) (v := .bool false) rfl
        have zf0 := Z4.fr 0 (by show 0 < 4; omega)
        have z1 := Z4.at 1 (by show 1 < 4; omega) (v := .int .i64 0) rfl
        have zf1 := Z4.fr 1 (by show 1 < 4; omega)
        have z2 := Z4.at 2 (by show 2 < 4; omega) (v := .int .i64 0) rfl
        have zf2 := Z4.fr 2 (by show 2 < 4; omega)
        have z3 := Z4.at 3 (by show 3 < 4; omega) (v := .string ⟨#[]⟩) rfl
        have zf3 := Z4.fr 3 (by show 3 < 4; omega)
        have y0 := ZZ.at 0 (by show 0 < 4; omega) (v := .bool o') rfl
        have y1 := ZZ.at 1 (by show 1 < 4; omega) (v := .int .i64 n') rfl
        have y2 := ZZ.at 2 (by show 2 < 4; omega) (v := .int .i64 x') rfl
        have y3 := ZZ.at 3 (by show 3 < 4; omega) (v := .string d') rfl
        clear b4 Z4 ZZ r4
        go_wp2_with fail
        refine bodyPost_ret (v := .tuple #[.agg #[.bool o', .int .i64 n', .int .i64 x', .string d'], .string s', .int .i64 0]) (by simp [results, Try.results20, go_sem, y0, y1, y2, y3]) rfl ⟨rfl, RR.out⟩
      · rw [jn_start h2 rfl]
        have KB := Lib.hid (fun u w' b hB hU hb => begin_any m ⟨true, q, c, z⟩ hs u w' b hB hU hb)
        dsimp only at KB
        generalize tkR ⟨true, q, 0, ⟨#[]⟩⟩ z = RR at *
        obtain ⟨⟨o', n', x', d'⟩, s'⟩ := RR
        clear h1 h2
        unfold Ms.v Pc.v at *
        dsimp only at *
        go_enter Try.func20, Try.ntmps20
        go_wp2_with fail
        refine (K1.out _).mono ?_; rintro e w1 ⟨rfl, gr⟩
        have R1 := Lib.hid (HR.out.trans gr)
        have M1 := HM.out.bl gr; have P1 := HP.out.bl gr; have Z1 := HZ.out.bl gr; clear gr
        have b0 := M1.at 0 (by show 0 < 4; omega) (v := .bool m.on) rfl
        have b1 := M1.at 1 (by show 1 < 4; omega) (v := .int .i64 m.num) rfl
        have b2 := M1.at 2 (by show 2 < 4; omega) (v := .int .i64 m.next) rfl
        have b3 := M1.at 3 (by show 3 < 4; omega) (v := .string m.data) rfl
        have r0 := P1.at 0 (by show 0 < 4; omega) (v := .bool true) rfl
        have r1 := P1.at 1 (by show 1 < 4; omega) (v := .int .i64 q) rfl
        have r2 := P1.at 2 (by show 2 < 4; omega) (v := .int .i64 c) rfl
        have r3 := P1.at 3 (by show 3 < 4; omega) (v := .string z) rfl
        have HM := Lib.hid M1; have HP := Lib.hid P1; have HZ := Lib.hid Z1; have HR := R1; clear M1 P1 Z1 R1
        go_wp2_with fail
        refine (K2.out _).mono ?_; rintro e w2 ⟨rfl, gr⟩
        have R2 := Lib.hid (HR.out.trans gr)
        have M2 := HM.out.bl gr; have P2 := HP.out.bl gr; have Z2 := HZ.out.bl gr; clear gr
        have P3 := P2.alloc (.cells #[.bool m.on, .int .i64 m.num, .int .i64 m.next, .string m.data] 80); have B3 := Lib.hid (Ms.boxed w2 m 80); have Z2' := Lib.hid Z2
        have e0 := P3.at 0 (by show 0 < 4; omega) (v := .bool true) rfl
        have e1 := P3.at 1 (by show 1 < 4; omega) (v := .int .i64 q) rfl
        have e2 := P3.at 2 (by show 2 < 4; omega) (v := .int .i64 c) rfl
        have e3 := P3.at 3 (by show 3 < 4; omega) (v := .string z) rfl
        have m0 := M2.at 0 (by show 0 < 4; omega) (v := .bool m.on) rfl
        have m1 := M2.at 1 (by show 1 < 4; omega) (v := .int .i64 m.num) rfl
        have m2 := M2.at 2 (by show 2 < 4; omega) (v := .int .i64 m.next) rfl
        have m3 := M2.at 3 (by show 3 < 4; omega) (v := .string m.data) rfl
        have HB := Lib.hid (KB.out w2 _ _ B3.out ((Bl.refl w2).alloc _) (Nat.le_refl _))
        clear P2 M2 Z2 P3
        go_wp2_with fail
        refine HB.out.mono ?_; rintro e w4 ⟨rfl, r4, b4⟩
        have Z4 := Z2'.out.bl r4
        have R4 := Lib.hid (R2.out.trans r4)
        have ZZ := Z4.four o' n' x' d'
        have hb : w.heap.size ≤ w.heap.size + 1 + 1 := by omega
        have RR := Lib.hid (R4.out.four hb (.bool o') (.int .i64 n') (.int .i64 x') (.string d'))
        have h0 := b4.at 0 (by show 0 < 4; omega) (v := .bool o') rfl
        have h1 := b4.at 1 (by show 1 < 4; omega) (v := .int .i64 n') rfl
        have h2 := b4.at 2 (by show 2 < 4; omega) (v := .int .i64 x') rfl
        have h3 := b4.at 3 (by show 3 < 4; omega) (v := .string d') rfl
        have z0 := Z4.at 0 (by show 0 < 4; omega) (v := .bool false) rfl
        have zf0 := Z4.fr 0 (by show 0 < 4; omega)
        have z1 := Z4.at 1 (by show 1 < 4; omega) (v := .int .i64 0) rfl
        have zf1 := Z4.fr 1 (by show 1 < 4; omega)
        have z2 := Z4.at 2 (by show 2 < 4; omega) (v := .int .i64 0) rfl
        have zf2 := Z4.fr 2 (by show 2 < 4; omega)
        have z3 := Z4.at 3 (by show 3 < 4; omega) (v := .string ⟨#[]⟩) rfl
        have zf3 := Z4.fr 3 (by show 3 < 4; omega)
        have y0 := ZZ.at 0 (by show 0 < 4; omega) (v := .bool o') rfl
        have y1 := ZZ.at 1 (by show 1 < 4; omega) (v := .int .i64 n') rfl
        have y2 := ZZ.at 2 (by show 2 < 4; omega) (v := .int .i64 x') rfl
        have y3 := ZZ.at 3 (by show 3 < 4; omega) (v := .string d') rfl
        clear b4 Z4 ZZ r4
        go_wp2_with fail
        refine bodyPost_ret (v := .tuple #[.agg #[.bool o', .int .i64 n', .int .i64 x', .string d'], .string s', .int .i64 0]) (by simp [results, Try.results20, go_sem, y0, y1, y2, y3]) rfl ⟨rfl, RR.out⟩
    · have K2 := Lib.hid (fun w => checkPiece_v (show cpE p = 181 by unfold cpE; rw [if_neg (by simp [h2])]) (by omega) w)
      rw [jn_noP h1 h2]
      clear h1 h2
      unfold Ms.v Pc.v at *
      go_enter Try.func20, Try.ntmps20
      go_wp2_with fail
      refine (K1.out _).mono ?_; rintro e w1 ⟨rfl, gr⟩
      have R1 := Lib.hid (HR.out.trans gr)
      have M1 := HM.out.bl gr; have P1 := HP.out.bl gr; have Z1 := HZ.out.bl gr; clear gr
      have b0 := M1.at 0 (by show 0 < 4; omega) (v := .bool m.on) rfl
      have b1 := M1.at 1 (by show 1 < 4; omega) (v := .int .i64 m.num) rfl
      have b2 := M1.at 2 (by show 2 < 4; omega) (v := .int .i64 m.next) rfl
      have b3 := M1.at 3 (by show 3 < 4; omega) (v := .string m.data) rfl
      have r0 := P1.at 0 (by show 0 < 4; omega) (v := .bool p.start) rfl
      have r1 := P1.at 1 (by show 1 < 4; omega) (v := .int .i64 p.num) rfl
      have r2 := P1.at 2 (by show 2 < 4; omega) (v := .int .i64 p.cnt) rfl
      have r3 := P1.at 3 (by show 3 < 4; omega) (v := .string p.data) rfl
      have HM := Lib.hid M1; have HP := Lib.hid P1; have HZ := Lib.hid Z1; have HR := R1; clear M1 P1 Z1 R1
      go_wp2_with fail
      refine (K2.out _).mono ?_; rintro e w2 ⟨rfl, gr⟩
      have R2 := Lib.hid (HR.out.trans gr)
      have M2 := HM.out.bl gr; have P2 := HP.out.bl gr; have Z2 := HZ.out.bl gr; clear gr
      have z0 := Z2.at 0 (by show 0 < 4; omega) (v := .bool false) rfl
      have zf0 := Z2.fr 0 (by show 0 < 4; omega)
      have z1 := Z2.at 1 (by show 1 < 4; omega) (v := .int .i64 0) rfl
      have zf1 := Z2.fr 1 (by show 1 < 4; omega)
      have z2 := Z2.at 2 (by show 2 < 4; omega) (v := .int .i64 0) rfl
      have zf2 := Z2.fr 2 (by show 2 < 4; omega)
      have z3 := Z2.at 3 (by show 3 < 4; omega) (v := .string ⟨#[]⟩) rfl
      have zf3 := Z2.fr 3 (by show 3 < 4; omega)
      have ZZ := Z2.zero4
      have y0 := ZZ.at 0 (by show 0 < 4; omega) (v := .bool false) rfl
      have y1 := ZZ.at 1 (by show 1 < 4; omega) (v := .int .i64 0) rfl
      have y2 := ZZ.at 2 (by show 2 < 4; omega) (v := .int .i64 0) rfl
      have y3 := ZZ.at 3 (by show 3 < 4; omega) (v := .string ⟨#[]⟩) rfl
      have hb : w.heap.size ≤ w.heap.size + 1 + 1 := by omega
      have RR := Lib.hid (R2.out.four hb (.bool false) (.int .i64 0) (.int .i64 0) (.string ⟨#[]⟩))
      clear M2 P2 Z2 ZZ
      go_wp2_with fail
      refine bodyPost_ret (v := .tuple #[.agg #[.bool false, .int .i64 0, .int .i64 0, .string ⟨#[]⟩], .string ⟨#[]⟩, .int .i64 181]) (by simp [results, Try.results20, go_sem, y0, y1, y2, y3]) rfl ⟨rfl, RR.out⟩
  · have K1 := Lib.hid (fun w => check_v (show cmE m = 182 by unfold cmE; rw [if_neg (by simp [h1])]) (by omega) w)
    rw [jn_noM h1]
    clear h1
    unfold Ms.v Pc.v at *
    go_enter Try.func20, Try.ntmps20
    go_wp2_with fail
    refine (K1.out _).mono ?_; rintro e w1 ⟨rfl, gr⟩
    have R1 := Lib.hid (HR.out.trans gr)
    have M1 := HM.out.bl gr; have P1 := HP.out.bl gr; have Z1 := HZ.out.bl gr; clear gr
    have z0 := Z1.at 0 (by show 0 < 4; omega) (v := .bool false) rfl
    have zf0 := Z1.fr 0 (by show 0 < 4; omega)
    have z1 := Z1.at 1 (by show 1 < 4; omega) (v := .int .i64 0) rfl
    have zf1 := Z1.fr 1 (by show 1 < 4; omega)
    have z2 := Z1.at 2 (by show 2 < 4; omega) (v := .int .i64 0) rfl
    have zf2 := Z1.fr 2 (by show 2 < 4; omega)
    have z3 := Z1.at 3 (by show 3 < 4; omega) (v := .string ⟨#[]⟩) rfl
    have zf3 := Z1.fr 3 (by show 3 < 4; omega)
    have ZZ := Z1.zero4
    have y0 := ZZ.at 0 (by show 0 < 4; omega) (v := .bool false) rfl
    have y1 := ZZ.at 1 (by show 1 < 4; omega) (v := .int .i64 0) rfl
    have y2 := ZZ.at 2 (by show 2 < 4; omega) (v := .int .i64 0) rfl
    have y3 := ZZ.at 3 (by show 3 < 4; omega) (v := .string ⟨#[]⟩) rfl
    have hb : w.heap.size ≤ w.heap.size + 1 + 1 := by omega
    have RR := Lib.hid (R1.out.four hb (.bool false) (.int .i64 0) (.int .i64 0) (.string ⟨#[]⟩))
    clear M1 P1 Z1 ZZ
    go_wp2_with fail
    refine bodyPost_ret (v := .tuple #[.agg #[.bool false, .int .i64 0, .int .i64 0, .string ⟨#[]⟩], .string ⟨#[]⟩, .int .i64 182]) (by simp [results, Try.results20, go_sem, y0, y1, y2, y3]) rfl ⟨rfl, RR.out⟩

end Go.Proofs.Ytnapelocjcoofaa
