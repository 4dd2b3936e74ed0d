/-
  What Encode and Wire of package frame return.
-/
import Derived.Test.YtmhdgpmlconngaaFe
namespace Go.Proofs.Ytmhdgpmlconngaa
open Go.RowKit Go.Proofs.Ytmhdgpmlconngaa.Cr

def enS (f : Fr) : ByteArray := if okB f then enc f else noS
def enR (f : Fr) : Ending := .returned (.tuple #[.string (enS f), .int .i64 (chE f)])
def wiV (f : Fr) : Int := if okB f then ((bod f).size : Int) + 24 else 0
def wiR (f : Fr) : Ending := .returned (.tuple #[.int .i64 (wiV f), .int .i64 (chE f)])
theorem enR_no {f : Fr} (h : okB f = false) : Ending.returned (.tuple #[.string ⟨#[]⟩, .int .i64 170]) = enR f := by
  unfold enR enS; rw [chE_f h, h]; rfl
theorem enR_ok {f : Fr} (h : okB f = true) : Ending.returned (.tuple #[.string (enc f), .int .i64 0]) = enR f := by
  unfold enR enS; rw [chE_t h, h]; rfl
theorem wiR_no {f : Fr} (h : okB f = false) : Ending.returned (.tuple #[.int .i64 0, .int .i64 170]) = wiR f := by
  unfold wiR wiV; rw [chE_f h, h]; rfl
theorem wiR_ok {f : Fr} (h : okB f = true) : Ending.returned (.tuple #[.int .i64 (((bod f).size : Int) + 24), .int .i64 0]) = wiR f := by
  unfold wiR wiV; rw [chE_t h, h]; rfl
theorem check_v {f : Fr} {c : Int} (h : chE f = c) (w : World) : Calls Try.prog 15 #[f.v] w fun e w' => e = .returned (.int .i64 c) ∧ Bl w w' := by
  have := check_any f w; rw [h] at this; exact this

set_option maxHeartbeats 1000000 in
theorem encode_any (f : Fr) (w : World) :
    Calls Try.prog 11 #[f.v] w fun e w' => e = enR f ∧ Bl w w' := by
  rcases bcase (okB f) with h | h
  · have KC := Lib.hid (fun w => check_v (chE_t h) w)
    have E := Lib.hid (enR_ok h)
    have hO := ok_iff.1 h
    have KB := Lib.hid (fun w => body_any f hO w)
    have KS := Lib.hid (fun w => seal_any (bod f) (by have := hO.bod_le; omega) w)
    have hE : sealB (bod f) 0 = enc f := rfl
    rw [hE] at KS
    clear h hO hE
    generalize enR f = R at *
    generalize enc f = z at *
    generalize bod f = u at *
    obtain ⟨d, s, t, p, v, r, q, y, x⟩ := f
    unfold Fr.v at *
    go_enter Try.func11, Try.ntmps11
    go_wp2_with fail
    have hc := n9_new w 23 d s p v q y t r x
    have hb : w.heap.size < (w.alloc (.cells #[.int .i64 d, .int .i64 s, .bool t, .int .i64 p, .int .i64 v, .bool r, .int .i64 q, .int .i64 y, .string x] 23)).heap.size := by simp
    have G0 := Lib.hid ((Bl.refl w).alloc (.cells #[.int .i64 d, .int .i64 s, .bool t, .int .i64 p, .int .i64 v, .bool r, .int .i64 q, .int .i64 y, .string x] 23))
    dsimp only at hc
    generalize w.heap.size = b at *
    generalize w.alloc (.cells #[.int .i64 d, .int .i64 s, .bool t, .int .i64 p, .int .i64 v, .bool r, .int .i64 q, .int .i64 y, .string x] 23) = W at *
    have HN := Lib.hid (fun (w' : World) (g : Bl W w') => n9_keep hb hc g)
    clear hc hb
    have GZ := Lib.hid (Bl.refl W)
    obtain ⟨k0, k1, k2, k3, k4, k5, k6, k7, k8, _⟩ := HN.out _ GZ.out
    go_wp2_with fail
    refine (KC.out _).mono ?_; rintro e wn ⟨rfl, hgr⟩
    replace GZ := Lib.hid (Bl.trans GZ.out hgr); clear hgr
    obtain ⟨k0, k1, k2, k3, k4, k5, k6, k7, k8, _⟩ := HN.out _ GZ.out
    go_wp2_with fail
    refine (KB.out _).mono ?_; rintro e wn ⟨rfl, hgr⟩
    replace GZ := Lib.hid (Bl.trans GZ.out hgr); clear hgr
    go_wp2_with fail
    refine (KS.out _).mono ?_; rintro e wn ⟨rfl, hgr⟩
    replace GZ := Lib.hid (Bl.trans GZ.out hgr); clear hgr
    go_wp2_with fail
    go_ret2
    exact ⟨E.out, Bl.trans G0.out GZ.out⟩
  · have KC := Lib.hid (fun w => check_v (chE_f h) w)
    have E := Lib.hid (enR_no h)
    clear h
    generalize enR f = R at *
    obtain ⟨d, s, t, p, v, r, q, y, x⟩ := f
    unfold Fr.v at *
    go_enter Try.func11, Try.ntmps11
    go_wp2_with fail
    have hc := n9_new w 23 d s p v q y t r x
    have hb : w.heap.size < (w.alloc (.cells #[.int .i64 d, .int .i64 s, .bool t, .int .i64 p, .int .i64 v, .bool r, .int .i64 q, .int .i64 y, .string x] 23)).heap.size := by simp
    have G0 := Lib.hid ((Bl.refl w).alloc (.cells #[.int .i64 d, .int .i64 s, .bool t, .int .i64 p, .int .i64 v, .bool r, .int .i64 q, .int .i64 y, .string x] 23))
    dsimp only at hc
    generalize w.heap.size = b at *
    generalize w.alloc (.cells #[.int .i64 d, .int .i64 s, .bool t, .int .i64 p, .int .i64 v, .bool r, .int .i64 q, .int .i64 y, .string x] 23) = W at *
    have HN := Lib.hid (fun (w' : World) (g : Bl W w') => n9_keep hb hc g)
    clear hc hb
    have GZ := Lib.hid (Bl.refl W)
    obtain ⟨k0, k1, k2, k3, k4, k5, k6, k7, k8, _⟩ := HN.out _ GZ.out
    go_wp2_with fail
    refine (KC.out _).mono ?_; rintro e wn ⟨rfl, hgr⟩
    replace GZ := Lib.hid (Bl.trans GZ.out hgr); clear hgr
    go_wp2_with fail
    go_ret2
    exact ⟨E.out, Bl.trans G0.out GZ.out⟩

set_option maxHeartbeats 1000000 in
theorem wire_any (f : Fr) (w : World) :
    Calls Try.prog 13 #[f.v] w fun e w' => e = wiR f ∧ Bl w w' := by
  rcases bcase (okB f) with h | h
  · have KC := Lib.hid (fun w => check_v (chE_t h) w)
    have E := Lib.hid (wiR_ok h)
    have hO := ok_iff.1 h
    have KB := Lib.hid (fun w => body_any f hO w)
    have hb := hO.bod_le
    have hw1 : IntKind.i64.wrap (((bod f).size : Int) + 4) = ((bod f).size : Int) + 4 := IntWalk.i64_in _ (by omega)
    have hw2 : IntKind.i64.wrap (((bod f).size : Int) + 4 + 20) = ((bod f).size : Int) + 24 := by rw [IntWalk.i64_in _ (by omega)]; omega
    clear h hO
    generalize wiR f = R at *
    generalize bod f = u at *
    obtain ⟨d, s, t, p, v, r, q, y, x⟩ := f
    unfold Fr.v at *
    go_enter Try.func13, Try.ntmps13
    go_wp2_with fail
    have hc := n9_new w 23 d s p v q y t r x
    have hb : w.heap.size < (w.alloc (.cells #[.int .i64 d, .int .i64 s, .bool t, .int .i64 p, .int .i64 v, .bool r, .int .i64 q, .int .i64 y, .string x] 23)).heap.size := by simp
    have G0 := Lib.hid ((Bl.refl w).alloc (.cells #[.int .i64 d, .int .i64 s, .bool t, .int .i64 p, .int .i64 v, .bool r, .int .i64 q, .int .i64 y, .string x] 23))
    dsimp only at hc
    generalize w.heap.size = b at *
    generalize w.alloc (.cells #[.int .i64 d, .int .i64 s, .bool t, .int .i64 p, .int .i64 v, .bool r, .int .i64 q, .int .i64 y, .string x] 23) = W at *
    have HN := Lib.hid (fun (w' : World) (g : Bl W w') => n9_keep hb hc g)
    clear hc hb
    have GZ := Lib.hid (Bl.refl W)
    obtain ⟨k0, k1, k2, k3, k4, k5, k6, k7, k8, _⟩ := HN.out _ GZ.out
    go_wp2_with fail
    refine (KC.out _).mono ?_; rintro e wn ⟨rfl, hgr⟩
    replace GZ := Lib.hid (Bl.trans GZ.out hgr); clear hgr
    obtain ⟨k0, k1, k2, k3, k4, k5, k6, k7, k8, _⟩ := HN.out _ GZ.out
    go_wp2_with fail
    refine (KB.out _).mono ?_; rintro e wn ⟨rfl, hgr⟩
    replace GZ := Lib.hid (Bl.trans GZ.out hgr); clear hgr
    go_wp2_with fail
    go_ret2
    exact ⟨by rw [← E.out]; congr 4 <;> omega, Bl.trans G0.out GZ.out⟩
  · have KC := Lib.hid (fun w => check_v (chE_f h) w)
    have E := Lib.hid (wiR_no h)
    clear h
    generalize wiR f = R at *
    obtain ⟨d, s, t, p, v, r, q, y, x⟩ := f
    unfold Fr.v at *
    go_enter Try.func13, Try.ntmps13
    go_wp2_with fail
    have hc := n9_new w 23 d s p v q y t r x
    have hb : w.heap.size < (w.alloc (.cells #[.int .i64 d, .int .i64 s, .bool t, .int .i64 p, .int .i64 v, .bool r, .int .i64 q, .int .i64 y, .string x] 23)).heap.size := by simp
    have G0 := Lib.hid ((Bl.refl w).alloc (.cells #[.int .i64 d, .int .i64 s, .bool t, .int .i64 p, .int .i64 v, .bool r, .int .i64 q, .int .i64 y, .string x] 23))
    dsimp only at hc
    generalize w.heap.size = b at *
    generalize w.alloc (.cells #[.int .i64 d, .int .i64 s, .bool t, .int .i64 p, .int .i64 v, .bool r, .int .i64 q, .int .i64 y, .string x] 23) = W at *
    have HN := Lib.hid (fun (w' : World) (g : Bl W w') => n9_keep hb hc g)
    clear hc hb
    have GZ := Lib.hid (Bl.refl W)
    obtain ⟨k0, k1, k2, k3, k4, k5, k6, k7, k8, _⟩ := HN.out _ GZ.out
    go_wp2_with fail
    refine (KC.out _).mono ?_; rintro e wn ⟨rfl, hgr⟩
    replace GZ := Lib.hid (Bl.trans GZ.out hgr); clear hgr
    go_wp2_with fail
    go_ret2
    exact ⟨E.out, Bl.trans G0.out GZ.out⟩

end Go.Proofs.Ytmhdgpmlconngaa
