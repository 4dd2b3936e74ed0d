/-
  What put, typeOrLength and body of package frame return.
-/
import Derived.Test.YtmhdgpmlconngaaFc
import Derived.Test.YtmhdgpmlconngaaFd
namespace Go.Proofs.Ytmhdgpmlconngaa
open Go.RowKit Go.Proofs.Ytmhdgpmlconngaa.Cr

theorem puts_any (s : ByteArray) (n : Int) (k : Nat) {K : Int} (hK : (k : Int) = K) (hs : (s.size : Int) ≤ 8000) (h1 : 1 ≤ k) (h7 : k ≤ 7) (hn : 0 ≤ n) (hp : n < pw k) (w : World) :
    Calls Try.prog 53 #[.string s, .int .i64 n, .int .i64 K] w fun e w' => e = .returned (.string (s ++ be n k)) ∧ Bl w w' := by
  subst hK
  have hb : pw k ≤ 72057594037927936 := by have := pw_mono h7; rw [show pw 7 = 72057594037927936 by decide] at this; exact this
  have hE : puE n (k : Int) = 0 := puE_ok (by omega) (by rw [Int.toNat_natCast]; omega)
  have KP := Lib.hid (fun w => put_any s n (k : Int) hs (by omega) w)
  unfold puR at KP
  rw [puS_ok hE, hE, Int.toNat_natCast] at KP
  clear hE hb hp
  generalize s ++ be n k = x at *
  go_enter Try.func53, Try.ntmps53
  go_wp2_with fail
  refine (KP.out _).mono ?_; rintro e w1 ⟨rfl, gr⟩
  have G := Lib.hid gr; clear gr
  go_wp2_with fail
  go_ret
  exact ⟨rfl, G.out⟩

theorem tol_any (f : Fr) (w : World) :
    Calls Try.prog 54 #[f.v] w fun e w' => e = .returned (.int .i64 (tl f)) ∧ Bl w w' := by
  obtain ⟨d, s, t, p, v, r, q, y, x⟩ := f
  unfold Fr.v
  by_cases h : y = 0
  · subst h
    go_enter Try.func54, Try.ntmps54
    go_wp2
    go_ret
    exact ⟨rfl, (Bl.refl _).alloc _⟩
  · have E := Lib.hid (show tl ⟨d, s, t, p, v, r, q, y, x⟩ = y from if_neg h)
    go_enter Try.func54, Try.ntmps54
    go_wp2
    go_ret
    exact ⟨ret_int E.out.symm, (Bl.refl _).alloc _⟩

theorem bod_tag {f : Fr} (h : f.tag = true) : b1 f = b0 f ++ be 33024 2 ++ be (f.prio * 8192 + f.vid) 2 := by unfold b1; rw [h]; rfl
theorem bod_notag {f : Fr} (h : f.tag = false) : b1 f = b0 f := by unfold b1; rw [h]; rfl
theorem bod_red {f : Fr} (h : f.red = true) : b2 f = b1 f ++ be 61889 2 ++ be f.seq 4 := by unfold b2; rw [h]; rfl
theorem bod_nored {f : Fr} (h : f.red = false) : b2 f = b1 f := by unfold b2; rw [h]; rfl

set_option maxHeartbeats 2000000 in
theorem body_any (f : Fr) (hf : Ok f) (w : World) :
    Calls Try.prog 29 #[f.v] w fun e w' => e = .returned (.string (bod f)) ∧ Bl w w' := by
  have hsz := hf.size
  have htl := hf.tl
  have z0 := b0_size f
  have z1 := b1_size f
  have z2 := b2_size f
  have z3 := b3_size f
  have zh := hdr_le f
  have KT := Lib.hid (fun w => tol_any f w)
  have P1 := Lib.hid (fun w => puts_any noS f.dst 6 (K := 6) rfl (by decide) (by decide) (by decide) hf.dst.1 (by rw [show pw 6 = 281474976710656 by decide]; have := hf.dst.2; omega) w)
  have P2 := Lib.hid (fun w => puts_any (noS ++ be f.dst 6) f.src 6 (K := 6) rfl (by rw [ByteArray.size_append, be_size]; decide) (by decide) (by decide) hf.src.1 (by rw [show pw 6 = 281474976710656 by decide]; have := hf.src.2; omega) w)
  have P3 := Lib.hid (fun w => puts_any (b0 f) 33024 2 (K := 2) rfl (by omega) (by decide) (by decide) (by decide) (by decide) w)
  have hpv : f.tag = true → (0 ≤ f.prio ∧ f.prio ≤ 7) ∧ (0 ≤ f.vid ∧ f.vid ≤ 4094) := fun ht => by
    have h1 := hf.prio; have h2 := hf.vid; rw [ht] at h1 h2; exact ⟨h1, h2⟩
  have P4 := Lib.hid (fun (ht : f.tag = true) w => puts_any (b0 f ++ be 33024 2) (f.prio * 8192 + f.vid) 2 (K := 2) rfl (by rw [ByteArray.size_append, be_size]; omega) (by decide) (by decide) (by have := hpv ht; omega) (by rw [show pw 2 = 65536 by decide]; have := hpv ht; omega) w)
  have P5 := Lib.hid (fun w => puts_any (b1 f) 61889 2 (K := 2) rfl (by split at z1 <;> omega) (by decide) (by decide) (by decide) (by decide) w)
  have hq : 0 ≤ f.seq ∧ f.seq ≤ 65535 := by have h1 := hf.seq; cases hr : f.red <;> rw [hr] at h1 <;> simp [ifs] at h1 <;> omega
  have P6 := Lib.hid (fun w => puts_any (b1 f ++ be 61889 2) f.seq 4 (K := 4) rfl (by rw [ByteArray.size_append, be_size]; split at z1 <;> omega) (by decide) (by decide) hq.1 (by rw [show pw 4 = 4294967296 by decide]; omega) w)
  have P7 := Lib.hid (fun w => puts_any (b2 f) (tl f) 2 (K := 2) rfl (by omega) (by decide) (by decide) htl.1 (by rw [show pw 2 = 65536 by decide]; omega) w)
  have KR := Lib.hid (fun w => repeat_any 0 (60 - (b3 f).size) (by omega) w)
  have hmx : max (0 : Int) (60 - ((b3 f).size : Int)) = ((60 - (b3 f).size : Nat) : Int) := by omega
  have E := Lib.hid (show b3 f ++ cop 0 (60 - (b3 f).size) = bod f from rfl)
  have E0 : noS ++ be f.dst 6 ++ be f.src 6 = b0 f := rfl
  have hadd : ∀ W : World, (Op.stringOp .add (b2 f ++ be (tl f) 2) f.data).run Try.prog W = .ok (.string (b3 f)) W := fun W => run_string_add W _ _ (by rw [ByteArray.size_append, be_size]; omega) (by omega)
  have ET := Lib.hid (fun h => bod_tag (f := f) h)
  have EN := Lib.hid (fun h => bod_notag (f := f) h)
  have ER := Lib.hid (fun h => bod_red (f := f) h)
  have EM := Lib.hid (fun h => bod_nored (f := f) h)
  have hcs : (cop 0 (60 - (b3 f).size)).size = 60 - (b3 f).size := cop_size _ _
  have hz3 : (b3 f).size ≤ 1530 := by omega
  have hx1 : (be f.dst 6).size = 6 := be_size _ _
  have hx7 : (b2 f ++ be (tl f) 2).size ≤ 24 := by rw [ByteArray.size_append, be_size]; omega
  rw [E0] at P2
  have hszI : (f.data.size : Int) ≤ 1500 := by omega
  have hx7I : ((b2 f ++ be (tl f) 2).size : Int) ≤ 24 := by omega
  unfold noS at P1 P2
  generalize hN : (⟨#[]⟩ : ByteArray) ++ be f.dst 6 = s0 at *
  generalize b0 f = s1 at *
  generalize s1 ++ be 33024 2 = s2 at *
  generalize be (f.prio * 8192 + f.vid) 2 = x4 at *
  generalize b1 f = s4 at *
  generalize s4 ++ be 61889 2 = s5 at *
  generalize be f.seq 4 = x6 at *
  generalize b2 f = s6 at *
  generalize s6 ++ be (tl f) 2 = s7 at *
  generalize b3 f = s8 at *
  generalize cop 0 (60 - s8.size) = s9 at *
  generalize bod f = s10 at *
  clear hN htl z0 z1 z2 z3 zh hq E0
  obtain ⟨d, s, t, p, v, r, q, y, x⟩ := f
  unfold Fr.v at *
  dsimp only at *
  go_enter Try.func29, Try.ntmps29
  go_wp2_with fail
  have hc := n9_new w 23 d s p v q y t r x
  have hb : w.heap.size < (w.alloc (.cells #[.int .i64 d, .int .i64 s, .bool t, .int .i64 p, .int .i64 v, .bool r, .int .i64 q, .int .i64 y, .string x] 23)).heap.size := by simp
  have G0 := Lib.hid ((Bl.refl w).alloc (.cells #[.int .i64 d, .int .i64 s, .bool t, .int .i64 p, .int .i64 v, .bool r, .int .i64 q, .int .i64 y, .string x] 23))
  dsimp only at hc
  generalize w.heap.size = b at *
  generalize w.alloc (.cells #[.int .i64 d, .int .i64 s, .bool t, .int .i64 p, .int .i64 v, .bool r, .int .i64 q, .int .i64 y, .string x] 23) = W at *
  have HN := Lib.hid (fun (w' : World) (g : Bl W w') => n9_keep hb hc g)
  clear hc hb
  have GZ := Lib.hid (Bl.refl W)
  go_region_held3 (fun w' => w'.cell? ⟨b, 0, none⟩ = some (.int .i64 d) ∧ w'.cell? ⟨b, 1, none⟩ = some (.int .i64 s) ∧ w'.cell? ⟨b, 2, none⟩ = some (.bool t) ∧ w'.cell? ⟨b, 3, none⟩ = some (.int .i64 p) ∧ w'.cell? ⟨b, 4, none⟩ = some (.int .i64 v) ∧ w'.cell? ⟨b, 5, none⟩ = some (.bool r) ∧ w'.cell? ⟨b, 6, none⟩ = some (.int .i64 q) ∧ w'.cell? ⟨b, 7, none⟩ = some (.int .i64 y) ∧ w'.cell? ⟨b, 8, none⟩ = some (.string x) ∧ Hid (Bl W w')) (first | with_reducible assumption | exact HN.out _ GZ.out.drew | (refine HN.out _ ?_; with_reducible refine Bl.trans ?_ hgr; rename _ ∧ _ ∧ _ ∧ _ ∧ _ ∧ _ ∧ _ ∧ _ ∧ _ ∧ Hid (Bl W _) => hq; exact hq.2.2.2.2.2.2.2.2.2.out) | fail) (first | (go_at_call 53; (with_reducible refine (P1.out _).mono ?_); rintro e wn ⟨rfl, hgr⟩) | (go_at_call 53; (with_reducible refine (P2.out _).mono ?_); rintro e wn ⟨rfl, hgr⟩) | fail)
  rename _ ∧ _ ∧ _ ∧ _ ∧ _ ∧ _ ∧ _ ∧ _ ∧ _ ∧ Hid (Bl W _) => hz
  replace GZ := hz.2.2.2.2.2.2.2.2.2
  clear hz
  obtain ⟨k0, k1, k2, k3, k4, k5, k6, k7, k8, _⟩ := HN.out _ GZ.out
  cases t
  · obtain rfl := EN.out rfl
    clear EN ET P3 P4 hpv
    cases r
    · obtain rfl := EM.out rfl
      clear EM ER P5 P6
      go_wp2_with fail
      go_region_held3 (fun w' => w'.cell? ⟨b, 0, none⟩ = some (.int .i64 d) ∧ w'.cell? ⟨b, 1, none⟩ = some (.int .i64 s) ∧ w'.cell? ⟨b, 2, none⟩ = some (.bool false) ∧ w'.cell? ⟨b, 3, none⟩ = some (.int .i64 p) ∧ w'.cell? ⟨b, 4, none⟩ = some (.int .i64 v) ∧ w'.cell? ⟨b, 5, none⟩ = some (.bool false) ∧ w'.cell? ⟨b, 6, none⟩ = some (.int .i64 q) ∧ w'.cell? ⟨b, 7, none⟩ = some (.int .i64 y) ∧ w'.cell? ⟨b, 8, none⟩ = some (.string x) ∧ Hid (Bl W w')) (first | with_reducible assumption | exact HN.out _ GZ.out.drew | (refine HN.out _ ?_; with_reducible refine Bl.trans ?_ hgr; rename _ ∧ _ ∧ _ ∧ _ ∧ _ ∧ _ ∧ _ ∧ _ ∧ _ ∧ Hid (Bl W _) => hq; exact hq.2.2.2.2.2.2.2.2.2.out) | fail) (first | (go_at_call 54; (with_reducible refine (KT.out _).mono ?_); rintro e wn ⟨rfl, hgr⟩) | (go_at_call 53; (with_reducible refine (P7.out _).mono ?_); rintro e wn ⟨rfl, hgr⟩) | fail)
      rename _ ∧ _ ∧ _ ∧ _ ∧ _ ∧ _ ∧ _ ∧ _ ∧ _ ∧ Hid (Bl W _) => hz
      replace GZ := hz.2.2.2.2.2.2.2.2.2
      clear hz
      obtain ⟨k0, k1, k2, k3, k4, k5, k6, k7, k8, _⟩ := HN.out _ GZ.out
      go_wp2_with fail
      with_reducible refine (KR.out _).mono ?_
      rintro e wn ⟨rfl, hgr⟩
      have G1 := Lib.hid (Bl.trans G0.out (Bl.trans GZ.out hgr))
      clear hgr
      go_wp2_with fail
      go_ret
      exact ⟨by rw [← E.out]; rfl, G1.out⟩
    · obtain rfl := ER.out rfl
      clear EM ER
      go_wp2_with fail
      go_region_held3 (fun w' => w'.cell? ⟨b, 0, none⟩ = some (.int .i64 d) ∧ w'.cell? ⟨b, 1, none⟩ = some (.int .i64 s) ∧ w'.cell? ⟨b, 2, none⟩ = some (.bool false) ∧ w'.cell? ⟨b, 3, none⟩ = some (.int .i64 p) ∧ w'.cell? ⟨b, 4, none⟩ = some (.int .i64 v) ∧ w'.cell? ⟨b, 5, none⟩ = some (.bool true) ∧ w'.cell? ⟨b, 6, none⟩ = some (.int .i64 q) ∧ w'.cell? ⟨b, 7, none⟩ = some (.int .i64 y) ∧ w'.cell? ⟨b, 8, none⟩ = some (.string x) ∧ Hid (Bl W w')) (first | with_reducible assumption | exact HN.out _ GZ.out.drew | (refine HN.out _ ?_; with_reducible refine Bl.trans ?_ hgr; rename _ ∧ _ ∧ _ ∧ _ ∧ _ ∧ _ ∧ _ ∧ _ ∧ _ ∧ Hid (Bl W _) => hq; exact hq.2.2.2.2.2.2.2.2.2.out) | fail) (first | (go_at_call 53; (with_reducible refine (P5.out _).mono ?_); rintro e wn ⟨rfl, hgr⟩) | (go_at_call 53; (with_reducible refine (P6.out _).mono ?_); rintro e wn ⟨rfl, hgr⟩) | fail)
      rename _ ∧ _ ∧ _ ∧ _ ∧ _ ∧ _ ∧ _ ∧ _ ∧ _ ∧ Hid (Bl W _) => hz
      replace GZ := hz.2.2.2.2.2.2.2.2.2
      clear hz
      obtain ⟨k0, k1, k2, k3, k4, k5, k6, k7, k8, _⟩ := HN.out _ GZ.out
      go_wp2_with fail
      go_region_held3 (fun w' => w'.cell? ⟨b, 0, none⟩ = some (.int .i64 d) ∧ w'.cell? ⟨b, 1, none⟩ = some (.int .i64 s) ∧ w'.cell? ⟨b, 2, none⟩ = some (.bool false) ∧ w'.cell? ⟨b, 3, none⟩ = some (.int .i64 p) ∧ w'.cell? ⟨b, 4, none⟩ = some (.int .i64 v) ∧ w'.cell? ⟨b, 5, none⟩ = some (.bool true) ∧ w'.cell? ⟨b, 6, none⟩ = some (.int .i64 q) ∧ w'.cell? ⟨b, 7, none⟩ = some (.int .i64 y) ∧ w'.cell? ⟨b, 8, none⟩ = some (.string x) ∧ Hid (Bl W w')) (first | with_reducible assumption | exact HN.out _ GZ.out.drew | (refine HN.out _ ?_; with_reducible refine Bl.trans ?_ hgr; rename _ ∧ _ ∧ _ ∧ _ ∧ _ ∧ _ ∧ _ ∧ _ ∧ _ ∧ Hid (Bl W _) => hq; exact hq.2.2.2.2.2.2.2.2.2.out) | fail) (first | (go_at_call 54; (with_reducible refine (KT.out _).mono ?_); rintro e wn ⟨rfl, hgr⟩) | (go_at_call 53; (with_reducible refine (P7.out _).mono ?_); rintro e wn ⟨rfl, hgr⟩) | fail)
      rename _ ∧ _ ∧ _ ∧ _ ∧ _ ∧ _ ∧ _ ∧ _ ∧ _ ∧ Hid (Bl W _) => hz
      replace GZ := hz.2.2.2.2.2.2.2.2.2
      clear hz
      obtain ⟨k0, k1, k2, k3, k4, k5, k6, k7, k8, _⟩ := HN.out _ GZ.out
      go_wp2_with fail
      with_reducible refine (KR.out _).mono ?_
      rintro e wn ⟨rfl, hgr⟩
      have G1 := Lib.hid (Bl.trans G0.out (Bl.trans GZ.out hgr))
      clear hgr
      go_wp2_with fail
      go_ret
      exact ⟨by rw [← E.out]; rfl, G1.out⟩
  · obtain rfl := ET.out rfl
    replace P4 := Lib.hid (P4.out rfl)
    obtain ⟨⟨p0, p7⟩, v0, v7⟩ := hpv rfl
    have w1 : IntKind.i64.wrap (p * 8192) = p * 8192 := IntWalk.i64_in _ (by omega)
    have w2 : IntKind.i64.wrap (p * 8192 + v) = p * 8192 + v := IntWalk.i64_in _ (by omega)
    clear EN ET hpv
    go_wp2_with fail
    go_region_held3 (fun w' => w'.cell? ⟨b, 0, none⟩ = some (.int .i64 d) ∧ w'.cell? ⟨b, 1, none⟩ = some (.int .i64 s) ∧ w'.cell? ⟨b, 2, none⟩ = some (.bool true) ∧ w'.cell? ⟨b, 3, none⟩ = some (.int .i64 p) ∧ w'.cell? ⟨b, 4, none⟩ = some (.int .i64 v) ∧ w'.cell? ⟨b, 5, none⟩ = some (.bool r) ∧ w'.cell? ⟨b, 6, none⟩ = some (.int .i64 q) ∧ w'.cell? ⟨b, 7, none⟩ = some (.int .i64 y) ∧ w'.cell? ⟨b, 8, none⟩ = some (.string x) ∧ Hid (Bl W w')) (first | with_reducible assumption | exact HN.out _ GZ.out.drew | (refine HN.out _ ?_; with_reducible refine Bl.trans ?_ hgr; rename _ ∧ _ ∧ _ ∧ _ ∧ _ ∧ _ ∧ _ ∧ _ ∧ _ ∧ Hid (Bl W _) => hq; exact hq.2.2.2.2.2.2.2.2.2.out) | fail) (first | (go_at_call 53; (with_reducible refine (P3.out _).mono ?_); rintro e wn ⟨rfl, hgr⟩) | (go_at_call 53; (with_reducible refine (P4.out _).mono ?_); rintro e wn ⟨rfl, hgr⟩) | fail)
    rename _ ∧ _ ∧ _ ∧ _ ∧ _ ∧ _ ∧ _ ∧ _ ∧ _ ∧ Hid (Bl W _) => hz
    replace GZ := hz.2.2.2.2.2.2.2.2.2
    clear hz
    obtain ⟨k0, k1, k2, k3, k4, k5, k6, k7, k8, _⟩ := HN.out _ GZ.out
    cases r
    · obtain rfl := EM.out rfl
      clear EM ER P5 P6
      go_wp2_with fail
      go_region_held3 (fun w' => w'.cell? ⟨b, 0, none⟩ = some (.int .i64 d) ∧ w'.cell? ⟨b, 1, none⟩ = some (.int .i64 s) ∧ w'.cell? ⟨b, 2, none⟩ = some (.bool true) ∧ w'.cell? ⟨b, 3, none⟩ = some (.int .i64 p) ∧ w'.cell? ⟨b, 4, none⟩ = some (.int .i64 v) ∧ w'.cell? ⟨b, 5, none⟩ = some (.bool false) ∧ w'.cell? ⟨b, 6, none⟩ = some (.int .i64 q) ∧ w'.cell? ⟨b, 7, none⟩ = some (.int .i64 y) ∧ w'.cell? ⟨b, 8, none⟩ = some (.string x) ∧ Hid (Bl W w')) (first | with_reducible assumption | exact HN.out _ GZ.out.drew | (refine HN.out _ ?_; with_reducible refine Bl.trans ?_ hgr; rename _ ∧ _ ∧ _ ∧ _ ∧ _ ∧ _ ∧ _ ∧ _ ∧ _ ∧ Hid (Bl W _) => hq; exact hq.2.2.2.2.2.2.2.2.2.out) | fail) (first | (go_at_call 54; (with_reducible refine (KT.out _).mono ?_); rintro e wn ⟨rfl, hgr⟩) | (go_at_call 53; (with_reducible refine (P7.out _).mono ?_); rintro e wn ⟨rfl, hgr⟩) | fail)
      rename _ ∧ _ ∧ _ ∧ _ ∧ _ ∧ _ ∧ _ ∧ _ ∧ _ ∧ Hid (Bl W _) => hz
      replace GZ := hz.2.2.2.2.2.2.2.2.2
      clear hz
      obtain ⟨k0, k1, k2, k3, k4, k5, k6, k7, k8, _⟩ := HN.out _ GZ.out
      go_wp2_with fail
      with_reducible refine (KR.out _).mono ?_
      rintro e wn ⟨rfl, hgr⟩
      have G1 := Lib.hid (Bl.trans G0.out (Bl.trans GZ.out hgr))
      clear hgr
      go_wp2_with fail
      go_ret
      exact ⟨by rw [← E.out]; rfl, G1.out⟩
    · obtain rfl := ER.out rfl
      clear EM ER
      go_wp2_with fail
      go_region_held3 (fun w' => w'.cell? ⟨b, 0, none⟩ = some (.int .i64 d) ∧ w'.cell? ⟨b, 1, none⟩ = some (.int .i64 s) ∧ w'.cell? ⟨b, 2, none⟩ = some (.bool true) ∧ w'.cell? ⟨b, 3, none⟩ = some (.int .i64 p) ∧ w'.cell? ⟨b, 4, none⟩ = some (.int .i64 v) ∧ w'.cell? ⟨b, 5, none⟩ = some (.bool true) ∧ w'.cell? ⟨b, 6, none⟩ = some (.int .i64 q) ∧ w'.cell? ⟨b, 7, none⟩ = some (.int .i64 y) ∧ w'.cell? ⟨b, 8, none⟩ = some (.string x) ∧ Hid (Bl W w')) (first | with_reducible assumption | exact HN.out _ GZ.out.drew | (refine HN.out _ ?_; with_reducible refine Bl.trans ?_ hgr; rename _ ∧ _ ∧ _ ∧ _ ∧ _ ∧ _ ∧ _ ∧ _ ∧ _ ∧ Hid (Bl W _) => hq; exact hq.2.2.2.2.2.2.2.2.2.out) | fail) (first | (go_at_call 53; (with_reducible refine (P5.out _).mono ?_); rintro e wn ⟨rfl, hgr⟩) | (go_at_call 53; (with_reducible refine (P6.out _).mono ?_); rintro e wn ⟨rfl, hgr⟩) | fail)
      rename _ ∧ _ ∧ _ ∧ _ ∧ _ ∧ _ ∧ _ ∧ _ ∧ _ ∧ Hid (Bl W _) => hz
      replace GZ := hz.2.2.2.2.2.2.2.2.2
      clear hz
      obtain ⟨k0, k1, k2, k3, k4, k5, k6, k7, k8, _⟩ := HN.out _ GZ.out
      go_wp2_with fail
      go_region_held3 (fun w' => w'.cell? ⟨b, 0, none⟩ = some (.int .i64 d) ∧ w'.cell? ⟨b, 1, none⟩ = some (.int .i64 s) ∧ w'.cell? ⟨b, 2, none⟩ = some (.bool true) ∧ w'.cell? ⟨b, 3, none⟩ = some (.int .i64 p) ∧ w'.cell? ⟨b, 4, none⟩ = some (.int .i64 v) ∧ w'.cell? ⟨b, 5, none⟩ = some (.bool true) ∧ w'.cell? ⟨b, 6, none⟩ = some (.int .i64 q) ∧ w'.cell? ⟨b, 7, none⟩ = some (.int .i64 y) ∧ w'.cell? ⟨b, 8, none⟩ = some (.string x) ∧ Hid (Bl W w')) (first | with_reducible assumption | exact HN.out _ GZ.out.drew | (refine HN.out _ ?_; with_reducible refine Bl.trans ?_ hgr; rename _ ∧ _ ∧ _ ∧ _ ∧ _ ∧ _ ∧ _ ∧ _ ∧ _ ∧ Hid (Bl W _) => hq; exact hq.2.2.2.2.2.2.2.2.2.out) | fail) (first | (go_at_call 54; (with_reducible refine (KT.out _).mono ?_); rintro e wn ⟨rfl, hgr⟩) | (go_at_call 53; (with_reducible refine (P7.out _).mono ?_); rintro e wn ⟨rfl, hgr⟩) | fail)
      rename _ ∧ _ ∧ _ ∧ _ ∧ _ ∧ _ ∧ _ ∧ _ ∧ _ ∧ Hid (Bl W _) => hz
      replace GZ := hz.2.2.2.2.2.2.2.2.2
      clear hz
      obtain ⟨k0, k1, k2, k3, k4, k5, k6, k7, k8, _⟩ := HN.out _ GZ.out
      go_wp2_with fail
      with_reducible refine (KR.out _).mono ?_
      rintro e wn ⟨rfl, hgr⟩
      have G1 := Lib.hid (Bl.trans G0.out (Bl.trans GZ.out hgr))
      clear hgr
      go_wp2_with fail
      go_ret
      exact ⟨by rw [← E.out]; rfl, G1.out⟩
end Go.Proofs.Ytmhdgpmlconngaa
