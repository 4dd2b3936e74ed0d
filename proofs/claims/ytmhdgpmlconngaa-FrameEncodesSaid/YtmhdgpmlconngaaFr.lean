/-
  What Right and Check of the reference return.
-/
import Derived.Test.YtmhdgpmlconngaaFd
namespace Go.Proofs.Ytmhdgpmlconngaa
open Go.RowKit Go.Proofs.Ytmhdgpmlconngaa.Cr

theorem ok_no {f : Fr} (h : ¬ Ok f) : okB f = false := by
  rcases bcase (okB f) with h1 | h1
  · exact absurd (ok_iff.1 h1) h
  · exact h1
theorem ifs_le (b : Bool) (m : Int) (h : 0 ≤ m) : ifs b m ≤ m := by cases b <;> simp [ifs]; omega

set_option maxHeartbeats 4000000 in
theorem right_any (f : Fr) (w : World) :
    Calls Try.prog 30 #[f.v] w fun e w' => e = .returned (.bool (okB f)) ∧ Bl w w' := by
  have NO := Lib.hid (fun h => ok_no (f := f) h)
  have YES := Lib.hid (fun h => (ok_iff (f := f)).2 h)
  generalize okB f = ob at *
  obtain ⟨d, s, t, p, v, r, q, y, x⟩ := f
  unfold Fr.v
  rcases bcase (Go.Proofs.Ytmhdgpmlconngaa.to d 281474976710655) with t1 | t1
  · have K1 := Lib.hid (fun w => rin_v t1 w)
    have a1 := to_iff.1 t1
    clear t1
    rcases bcase (Go.Proofs.Ytmhdgpmlconngaa.to s 281474976710655) with t2 | t2
    · have K2 := Lib.hid (fun w => rin_v t2 w)
      have a2 := to_iff.1 t2
      clear t2
      rcases bcase (Go.Proofs.Ytmhdgpmlconngaa.to p 7) with t3 | t3
      · have K3 := Lib.hid (fun w => rin_v t3 w)
        have a3 := to_iff.1 t3
        clear t3
        rcases bcase (Go.Proofs.Ytmhdgpmlconngaa.to v 4094) with t4 | t4
        · have K4 := Lib.hid (fun w => rin_v t4 w)
          have a4 := to_iff.1 t4
          clear t4
          rcases bcase (Go.Proofs.Ytmhdgpmlconngaa.to q 65535) with t5 | t5
          · have K5 := Lib.hid (fun w => rin_v t5 w)
            have a5 := to_iff.1 t5
            clear t5
            cases t
            · by_cases hp : p = 0
              · by_cases hv : v = 0
                · subst hp hv
                  cases r
                  · by_cases hq : q = 0
                    · subst hq
                      by_cases hy : y = 0
                      · subst hy
                        by_cases hl : (x.size : Int) ≤ 1500
                        · have E := Lib.hid (YES.out ⟨a1, a2, by constructor <;> simp [ifs] <;> omega, by constructor <;> simp [ifs] <;> omega, by constructor <;> simp [ifs] <;> omega, by exact .inl rfl, by simpa [rm] using hl⟩)
                          clear NO YES
                          go_enter Try.func30, Try.ntmps30
                          go_wp2_with fail
                          refine (K1.out _).mono ?_; rintro e wn ⟨rfl, rfl⟩
                          go_wp2_with fail
                          refine (K2.out _).mono ?_; rintro e wn ⟨rfl, rfl⟩
                          go_wp2_with fail
                          refine (K3.out _).mono ?_; rintro e wn ⟨rfl, rfl⟩
                          go_wp2_with fail
                          refine (K4.out _).mono ?_; rintro e wn ⟨rfl, rfl⟩
                          go_wp2_with fail
                          refine (K5.out _).mono ?_; rintro e wn ⟨rfl, rfl⟩
                          go_wp2_with fail
                          go_ret
                          exact ⟨ret_bool E.out.symm, (Bl.refl _).alloc _⟩
                        · have hdl : decide ((x.size : Int) ≤ 1500) = false := decide_eq_false hl
                          have E := Lib.hid (NO.out (fun h => by have h7 := h.data; simp [rm] at h7; omega))
                          clear NO YES
                          go_enter Try.func30, Try.ntmps30
                          go_wp2_with fail
                          refine (K1.out _).mono ?_; rintro e wn ⟨rfl, rfl⟩
                          go_wp2_with fail
                          refine (K2.out _).mono ?_; rintro e wn ⟨rfl, rfl⟩
                          go_wp2_with fail
                          refine (K3.out _).mono ?_; rintro e wn ⟨rfl, rfl⟩
                          go_wp2_with fail
                          refine (K4.out _).mono ?_; rintro e wn ⟨rfl, rfl⟩
                          go_wp2_with fail
                          refine (K5.out _).mono ?_; rintro e wn ⟨rfl, rfl⟩
                          go_wp2_with fail
                          go_ret
                          exact ⟨ret_bool E.out.symm, (Bl.refl _).alloc _⟩
                      · have c0 : (y == 0) = false := beq_eq_false_iff_ne.2 hy
                        by_cases h15 : 1536 ≤ y
                        · by_cases h65 : y ≤ 65535
                          · by_cases hv1 : y = 33024
                            · subst hv1
                              have E := Lib.hid (NO.out (fun h => by have h6 := h.typ; simp only at h6; omega))
                              clear NO YES
                              go_enter Try.func30, Try.ntmps30
                              go_wp2_with fail
                              refine (K1.out _).mono ?_; rintro e wn ⟨rfl, rfl⟩
                              go_wp2_with fail
                              refine (K2.out _).mono ?_; rintro e wn ⟨rfl, rfl⟩
                              go_wp2_with fail
                              refine (K3.out _).mono ?_; rintro e wn ⟨rfl, rfl⟩
                              go_wp2_with fail
                              refine (K4.out _).mono ?_; rintro e wn ⟨rfl, rfl⟩
                              go_wp2_with fail
                              refine (K5.out _).mono ?_; rintro e wn ⟨rfl, rfl⟩
                              go_wp2_with fail
                              go_ret
                              exact ⟨ret_bool E.out.symm, (Bl.refl _).alloc _⟩
                            · have c3 : (y != 33024) = true := bne_iff_ne.2 hv1
                              by_cases hv2 : y = 61889
                              · subst hv2
                                have E := Lib.hid (NO.out (fun h => by have h6 := h.typ; simp only at h6; omega))
                                clear NO YES
                                go_enter Try.func30, Try.ntmps30
                                go_wp2_with fail
                                refine (K1.out _).mono ?_; rintro e wn ⟨rfl, rfl⟩
                                go_wp2_with fail
                                refine (K2.out _).mono ?_; rintro e wn ⟨rfl, rfl⟩
                                go_wp2_with fail
                                refine (K3.out _).mono ?_; rintro e wn ⟨rfl, rfl⟩
                                go_wp2_with fail
                                refine (K4.out _).mono ?_; rintro e wn ⟨rfl, rfl⟩
                                go_wp2_with fail
                                refine (K5.out _).mono ?_; rintro e wn ⟨rfl, rfl⟩
                                go_wp2_with fail
                                go_ret
                                exact ⟨ret_bool E.out.symm, (Bl.refl _).alloc _⟩
                              · have c4 : (y != 61889) = true := bne_iff_ne.2 hv2
                                by_cases hl : (x.size : Int) ≤ 1500
                                · have E := Lib.hid (YES.out ⟨a1, a2, by constructor <;> simp [ifs] <;> omega, by constructor <;> simp [ifs] <;> omega, by constructor <;> simp [ifs] <;> omega, by simp only; omega, by simpa [rm] using hl⟩)
                                  clear NO YES
                                  go_enter Try.func30, Try.ntmps30
                                  go_wp2_with fail
                                  refine (K1.out _).mono ?_; rintro e wn ⟨rfl, rfl⟩
                                  go_wp2_with fail
                                  refine (K2.out _).mono ?_; rintro e wn ⟨rfl, rfl⟩
                                  go_wp2_with fail
                                  refine (K3.out _).mono ?_; rintro e wn ⟨rfl, rfl⟩
                                  go_wp2_with fail
                                  refine (K4.out _).mono ?_; rintro e wn ⟨rfl, rfl⟩
                                  go_wp2_with fail
                                  refine (K5.out _).mono ?_; rintro e wn ⟨rfl, rfl⟩
                                  go_wp2_with fail
                                  go_ret
                                  exact ⟨ret_bool E.out.symm, (Bl.refl _).alloc _⟩
                                · have hdl : decide ((x.size : Int) ≤ 1500) = false := decide_eq_false hl
                                  have E := Lib.hid (NO.out (fun h => by have h7 := h.data; simp [rm] at h7; omega))
                                  clear NO YES
                                  go_enter Try.func30, Try.ntmps30
                                  go_wp2_with fail
                                  refine (K1.out _).mono ?_; rintro e wn ⟨rfl, rfl⟩
                                  go_wp2_with fail
                                  refine (K2.out _).mono ?_; rintro e wn ⟨rfl, rfl⟩
                                  go_wp2_with fail
                                  refine (K3.out _).mono ?_; rintro e wn ⟨rfl, rfl⟩
                                  go_wp2_with fail
                                  refine (K4.out _).mono ?_; rintro e wn ⟨rfl, rfl⟩
                                  go_wp2_with fail
                                  refine (K5.out _).mono ?_; rintro e wn ⟨rfl, rfl⟩
                                  go_wp2_with fail
                                  go_ret
                                  exact ⟨ret_bool E.out.symm, (Bl.refl _).alloc _⟩
                          · have E := Lib.hid (NO.out (fun h => by have h6 := h.typ; simp only at h6; omega))
                            clear NO YES
                            go_enter Try.func30, Try.ntmps30
                            go_wp2_with fail
                            refine (K1.out _).mono ?_; rintro e wn ⟨rfl, rfl⟩
                            go_wp2_with fail
                            refine (K2.out _).mono ?_; rintro e wn ⟨rfl, rfl⟩
                            go_wp2_with fail
                            refine (K3.out _).mono ?_; rintro e wn ⟨rfl, rfl⟩
                            go_wp2_with fail
                            refine (K4.out _).mono ?_; rintro e wn ⟨rfl, rfl⟩
                            go_wp2_with fail
                            refine (K5.out _).mono ?_; rintro e wn ⟨rfl, rfl⟩
                            go_wp2_with fail
                            go_ret
                            exact ⟨ret_bool E.out.symm, (Bl.refl _).alloc _⟩
                        · have E := Lib.hid (NO.out (fun h => by have h6 := h.typ; simp only at h6; omega))
                          clear NO YES
                          go_enter Try.func30, Try.ntmps30
                          go_wp2_with fail
                          refine (K1.out _).mono ?_; rintro e wn ⟨rfl, rfl⟩
                          go_wp2_with fail
                          refine (K2.out _).mono ?_; rintro e wn ⟨rfl, rfl⟩
                          go_wp2_with fail
                          refine (K3.out _).mono ?_; rintro e wn ⟨rfl, rfl⟩
                          go_wp2_with fail
                          refine (K4.out _).mono ?_; rintro e wn ⟨rfl, rfl⟩
                          go_wp2_with fail
                          refine (K5.out _).mono ?_; rintro e wn ⟨rfl, rfl⟩
                          go_wp2_with fail
                          go_ret
                          exact ⟨ret_bool E.out.symm, (Bl.refl _).alloc _⟩
                    · have cq : (q != 0) = true := bne_iff_ne.2 hq
                      have E := Lib.hid (NO.out (fun h => by have h5 := h.seq; simp [ifs] at h5; omega))
                      clear NO YES
                      go_enter Try.func30, Try.ntmps30
                      go_wp2_with fail
                      refine (K1.out _).mono ?_; rintro e wn ⟨rfl, rfl⟩
                      go_wp2_with fail
                      refine (K2.out _).mono ?_; rintro e wn ⟨rfl, rfl⟩
                      go_wp2_with fail
                      refine (K3.out _).mono ?_; rintro e wn ⟨rfl, rfl⟩
                      go_wp2_with fail
                      refine (K4.out _).mono ?_; rintro e wn ⟨rfl, rfl⟩
                      go_wp2_with fail
                      refine (K5.out _).mono ?_; rintro e wn ⟨rfl, rfl⟩
                      go_wp2_with fail
                      go_ret
                      exact ⟨ret_bool E.out.symm, (Bl.refl _).alloc _⟩
                  · by_cases hy : y = 0
                    · subst hy
                      by_cases hl : (x.size : Int) ≤ 1494
                      · have E := Lib.hid (YES.out ⟨a1, a2, by constructor <;> simp [ifs] <;> omega, by constructor <;> simp [ifs] <;> omega, by constructor <;> simp [ifs] <;> omega, by exact .inl rfl, by simpa [rm] using hl⟩)
                        clear NO YES
                        go_enter Try.func30, Try.ntmps30
                        go_wp2_with fail
                        refine (K1.out _).mono ?_; rintro e wn ⟨rfl, rfl⟩
                        go_wp2_with fail
                        refine (K2.out _).mono ?_; rintro e wn ⟨rfl, rfl⟩
                        go_wp2_with fail
                        refine (K3.out _).mono ?_; rintro e wn ⟨rfl, rfl⟩
                        go_wp2_with fail
                        refine (K4.out _).mono ?_; rintro e wn ⟨rfl, rfl⟩
                        go_wp2_with fail
                        refine (K5.out _).mono ?_; rintro e wn ⟨rfl, rfl⟩
                        go_wp2_with fail
                        go_ret
                        exact ⟨ret_bool E.out.symm, (Bl.refl _).alloc _⟩
                      · have hdl : decide ((x.size : Int) ≤ 1494) = false := decide_eq_false hl
                        have E := Lib.hid (NO.out (fun h => by have h7 := h.data; simp [rm] at h7; omega))
                        clear NO YES
                        go_enter Try.func30, Try.ntmps30
                        go_wp2_with fail
                        refine (K1.out _).mono ?_; rintro e wn ⟨rfl, rfl⟩
                        go_wp2_with fail
                        refine (K2.out _).mono ?_; rintro e wn ⟨rfl, rfl⟩
                        go_wp2_with fail
                        refine (K3.out _).mono ?_; rintro e wn ⟨rfl, rfl⟩
                        go_wp2_with fail
                        refine (K4.out _).mono ?_; rintro e wn ⟨rfl, rfl⟩
                        go_wp2_with fail
                        refine (K5.out _).mono ?_; rintro e wn ⟨rfl, rfl⟩
                        go_wp2_with fail
                        go_ret
                        exact ⟨ret_bool E.out.symm, (Bl.refl _).alloc _⟩
                    · have c0 : (y == 0) = false := beq_eq_false_iff_ne.2 hy
                      by_cases h15 : 1536 ≤ y
                      · by_cases h65 : y ≤ 65535
                        · by_cases hv1 : y = 33024
                          · subst hv1
                            have E := Lib.hid (NO.out (fun h => by have h6 := h.typ; simp only at h6; omega))
                            clear NO YES
                            go_enter Try.func30, Try.ntmps30
                            go_wp2_with fail
                            refine (K1.out _).mono ?_; rintro e wn ⟨rfl, rfl⟩
                            go_wp2_with fail
                            refine (K2.out _).mono ?_; rintro e wn ⟨rfl, rfl⟩
                            go_wp2_with fail
                            refine (K3.out _).mono ?_; rintro e wn ⟨rfl, rfl⟩
                            go_wp2_with fail
                            refine (K4.out _).mono ?_; rintro e wn ⟨rfl, rfl⟩
                            go_wp2_with fail
                            refine (K5.out _).mono ?_; rintro e wn ⟨rfl, rfl⟩
                            go_wp2_with fail
                            go_ret
                            exact ⟨ret_bool E.out.symm, (Bl.refl _).alloc _⟩
                          · have c3 : (y != 33024) = true := bne_iff_ne.2 hv1
                            by_cases hv2 : y = 61889
                            · subst hv2
                              have E := Lib.hid (NO.out (fun h => by have h6 := h.typ; simp only at h6; omega))
                              clear NO YES
                              go_enter Try.func30, Try.ntmps30
                              go_wp2_with fail
                              refine (K1.out _).mono ?_; rintro e wn ⟨rfl, rfl⟩
                              go_wp2_with fail
                              refine (K2.out _).mono ?_; rintro e wn ⟨rfl, rfl⟩
                              go_wp2_with fail
                              refine (K3.out _).mono ?_; rintro e wn ⟨rfl, rfl⟩
                              go_wp2_with fail
                              refine (K4.out _).mono ?_; rintro e wn ⟨rfl, rfl⟩
                              go_wp2_with fail
                              refine (K5.out _).mono ?_; rintro e wn ⟨rfl, rfl⟩
                              go_wp2_with fail
                              go_ret
                              exact ⟨ret_bool E.out.symm, (Bl.refl _).alloc _⟩
                            · have c4 : (y != 61889) = true := bne_iff_ne.2 hv2
                              by_cases hl : (x.size : Int) ≤ 1494
                              · have E := Lib.hid (YES.out ⟨a1, a2, by constructor <;> simp [ifs] <;> omega, by constructor <;> simp [ifs] <;> omega, by constructor <;> simp [ifs] <;> omega, by simp only; omega, by simpa [rm] using hl⟩)
                                clear NO YES
                                go_enter Try.func30, Try.ntmps30
                                go_wp2_with fail
                                refine (K1.out _).mono ?_; rintro e wn ⟨rfl, rfl⟩
                                go_wp2_with fail
                                refine (K2.out _).mono ?_; rintro e wn ⟨rfl, rfl⟩
                                go_wp2_with fail
                                refine (K3.out _).mono ?_; rintro e wn ⟨rfl, rfl⟩
                                go_wp2_with fail
                                refine (K4.out _).mono ?_; rintro e wn ⟨rfl, rfl⟩
                                go_wp2_with fail
                                refine (K5.out _).mono ?_; rintro e wn ⟨rfl, rfl⟩
                                go_wp2_with fail
                                go_ret
                                exact ⟨ret_bool E.out.symm, (Bl.refl _).alloc _⟩
                              · have hdl : decide ((x.size : Int) ≤ 1494) = false := decide_eq_false hl
                                have E := Lib.hid (NO.out (fun h => by have h7 := h.data; simp [rm] at h7; omega))
                                clear NO YES
                                go_enter Try.func30, Try.ntmps30
                                go_wp2_with fail
                                refine (K1.out _).mono ?_; rintro e wn ⟨rfl, rfl⟩
                                go_wp2_with fail
                                refine (K2.out _).mono ?_; rintro e wn ⟨rfl, rfl⟩
                                go_wp2_with fail
                                refine (K3.out _).mono ?_; rintro e wn ⟨rfl, rfl⟩
                                go_wp2_with fail
                                refine (K4.out _).mono ?_; rintro e wn ⟨rfl, rfl⟩
                                go_wp2_with fail
                                refine (K5.out _).mono ?_; rintro e wn ⟨rfl, rfl⟩
                                go_wp2_with fail
                                go_ret
                                exact ⟨ret_bool E.out.symm, (Bl.refl _).alloc _⟩
                        · have E := Lib.hid (NO.out (fun h => by have h6 := h.typ; simp only at h6; omega))
                          clear NO YES
                          go_enter Try.func30, Try.ntmps30
                          go_wp2_with fail
                          refine (K1.out _).mono ?_; rintro e wn ⟨rfl, rfl⟩
                          go_wp2_with fail
                          refine (K2.out _).mono ?_; rintro e wn ⟨rfl, rfl⟩
                          go_wp2_with fail
                          refine (K3.out _).mono ?_; rintro e wn ⟨rfl, rfl⟩
                          go_wp2_with fail
                          refine (K4.out _).mono ?_; rintro e wn ⟨rfl, rfl⟩
                          go_wp2_with fail
                          refine (K5.out _).mono ?_; rintro e wn ⟨rfl, rfl⟩
                          go_wp2_with fail
                          go_ret
                          exact ⟨ret_bool E.out.symm, (Bl.refl _).alloc _⟩
                      · have E := Lib.hid (NO.out (fun h => by have h6 := h.typ; simp only at h6; omega))
                        clear NO YES
                        go_enter Try.func30, Try.ntmps30
                        go_wp2_with fail
                        refine (K1.out _).mono ?_; rintro e wn ⟨rfl, rfl⟩
                        go_wp2_with fail
                        refine (K2.out _).mono ?_; rintro e wn ⟨rfl, rfl⟩
                        go_wp2_with fail
                        refine (K3.out _).mono ?_; rintro e wn ⟨rfl, rfl⟩
                        go_wp2_with fail
                        refine (K4.out _).mono ?_; rintro e wn ⟨rfl, rfl⟩
                        go_wp2_with fail
                        refine (K5.out _).mono ?_; rintro e wn ⟨rfl, rfl⟩
                        go_wp2_with fail
                        go_ret
                        exact ⟨ret_bool E.out.symm, (Bl.refl _).alloc _⟩
                · subst hp
                  have cv : (v != 0) = true := bne_iff_ne.2 hv
                  have E := Lib.hid (NO.out (fun h => by have h4 := h.vid; simp [ifs] at h4; omega))
                  clear NO YES
                  go_enter Try.func30, Try.ntmps30
                  go_wp2_with fail
                  refine (K1.out _).mono ?_; rintro e wn ⟨rfl, rfl⟩
                  go_wp2_with fail
                  refine (K2.out _).mono ?_; rintro e wn ⟨rfl, rfl⟩
                  go_wp2_with fail
                  refine (K3.out _).mono ?_; rintro e wn ⟨rfl, rfl⟩
                  go_wp2_with fail
                  refine (K4.out _).mono ?_; rintro e wn ⟨rfl, rfl⟩
                  go_wp2_with fail
                  refine (K5.out _).mono ?_; rintro e wn ⟨rfl, rfl⟩
                  go_wp2_with fail
                  go_ret
                  exact ⟨ret_bool E.out.symm, (Bl.refl _).alloc _⟩
              · have cp : (p != 0) = true := bne_iff_ne.2 hp
                have E := Lib.hid (NO.out (fun h => by have h3 := h.prio; simp [ifs] at h3; omega))
                clear NO YES
                go_enter Try.func30, Try.ntmps30
                go_wp2_with fail
                refine (K1.out _).mono ?_; rintro e wn ⟨rfl, rfl⟩
                go_wp2_with fail
                refine (K2.out _).mono ?_; rintro e wn ⟨rfl, rfl⟩
                go_wp2_with fail
                refine (K3.out _).mono ?_; rintro e wn ⟨rfl, rfl⟩
                go_wp2_with fail
                refine (K4.out _).mono ?_; rintro e wn ⟨rfl, rfl⟩
                go_wp2_with fail
                refine (K5.out _).mono ?_; rintro e wn ⟨rfl, rfl⟩
                go_wp2_with fail
                go_ret
                exact ⟨ret_bool E.out.symm, (Bl.refl _).alloc _⟩
            · cases r
              · by_cases hq : q = 0
                · subst hq
                  by_cases hy : y = 0
                  · subst hy
                    by_cases hl : (x.size : Int) ≤ 1500
                    · have E := Lib.hid (YES.out ⟨a1, a2, by constructor <;> simp [ifs] <;> omega, by constructor <;> simp [ifs] <;> omega, by constructor <;> simp [ifs] <;> omega, by exact .inl rfl, by simpa [rm] using hl⟩)
                      clear NO YES
                      go_enter Try.func30, Try.ntmps30
                      go_wp2_with fail
                      refine (K1.out _).mono ?_; rintro e wn ⟨rfl, rfl⟩
                      go_wp2_with fail
                      refine (K2.out _).mono ?_; rintro e wn ⟨rfl, rfl⟩
                      go_wp2_with fail
                      refine (K3.out _).mono ?_; rintro e wn ⟨rfl, rfl⟩
                      go_wp2_with fail
                      refine (K4.out _).mono ?_; rintro e wn ⟨rfl, rfl⟩
                      go_wp2_with fail
                      refine (K5.out _).mono ?_; rintro e wn ⟨rfl, rfl⟩
                      go_wp2_with fail
                      go_ret
                      exact ⟨ret_bool E.out.symm, (Bl.refl _).alloc _⟩
                    · have hdl : decide ((x.size : Int) ≤ 1500) = false := decide_eq_false hl
                      have E := Lib.hid (NO.out (fun h => by have h7 := h.data; simp [rm] at h7; omega))
                      clear NO YES
                      go_enter Try.func30, Try.ntmps30
                      go_wp2_with fail
                      refine (K1.out _).mono ?_; rintro e wn ⟨rfl, rfl⟩
                      go_wp2_with fail
                      refine (K2.out _).mono ?_; rintro e wn ⟨rfl, rfl⟩
                      go_wp2_with fail
                      refine (K3.out _).mono ?_; rintro e wn ⟨rfl, rfl⟩
                      go_wp2_with fail
                      refine (K4.out _).mono ?_; rintro e wn ⟨rfl, rfl⟩
                      go_wp2_with fail
                      refine (K5.out _).mono ?_; rintro e wn ⟨rfl, rfl⟩
                      go_wp2_with fail
                      go_ret
                      exact ⟨ret_bool E.out.symm, (Bl.refl _).alloc _⟩
                  · have c0 : (y == 0) = false := beq_eq_false_iff_ne.2 hy
                    by_cases h15 : 1536 ≤ y
                    · by_cases h65 : y ≤ 65535
                      · by_cases hv1 : y = 33024
                        · subst hv1
                          have E := Lib.hid (NO.out (fun h => by have h6 := h.typ; simp only at h6; omega))
                          clear NO YES
                          go_enter Try.func30, Try.ntmps30
                          go_wp2_with fail
                          refine (K1.out _).mono ?_; rintro e wn ⟨rfl, rfl⟩
                          go_wp2_with fail
                          refine (K2.out _).mono ?_; rintro e wn ⟨rfl, rfl⟩
                          go_wp2_with fail
                          refine (K3.out _).mono ?_; rintro e wn ⟨rfl, rfl⟩
                          go_wp2_with fail
                          refine (K4.out _).mono ?_; rintro e wn ⟨rfl, rfl⟩
                          go_wp2_with fail
                          refine (K5.out _).mono ?_; rintro e wn ⟨rfl, rfl⟩
                          go_wp2_with fail
                          go_ret
                          exact ⟨ret_bool E.out.symm, (Bl.refl _).alloc _⟩
                        · have c3 : (y != 33024) = true := bne_iff_ne.2 hv1
                          by_cases hv2 : y = 61889
                          · subst hv2
                            have E := Lib.hid (NO.out (fun h => by have h6 := h.typ; simp only at h6; omega))
                            clear NO YES
                            go_enter Try.func30, Try.ntmps30
                            go_wp2_with fail
                            refine (K1.out _).mono ?_; rintro e wn ⟨rfl, rfl⟩
                            go_wp2_with fail
                            refine (K2.out _).mono ?_; rintro e wn ⟨rfl, rfl⟩
                            go_wp2_with fail
                            refine (K3.out _).mono ?_; rintro e wn ⟨rfl, rfl⟩
                            go_wp2_with fail
                            refine (K4.out _).mono ?_; rintro e wn ⟨rfl, rfl⟩
                            go_wp2_with fail
                            refine (K5.out _).mono ?_; rintro e wn ⟨rfl, rfl⟩
                            go_wp2_with fail
                            go_ret
                            exact ⟨ret_bool E.out.symm, (Bl.refl _).alloc _⟩
                          · have c4 : (y != 61889) = true := bne_iff_ne.2 hv2
                            by_cases hl : (x.size : Int) ≤ 1500
                            · have E := Lib.hid (YES.out ⟨a1, a2, by constructor <;> simp [ifs] <;> omega, by constructor <;> simp [ifs] <;> omega, by constructor <;> simp [ifs] <;> omega, by simp only; omega, by simpa [rm] using hl⟩)
                              clear NO YES
                              go_enter Try.func30, Try.ntmps30
                              go_wp2_with fail
                              refine (K1.out _).mono ?_; rintro e wn ⟨rfl, rfl⟩
                              go_wp2_with fail
                              refine (K2.out _).mono ?_; rintro e wn ⟨rfl, rfl⟩
                              go_wp2_with fail
                              refine (K3.out _).mono ?_; rintro e wn ⟨rfl, rfl⟩
                              go_wp2_with fail
                              refine (K4.out _).mono ?_; rintro e wn ⟨rfl, rfl⟩
                              go_wp2_with fail
                              refine (K5.out _).mono ?_; rintro e wn ⟨rfl, rfl⟩
                              go_wp2_with fail
                              go_ret
                              exact ⟨ret_bool E.out.symm, (Bl.refl _).alloc _⟩
                            · have hdl : decide ((x.size : Int) ≤ 1500) = false := decide_eq_false hl
                              have E := Lib.hid (NO.out (fun h => by have h7 := h.data; simp [rm] at h7; omega))
                              clear NO YES
                              go_enter Try.func30, Try.ntmps30
                              go_wp2_with fail
                              refine (K1.out _).mono ?_; rintro e wn ⟨rfl, rfl⟩
                              go_wp2_with fail
                              refine (K2.out _).mono ?_; rintro e wn ⟨rfl, rfl⟩
                              go_wp2_with fail
                              refine (K3.out _).mono ?_; rintro e wn ⟨rfl, rfl⟩
                              go_wp2_with fail
                              refine (K4.out _).mono ?_; rintro e wn ⟨rfl, rfl⟩
                              go_wp2_with fail
                              refine (K5.out _).mono ?_; rintro e wn ⟨rfl, rfl⟩
                              go_wp2_with fail
                              go_ret
                              exact ⟨ret_bool E.out.symm, (Bl.refl _).alloc _⟩
                      · have E := Lib.hid (NO.out (fun h => by have h6 := h.typ; simp only at h6; omega))
                        clear NO YES
                        go_enter Try.func30, Try.ntmps30
                        go_wp2_with fail
                        refine (K1.out _).mono ?_; rintro e wn ⟨rfl, rfl⟩
                        go_wp2_with fail
                        refine (K2.out _).mono ?_; rintro e wn ⟨rfl, rfl⟩
                        go_wp2_with fail
                        refine (K3.out _).mono ?_; rintro e wn ⟨rfl, rfl⟩
                        go_wp2_with fail
                        refine (K4.out _).mono ?_; rintro e wn ⟨rfl, rfl⟩
                        go_wp2_with fail
                        refine (K5.out _).mono ?_; rintro e wn ⟨rfl, rfl⟩
                        go_wp2_with fail
                        go_ret
                        exact ⟨ret_bool E.out.symm, (Bl.refl _).alloc _⟩
                    · have E := Lib.hid (NO.out (fun h => by have h6 := h.typ; simp only at h6; omega))
                      clear NO YES
                      go_enter Try.func30, Try.ntmps30
                      go_wp2_with fail
                      refine (K1.out _).mono ?_; rintro e wn ⟨rfl, rfl⟩
                      go_wp2_with fail
                      refine (K2.out _).mono ?_; rintro e wn ⟨rfl, rfl⟩
                      go_wp2_with fail
                      refine (K3.out _).mono ?_; rintro e wn ⟨rfl, rfl⟩
                      go_wp2_with fail
                      refine (K4.out _).mono ?_; rintro e wn ⟨rfl, rfl⟩
                      go_wp2_with fail
                      refine (K5.out _).mono ?_; rintro e wn ⟨rfl, rfl⟩
                      go_wp2_with fail
                      go_ret
                      exact ⟨ret_bool E.out.symm, (Bl.refl _).alloc _⟩
                · have cq : (q != 0) = true := bne_iff_ne.2 hq
                  have E := Lib.hid (NO.out (fun h => by have h5 := h.seq; simp [ifs] at h5; omega))
                  clear NO YES
                  go_enter Try.func30, Try.ntmps30
                  go_wp2_with fail
                  refine (K1.out _).mono ?_; rintro e wn ⟨rfl, rfl⟩
                  go_wp2_with fail
                  refine (K2.out _).mono ?_; rintro e wn ⟨rfl, rfl⟩
                  go_wp2_with fail
                  refine (K3.out _).mono ?_; rintro e wn ⟨rfl, rfl⟩
                  go_wp2_with fail
                  refine (K4.out _).mono ?_; rintro e wn ⟨rfl, rfl⟩
                  go_wp2_with fail
                  refine (K5.out _).mono ?_; rintro e wn ⟨rfl, rfl⟩
                  go_wp2_with fail
                  go_ret
                  exact ⟨ret_bool E.out.symm, (Bl.refl _).alloc _⟩
              · by_cases hy : y = 0
                · subst hy
                  by_cases hl : (x.size : Int) ≤ 1494
                  · have E := Lib.hid (YES.out ⟨a1, a2, by constructor <;> simp [ifs] <;> omega, by constructor <;> simp [ifs] <;> omega, by constructor <;> simp [ifs] <;> omega, by exact .inl rfl, by simpa [rm] using hl⟩)
                    clear NO YES
                    go_enter Try.func30, Try.ntmps30
                    go_wp2_with fail
                    refine (K1.out _).mono ?_; rintro e wn ⟨rfl, rfl⟩
                    go_wp2_with fail
                    refine (K2.out _).mono ?_; rintro e wn ⟨rfl, rfl⟩
                    go_wp2_with fail
                    refine (K3.out _).mono ?_; rintro e wn ⟨rfl, rfl⟩
                    go_wp2_with fail
                    refine (K4.out _).mono ?_; rintro e wn ⟨rfl, rfl⟩
                    go_wp2_with fail
                    refine (K5.out _).mono ?_; rintro e wn ⟨rfl, rfl⟩
                    go_wp2_with fail
                    go_ret
                    exact ⟨ret_bool E.out.symm, (Bl.refl _).alloc _⟩
                  · have hdl : decide ((x.size : Int) ≤ 1494) = false := decide_eq_false hl
                    have E := Lib.hid (NO.out (fun h => by have h7 := h.data; simp [rm] at h7; omega))
                    clear NO YES
                    go_enter Try.func30, Try.ntmps30
                    go_wp2_with fail
                    refine (K1.out _).mono ?_; rintro e wn ⟨rfl, rfl⟩
                    go_wp2_with fail
                    refine (K2.out _).mono ?_; rintro e wn ⟨rfl, rfl⟩
                    go_wp2_with fail
                    refine (K3.out _).mono ?_; rintro e wn ⟨rfl, rfl⟩
                    go_wp2_with fail
                    refine (K4.out _).mono ?_; rintro e wn ⟨rfl, rfl⟩
                    go_wp2_with fail
                    refine (K5.out _).mono ?_; rintro e wn ⟨rfl, rfl⟩
                    go_wp2_with fail
                    go_ret
                    exact ⟨ret_bool E.out.symm, (Bl.refl _).alloc _⟩
                · have c0 : (y == 0) = false := beq_eq_false_iff_ne.2 hy
                  by_cases h15 : 1536 ≤ y
                  · by_cases h65 : y ≤ 65535
                    · by_cases hv1 : y = 33024
                      · subst hv1
                        have E := Lib.hid (NO.out (fun h => by have h6 := h.typ; simp only at h6; omega))
                        clear NO YES
                        go_enter Try.func30, Try.ntmps30
                        go_wp2_with fail
                        refine (K1.out _).mono ?_; rintro e wn ⟨rfl, rfl⟩
                        go_wp2_with fail
                        refine (K2.out _).mono ?_; rintro e wn ⟨rfl, rfl⟩
                        go_wp2_with fail
                        refine (K3.out _).mono ?_; rintro e wn ⟨rfl, rfl⟩
                        go_wp2_with fail
                        refine (K4.out _).mono ?_; rintro e wn ⟨rfl, rfl⟩
                        go_wp2_with fail
                        refine (K5.out _).mono ?_; rintro e wn ⟨rfl, rfl⟩
                        go_wp2_with fail
                        go_ret
                        exact ⟨ret_bool E.out.symm, (Bl.refl _).alloc _⟩
                      · have c3 : (y != 33024) = true := bne_iff_ne.2 hv1
                        by_cases hv2 : y = 61889
                        · subst hv2
                          have E := Lib.hid (NO.out (fun h => by have h6 := h.typ; simp only at h6; omega))
                          clear NO YES
                          go_enter Try.func30, Try.ntmps30
                          go_wp2_with fail
                          refine (K1.out _).mono ?_; rintro e wn ⟨rfl, rfl⟩
                          go_wp2_with fail
                          refine (K2.out _).mono ?_; rintro e wn ⟨rfl, rfl⟩
                          go_wp2_with fail
                          refine (K3.out _).mono ?_; rintro e wn ⟨rfl, rfl⟩
                          go_wp2_with fail
                          refine (K4.out _).mono ?_; rintro e wn ⟨rfl, rfl⟩
                          go_wp2_with fail
                          refine (K5.out _).mono ?_; rintro e wn ⟨rfl, rfl⟩
                          go_wp2_with fail
                          go_ret
                          exact ⟨ret_bool E.out.symm, (Bl.refl _).alloc _⟩
                        · have c4 : (y != 61889) = true := bne_iff_ne.2 hv2
                          by_cases hl : (x.size : Int) ≤ 1494
                          · have E := Lib.hid (YES.out ⟨a1, a2, by constructor <;> simp [ifs] <;> omega, by constructor <;> simp [ifs] <;> omega, by constructor <;> simp [ifs] <;> omega, by simp only; omega, by simpa [rm] using hl⟩)
                            clear NO YES
                            go_enter Try.func30, Try.ntmps30
                            go_wp2_with fail
                            refine (K1.out _).mono ?_; rintro e wn ⟨rfl, rfl⟩
                            go_wp2_with fail
                            refine (K2.out _).mono ?_; rintro e wn ⟨rfl, rfl⟩
                            go_wp2_with fail
                            refine (K3.out _).mono ?_; rintro e wn ⟨rfl, rfl⟩
                            go_wp2_with fail
                            refine (K4.out _).mono ?_; rintro e wn ⟨rfl, rfl⟩
                            go_wp2_with fail
                            refine (K5.out _).mono ?_; rintro e wn ⟨rfl, rfl⟩
                            go_wp2_with fail
                            go_ret
                            exact ⟨ret_bool E.out.symm, (Bl.refl _).alloc _⟩
                          · have hdl : decide ((x.size : Int) ≤ 1494) = false := decide_eq_false hl
                            have E := Lib.hid (NO.out (fun h => by have h7 := h.data; simp [rm] at h7; omega))
                            clear NO YES
                            go_enter Try.func30, Try.ntmps30
                            go_wp2_with fail
                            refine (K1.out _).mono ?_; rintro e wn ⟨rfl, rfl⟩
                            go_wp2_with fail
                            refine (K2.out _).mono ?_; rintro e wn ⟨rfl, rfl⟩
                            go_wp2_with fail
                            refine (K3.out _).mono ?_; rintro e wn ⟨rfl, rfl⟩
                            go_wp2_with fail
                            refine (K4.out _).mono ?_; rintro e wn ⟨rfl, rfl⟩
                            go_wp2_with fail
                            refine (K5.out _).mono ?_; rintro e wn ⟨rfl, rfl⟩
                            go_wp2_with fail
                            go_ret
                            exact ⟨ret_bool E.out.symm, (Bl.refl _).alloc _⟩
                    · have E := Lib.hid (NO.out (fun h => by have h6 := h.typ; simp only at h6; omega))
                      clear NO YES
                      go_enter Try.func30, Try.ntmps30
                      go_wp2_with fail
                      refine (K1.out _).mono ?_; rintro e wn ⟨rfl, rfl⟩
                      go_wp2_with fail
                      refine (K2.out _).mono ?_; rintro e wn ⟨rfl, rfl⟩
                      go_wp2_with fail
                      refine (K3.out _).mono ?_; rintro e wn ⟨rfl, rfl⟩
                      go_wp2_with fail
                      refine (K4.out _).mono ?_; rintro e wn ⟨rfl, rfl⟩
                      go_wp2_with fail
                      refine (K5.out _).mono ?_; rintro e wn ⟨rfl, rfl⟩
                      go_wp2_with fail
                      go_ret
                      exact ⟨ret_bool E.out.symm, (Bl.refl _).alloc _⟩
                  · have E := Lib.hid (NO.out (fun h => by have h6 := h.typ; simp only at h6; omega))
                    clear NO YES
                    go_enter Try.func30, Try.ntmps30
                    go_wp2_with fail
                    refine (K1.out _).mono ?_; rintro e wn ⟨rfl, rfl⟩
                    go_wp2_with fail
                    refine (K2.out _).mono ?_; rintro e wn ⟨rfl, rfl⟩
                    go_wp2_with fail
                    refine (K3.out _).mono ?_; rintro e wn ⟨rfl, rfl⟩
                    go_wp2_with fail
                    refine (K4.out _).mono ?_; rintro e wn ⟨rfl, rfl⟩
                    go_wp2_with fail
                    refine (K5.out _).mono ?_; rintro e wn ⟨rfl, rfl⟩
                    go_wp2_with fail
                    go_ret
                    exact ⟨ret_bool E.out.symm, (Bl.refl _).alloc _⟩
          · have K5 := Lib.hid (fun w => rin_v t5 w)
            have t5' : ¬ (0 ≤ q ∧ q ≤ 65535) := fun h => by rw [to_t h] at t5; cases t5
            have E := Lib.hid (NO.out (fun h => t5' (by have h1 := h.seq; simp only at h1; have h2 := ifs_le r 65535 (by decide); omega)))
            clear NO YES
            go_enter Try.func30, Try.ntmps30
            go_wp2_with fail
            refine (K1.out _).mono ?_; rintro e wn ⟨rfl, rfl⟩
            go_wp2_with fail
            refine (K2.out _).mono ?_; rintro e wn ⟨rfl, rfl⟩
            go_wp2_with fail
            refine (K3.out _).mono ?_; rintro e wn ⟨rfl, rfl⟩
            go_wp2_with fail
            refine (K4.out _).mono ?_; rintro e wn ⟨rfl, rfl⟩
            go_wp2_with fail
            refine (K5.out _).mono ?_; rintro e wn ⟨rfl, rfl⟩
            go_wp2_with fail
            go_ret
            exact ⟨ret_bool E.out.symm, (Bl.refl _).alloc _⟩
        · have K4 := Lib.hid (fun w => rin_v t4 w)
          have t4' : ¬ (0 ≤ v ∧ v ≤ 4094) := fun h => by rw [to_t h] at t4; cases t4
          have E := Lib.hid (NO.out (fun h => t4' (by have h1 := h.vid; simp only at h1; have h2 := ifs_le t 4094 (by decide); omega)))
          clear NO YES
          go_enter Try.func30, Try.ntmps30
          go_wp2_with fail
          refine (K1.out _).mono ?_; rintro e wn ⟨rfl, rfl⟩
          go_wp2_with fail
          refine (K2.out _).mono ?_; rintro e wn ⟨rfl, rfl⟩
          go_wp2_with fail
          refine (K3.out _).mono ?_; rintro e wn ⟨rfl, rfl⟩
          go_wp2_with fail
          refine (K4.out _).mono ?_; rintro e wn ⟨rfl, rfl⟩
          go_wp2_with fail
          go_ret
          exact ⟨ret_bool E.out.symm, (Bl.refl _).alloc _⟩
      · have K3 := Lib.hid (fun w => rin_v t3 w)
        have t3' : ¬ (0 ≤ p ∧ p ≤ 7) := fun h => by rw [to_t h] at t3; cases t3
        have E := Lib.hid (NO.out (fun h => t3' (by have h1 := h.prio; simp only at h1; have h2 := ifs_le t 7 (by decide); omega)))
        clear NO YES
        go_enter Try.func30, Try.ntmps30
        go_wp2_with fail
        refine (K1.out _).mono ?_; rintro e wn ⟨rfl, rfl⟩
        go_wp2_with fail
        refine (K2.out _).mono ?_; rintro e wn ⟨rfl, rfl⟩
        go_wp2_with fail
        refine (K3.out _).mono ?_; rintro e wn ⟨rfl, rfl⟩
        go_wp2_with fail
        go_ret
        exact ⟨ret_bool E.out.symm, (Bl.refl _).alloc _⟩
    · have K2 := Lib.hid (fun w => rin_v t2 w)
      have t2' : ¬ (0 ≤ s ∧ s ≤ 281474976710655) := fun h => by rw [to_t h] at t2; cases t2
      have E := Lib.hid (NO.out (fun h => t2' (by have h1 := h.src; simp only at h1; exact h1)))
      clear NO YES
      go_enter Try.func30, Try.ntmps30
      go_wp2_with fail
      refine (K1.out _).mono ?_; rintro e wn ⟨rfl, rfl⟩
      go_wp2_with fail
      refine (K2.out _).mono ?_; rintro e wn ⟨rfl, rfl⟩
      go_wp2_with fail
      go_ret
      exact ⟨ret_bool E.out.symm, (Bl.refl _).alloc _⟩
  · have K1 := Lib.hid (fun w => rin_v t1 w)
    have t1' : ¬ (0 ≤ d ∧ d ≤ 281474976710655) := fun h => by rw [to_t h] at t1; cases t1
    have E := Lib.hid (NO.out (fun h => t1' (by have h1 := h.dst; simp only at h1; exact h1)))
    clear NO YES
    go_enter Try.func30, Try.ntmps30
    go_wp2_with fail
    refine (K1.out _).mono ?_; rintro e wn ⟨rfl, rfl⟩
    go_wp2_with fail
    go_ret
    exact ⟨ret_bool E.out.symm, (Bl.refl _).alloc _⟩

theorem rcheck_any (f : Fr) (w : World) :
    Calls Try.prog 16 #[f.v] w fun e w' => e = .returned (.int .i64 (chE f)) ∧ Bl w w' := by
  have KR := Lib.hid (fun w => right_any f w)
  rcases bcase (okB f) with h | h
  · have E := Lib.hid (chE_t h)
    rw [h] at KR
    clear h
    generalize chE f = c at *
    obtain ⟨d, s, t, p, v, r, q, y, x⟩ := f
    unfold Fr.v at *
    go_enter Try.func16, Try.ntmps16
    go_wp2_with fail
    refine (KR.out _).mono ?_; rintro e wn ⟨rfl, hgr⟩
    have G := Lib.hid (Bl.trans ((Bl.refl w).alloc _) hgr); clear hgr
    go_wp2_with fail
    go_ret
    exact ⟨ret_int E.out.symm, G.out⟩
  · have E := Lib.hid (chE_f h)
    rw [h] at KR
    clear h
    generalize chE f = c at *
    obtain ⟨d, s, t, p, v, r, q, y, x⟩ := f
    unfold Fr.v at *
    go_enter Try.func16, Try.ntmps16
    go_wp2_with fail
    refine (KR.out _).mono ?_; rintro e wn ⟨rfl, hgr⟩
    have G := Lib.hid (Bl.trans ((Bl.refl w).alloc _) hgr); clear hgr
    go_wp2_with fail
    go_ret
    exact ⟨ret_int E.out.symm, G.out⟩

end Go.Proofs.Ytmhdgpmlconngaa
