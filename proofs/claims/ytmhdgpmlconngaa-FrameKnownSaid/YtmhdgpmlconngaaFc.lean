/-
  What Check of package frame returns.
-/
import Derived.Test.YtmhdgpmlconngaaFb
namespace Go.Proofs.Ytmhdgpmlconngaa
open Go.RowKit Go.Proofs.Ytmhdgpmlconngaa.Cr

theorem ok_1 {f : Fr} (h : to f.dst 281474976710655 = false) : okB f = false := by unfold okB; rw [h]; rfl
theorem ok_2 {f : Fr} (h : to f.src 281474976710655 = false) : okB f = false := by unfold okB; rw [h, Bool.and_false]; rfl
theorem ok_3 {f : Fr} (h : gB f = false) : okB f = false := by unfold okB; rw [h, Bool.and_false]; rfl
theorem ok_4 {f : Fr} (h : tB f.typ = false) : okB f = false := by unfold okB; rw [h, Bool.and_false]; rfl
theorem ok_5 {f : Fr} (h : ¬ (f.data.size : Int) ≤ rm f.red) : okB f = false := by unfold okB; rw [decide_eq_false h, Bool.and_false]
theorem ok_6 {f : Fr} (h1 : to f.dst 281474976710655 = true) (h2 : to f.src 281474976710655 = true) (h3 : gB f = true) (h4 : tB f.typ = true) (h5 : (f.data.size : Int) ≤ rm f.red) : okB f = true := by
  unfold okB; rw [h1, h2, h3, h4, decide_eq_true h5]; rfl

set_option maxHeartbeats 1000000 in
theorem check_any (f : Fr) (w : World) :
    Calls Try.prog 15 #[f.v] w fun e w' => e = .returned (.int .i64 (chE f)) ∧ Bl w w' := by
  have KG := Lib.hid (fun w => tags_any f w)
  have KR := Lib.hid (fun w => room_any f w)
  have O1 := Lib.hid (fun h => chE_f (ok_1 (f := f) h))
  have O2 := Lib.hid (fun h => chE_f (ok_2 (f := f) h))
  have O3 := Lib.hid (fun h => chE_f (ok_3 (f := f) h))
  have O4 := Lib.hid (fun h => chE_f (ok_4 (f := f) h))
  have O5 := Lib.hid (fun h => chE_f (ok_5 (f := f) h))
  have O6 := Lib.hid (fun h1 h2 h3 h4 h5 => chE_t (ok_6 (f := f) h1 h2 h3 h4 h5))
  have hrm : rm f.red = 1494 ∨ rm f.red = 1500 := by cases f.red <;> simp [rm]
  generalize chE f = c at *
  generalize gB f = g at *
  obtain ⟨d, s, t, p, v, r, q, y, x⟩ := f
  unfold Fr.v at *
  simp only at O1 O2 O4 O5 O6 hrm KR
  generalize hm : rm r = m at *
  clear hm
  rcases bcase (to d 281474976710655) with h1 | h1
  · have K1 := Lib.hid (fun w => isTo_v h1 w)
    rcases bcase (to s 281474976710655) with h2 | h2
    · have K2 := Lib.hid (fun w => isTo_v h2 w)
      cases g
      · have E := Lib.hid (O3.out rfl)
        clear O1 O2 O3 O4 O5 O6 h1 h2
        go_enter Try.func15, Try.ntmps15
        go_wp2_with fail
        have hc := n9_new w 23 d s p v q y t r x
        have hb : w.heap.size < (w.alloc (.cells #[.int .i64 d, .int .i64 s, .bool t, .int .i64 p, .int .i64 v, .bool r, .int .i64 q, .int .i64 y, .string x] 23)).heap.size := by simp
        have G0 := Lib.hid ((Bl.refl w).alloc (.cells #[.int .i64 d, .int .i64 s, .bool t, .int .i64 p, .int .i64 v, .bool r, .int .i64 q, .int .i64 y, .string x] 23))
        dsimp only at hc
        generalize w.heap.size = b at *
        generalize w.alloc (.cells #[.int .i64 d, .int .i64 s, .bool t, .int .i64 p, .int .i64 v, .bool r, .int .i64 q, .int .i64 y, .string x] 23) = W at *
        have HN := Lib.hid (fun (w' : World) (g : Bl W w') => n9_keep hb hc g)
        clear hc hb
        obtain ⟨c0, c1, c2, c3, c4, c5, c6, c7, c8, _⟩ := HN.out _ (Bl.refl W)
        first | (go_region_with (first | (go_at_call 32; (with_reducible refine (K1.out _).mono ?_); rintro e wn ⟨rfl, rfl⟩) | (go_at_call 32; (with_reducible refine (K2.out _).mono ?_); rintro e wn ⟨rfl, rfl⟩) | (go_at_call 33; (with_reducible refine (KG.out _).mono ?_); rintro e wn ⟨rfl, hgr⟩; have GG := Lib.hid (Bl.trans (Bl.drew (Bl.refl W)) hgr); clear hgr; obtain ⟨k0, k1, k2, k3, k4, k5, k6, k7, k8, _⟩ := HN.out _ GG.out) | fail)) | fail
        all_goals (have hz := Lib.hid (Bl.trans G0.out GG.out); go_wp2_with fail; go_ret; exact ⟨ret_int E.out.symm, hz.out⟩)
      · rcases bcase (tB y) with h4 | h4
        · have K4 := Lib.hid (fun w => isType_v h4 w)
          by_cases h5 : (x.size : Int) ≤ m
          · have E := Lib.hid (O6.out h1 h2 rfl h4 h5)
            clear O1 O2 O3 O4 O5 O6 h1 h2 h4
            go_enter Try.func15, Try.ntmps15
            go_wp2_with fail
            have hc := n9_new w 23 d s p v q y t r x
            have hb : w.heap.size < (w.alloc (.cells #[.int .i64 d, .int .i64 s, .bool t, .int .i64 p, .int .i64 v, .bool r, .int .i64 q, .int .i64 y, .string x] 23)).heap.size := by simp
            have G0 := Lib.hid ((Bl.refl w).alloc (.cells #[.int .i64 d, .int .i64 s, .bool t, .int .i64 p, .int .i64 v, .bool r, .int .i64 q, .int .i64 y, .string x] 23))
            dsimp only at hc
            generalize w.heap.size = b at *
            generalize w.alloc (.cells #[.int .i64 d, .int .i64 s, .bool t, .int .i64 p, .int .i64 v, .bool r, .int .i64 q, .int .i64 y, .string x] 23) = W at *
            have HN := Lib.hid (fun (w' : World) (g : Bl W w') => n9_keep hb hc g)
            clear hc hb
            first | (go_region_held3 (fun w' => w'.cell? ⟨b, 0, none⟩ = some (.int .i64 d) ∧ w'.cell? ⟨b, 1, none⟩ = some (.int .i64 s) ∧ w'.cell? ⟨b, 2, none⟩ = some (.bool t) ∧ w'.cell? ⟨b, 3, none⟩ = some (.int .i64 p) ∧ w'.cell? ⟨b, 4, none⟩ = some (.int .i64 v) ∧ w'.cell? ⟨b, 5, none⟩ = some (.bool r) ∧ w'.cell? ⟨b, 6, none⟩ = some (.int .i64 q) ∧ w'.cell? ⟨b, 7, none⟩ = some (.int .i64 y) ∧ w'.cell? ⟨b, 8, none⟩ = some (.string x) ∧ Hid (Bl W w')) (first | with_reducible assumption | exact HN.out _ (Bl.refl _) | exact HN.out _ ((Bl.refl _).drew) | (refine HN.out _ ?_; with_reducible refine Bl.trans ?_ hgr; rename _ ∧ _ ∧ _ ∧ _ ∧ _ ∧ _ ∧ _ ∧ _ ∧ _ ∧ Hid (Bl W _) => hq; exact hq.2.2.2.2.2.2.2.2.2.out) | fail) (first | (go_at_call 32; (with_reducible refine (K1.out _).mono ?_); rintro e wn ⟨rfl, rfl⟩) | (go_at_call 32; (with_reducible refine (K2.out _).mono ?_); rintro e wn ⟨rfl, rfl⟩) | (go_at_call 33; (with_reducible refine (KG.out _).mono ?_); rintro e wn ⟨rfl, hgr⟩) | (go_at_call 34; (with_reducible refine (K4.out _).mono ?_); rintro e wn ⟨rfl, rfl⟩) | (go_at_call 35; (with_reducible refine (KR.out _).mono ?_); rintro e wn ⟨rfl, hgr⟩) | fail)) | fail
            all_goals (rename _ ∧ _ ∧ _ ∧ _ ∧ _ ∧ _ ∧ _ ∧ _ ∧ _ ∧ Hid (Bl W _) => hz; have hz := Lib.hid (Bl.trans G0.out hz.2.2.2.2.2.2.2.2.2.out); go_wp2_with fail; go_ret; exact ⟨ret_int E.out.symm, hz.out⟩)
          · have E := Lib.hid (O5.out h5)
            clear O1 O2 O3 O4 O5 O6 h1 h2 h4
            go_enter Try.func15, Try.ntmps15
            go_wp2_with fail
            have hc := n9_new w 23 d s p v q y t r x
            have hb : w.heap.size < (w.alloc (.cells #[.int .i64 d, .int .i64 s, .bool t, .int .i64 p, .int .i64 v, .bool r, .int .i64 q, .int .i64 y, .string x] 23)).heap.size := by simp
            have G0 := Lib.hid ((Bl.refl w).alloc (.cells #[.int .i64 d, .int .i64 s, .bool t, .int .i64 p, .int .i64 v, .bool r, .int .i64 q, .int .i64 y, .string x] 23))
            dsimp only at hc
            generalize w.heap.size = b at *
            generalize w.alloc (.cells #[.int .i64 d, .int .i64 s, .bool t, .int .i64 p, .int .i64 v, .bool r, .int .i64 q, .int .i64 y, .string x] 23) = W at *
            have HN := Lib.hid (fun (w' : World) (g : Bl W w') => n9_keep hb hc g)
            clear hc hb
            first | (go_region_held3 (fun w' => w'.cell? ⟨b, 0, none⟩ = some (.int .i64 d) ∧ w'.cell? ⟨b, 1, none⟩ = some (.int .i64 s) ∧ w'.cell? ⟨b, 2, none⟩ = some (.bool t) ∧ w'.cell? ⟨b, 3, none⟩ = some (.int .i64 p) ∧ w'.cell? ⟨b, 4, none⟩ = some (.int .i64 v) ∧ w'.cell? ⟨b, 5, none⟩ = some (.bool r) ∧ w'.cell? ⟨b, 6, none⟩ = some (.int .i64 q) ∧ w'.cell? ⟨b, 7, none⟩ = some (.int .i64 y) ∧ w'.cell? ⟨b, 8, none⟩ = some (.string x) ∧ Hid (Bl W w')) (first | with_reducible assumption | exact HN.out _ (Bl.refl _) | exact HN.out _ ((Bl.refl _).drew) | (refine HN.out _ ?_; with_reducible refine Bl.trans ?_ hgr; rename _ ∧ _ ∧ _ ∧ _ ∧ _ ∧ _ ∧ _ ∧ _ ∧ _ ∧ Hid (Bl W _) => hq; exact hq.2.2.2.2.2.2.2.2.2.out) | fail) (first | (go_at_call 32; (with_reducible refine (K1.out _).mono ?_); rintro e wn ⟨rfl, rfl⟩) | (go_at_call 32; (with_reducible refine (K2.out _).mono ?_); rintro e wn ⟨rfl, rfl⟩) | (go_at_call 33; (with_reducible refine (KG.out _).mono ?_); rintro e wn ⟨rfl, hgr⟩) | (go_at_call 34; (with_reducible refine (K4.out _).mono ?_); rintro e wn ⟨rfl, rfl⟩) | (go_at_call 35; (with_reducible refine (KR.out _).mono ?_); rintro e wn ⟨rfl, hgr⟩) | fail)) | fail
            all_goals (rename _ ∧ _ ∧ _ ∧ _ ∧ _ ∧ _ ∧ _ ∧ _ ∧ _ ∧ Hid (Bl W _) => hz; have hz := Lib.hid (Bl.trans G0.out hz.2.2.2.2.2.2.2.2.2.out); go_wp2_with fail; go_ret; exact ⟨ret_int E.out.symm, hz.out⟩)
        · have K4 := Lib.hid (fun w => isType_v h4 w)
          have E := Lib.hid (O4.out h4)
          clear O1 O2 O3 O4 O5 O6 h1 h2 h4
          go_enter Try.func15, Try.ntmps15
          go_wp2_with fail
          have hc := n9_new w 23 d s p v q y t r x
          have hb : w.heap.size < (w.alloc (.cells #[.int .i64 d, .int .i64 s, .bool t, .int .i64 p, .int .i64 v, .bool r, .int .i64 q, .int .i64 y, .string x] 23)).heap.size := by simp
          have G0 := Lib.hid ((Bl.refl w).alloc (.cells #[.int .i64 d, .int .i64 s, .bool t, .int .i64 p, .int .i64 v, .bool r, .int .i64 q, .int .i64 y, .string x] 23))
          dsimp only at hc
          generalize w.heap.size = b at *
          generalize w.alloc (.cells #[.int .i64 d, .int .i64 s, .bool t, .int .i64 p, .int .i64 v, .bool r, .int .i64 q, .int .i64 y, .string x] 23) = W at *
          have HN := Lib.hid (fun (w' : World) (g : Bl W w') => n9_keep hb hc g)
          clear hc hb
          obtain ⟨c0, c1, c2, c3, c4, c5, c6, c7, c8, _⟩ := HN.out _ (Bl.refl W)
          first | (go_region_with (first | (go_at_call 32; (with_reducible refine (K1.out _).mono ?_); rintro e wn ⟨rfl, rfl⟩) | (go_at_call 32; (with_reducible refine (K2.out _).mono ?_); rintro e wn ⟨rfl, rfl⟩) | (go_at_call 33; (with_reducible refine (KG.out _).mono ?_); rintro e wn ⟨rfl, hgr⟩; have GG := Lib.hid (Bl.trans (Bl.drew (Bl.refl W)) hgr); clear hgr; obtain ⟨k0, k1, k2, k3, k4, k5, k6, k7, k8, _⟩ := HN.out _ GG.out) | (go_at_call 34; (with_reducible refine (K4.out _).mono ?_); rintro e wn ⟨rfl, rfl⟩) | fail)) | fail
          all_goals (have hz := Lib.hid (Bl.trans G0.out GG.out); go_wp2_with fail; go_ret; exact ⟨ret_int E.out.symm, hz.out⟩)
    · have K2 := Lib.hid (fun w => isTo_v h2 w)
      have E := Lib.hid (O2.out h2)
      clear O1 O2 O3 O4 O5 O6 h1 h2
      go_enter Try.func15, Try.ntmps15
      go_wp2_with fail
      go_quiet (first | (go_at_call 32; with_reducible exact quiet_eq (K1.out _)) | (go_at_call 32; with_reducible exact quiet_eq (K2.out _)) | fail)
      go_wp2_with fail
      go_ret
      exact ⟨ret_int E.out.symm, ((Bl.refl _).alloc _).drewN _⟩
  · have K1 := Lib.hid (fun w => isTo_v h1 w)
    have E := Lib.hid (O1.out h1)
    clear O1 O2 O3 O4 O5 O6 h1
    go_enter Try.func15, Try.ntmps15
    go_wp2_with fail
    go_quiet (first | (go_at_call 32; with_reducible exact quiet_eq (K1.out _)) | fail)
    go_wp2_with fail
    go_ret
    exact ⟨ret_int E.out.symm, ((Bl.refl _).alloc _).drewN _⟩

end Go.Proofs.Ytmhdgpmlconngaa
