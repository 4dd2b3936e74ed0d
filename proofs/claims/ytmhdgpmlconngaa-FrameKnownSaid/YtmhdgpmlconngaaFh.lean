/-
  What decoded of package frame returns.
-/
import Derived.Test.YtmhdgpmlconngaaFg
import Derived.Deep.DeepCutAuto
namespace Go.Proofs.Ytmhdgpmlconngaa
open Go.RowKit Go.Proofs.Ytmhdgpmlconngaa.Cr

/-- What decoded gives. -/
def dcR (x : ByteArray) : Ending := match prs x with
  | some f => .returned f.v
  | none => bad
theorem dcR_no {x : ByteArray} (h : prs x = none) : dcR x = bad := by unfold dcR; rw [h]
theorem dcR_ok {x : ByteArray} {f : Fr} (h : prs x = some f) : dcR x = .returned f.v := by unfold dcR; rw [h]
theorem rd_bound (x : ByteArray) (a k : Nat) : 0 ≤ rd x a k ∧ rd x a k < pw k := by
  have h := @vl_bound 0 (sub x a k)
  have hm := pw_mono (show (sub x a k).length ≤ k by unfold sub; rw [List.length_take]; omega)
  unfold rd
  omega
theorem rd_two (x : ByteArray) (a : Nat) : 0 ≤ rd x a 2 ∧ rd x a 2 < 65536 := rd_bound x a 2
theorem rd_four (x : ByteArray) (a : Nat) : 0 ≤ rd x a 4 ∧ rd x a 4 < 4294967296 := rd_bound x a 4
theorem Rb.far2 {w : World} {b : Nat} {a : Int} {x : ByteArray} (h : Rb w b a x) {p q : Addr} (hp : p.block ≠ b) (hq : q.block ≠ b) (u v : Value) : Rb ((w.setCell p u).setCell q v) b a x := (h.far hp u).far hq v
theorem Rb.far3 {w : World} {b : Nat} {a : Int} {x : ByteArray} (h : Rb w b a x) {p q r : Addr} (hp : p.block ≠ b) (hq : q.block ≠ b) (hr : r.block ≠ b) (u v z : Value) : Rb (((w.setCell p u).setCell q v).setCell r z) b a x := (h.far2 hp hq u v).far hr z
theorem Fb.far2 {w : World} {c : Nat} {f : Fr} (h : Fb w c f) {p q : Addr} (hp : p.block ≠ c) (hq : q.block ≠ c) (u v : Value) : Fb ((w.setCell p u).setCell q v) c f := (h.far hp u).far hq v
theorem Fb.far3 {w : World} {c : Nat} {f : Fr} (h : Fb w c f) {p q r : Addr} (hp : p.block ≠ c) (hq : q.block ≠ c) (hr : r.block ≠ c) (u v z : Value) : Fb (((w.setCell p u).setCell q v).setCell r z) c f := (h.far2 hp hq u v).far hr z

set_option maxRecDepth 50000 in
set_option maxHeartbeats 8000000 in
theorem fdecoded_any (b : Nat) (x : ByteArray) (hx : (x.size : Int) ≤ 8000) (w : World) (hr : Rb w b 0 x) :
    Calls Try.prog 40 #[.func (.func 41) #[.pointer (some ⟨b, 0, none⟩)] #[], .func (.func 42) #[.pointer (some ⟨b, 0, none⟩)] #[], .func (.func 43) #[.pointer (some ⟨b, 0, none⟩)] #[]] w fun e w' => e = dcR x ∧ Only b w w' ∧ (prs x ≠ none → w'.cell? ⟨b, 1, none⟩ = some (.string x)) := by
  have R := Lib.hid (hr.alloc (.cells #[.int .i64 0, .int .i64 0, .bool false, .int .i64 0, .int .i64 0, .bool false, .int .i64 0, .int .i64 0, .string ⟨#[]⟩] 23))
  have Z := Lib.hid (Fb.new w 23 ⟨0, 0, false, 0, 0, false, 0, 0, ⟨#[]⟩⟩)
  have G := Lib.hid (Only.alloc (Only.refl b w) (.cells #[.int .i64 0, .int .i64 0, .bool false, .int .i64 0, .int .i64 0, .bool false, .int .i64 0, .int .i64 0, .string ⟨#[]⟩] 23))
  have hn : w.heap.size ≠ b := by have := hr.1; omega
  have N := Lib.hid hn
  have hbs := hr.1
  clear hn hr
  go_enter Try.func40, Try.ntmps40
  by_cases h6 : x.size < 6
  · have E := Lib.hid (show prs x = none by unfold prs; rw [if_pos (by omega)])
    go_wp2_with fail
    refine (number_no b 0 6 (K := 6) rfl x hx (by decide) (by decide) (by omega) (by omega) _ R.out).mono ?_; rintro e wn ⟨rfl, ho⟩
    replace G := Lib.hid (Only.trans G.out ho)
    clear ho
    unfold bad
    go_wp2_with fail
    exact ⟨rfl, (dcR_no E.out).symm, G.out, fun h => absurd E.out h⟩
  · go_wp2_with fail
    refine (number_ok b 0 6 (K := 6) rfl x hx (by decide) (by decide) (by omega) _ R.out).mono ?_; rintro e wn ⟨rfl, hr, ho⟩
    replace R := Lib.hid hr
    replace Z := Lib.hid (Z.out.go ho N.out)
    replace G := Lib.hid (Only.trans G.out ho)
    clear hr ho
    by_cases h12 : x.size < 12
    · have E := Lib.hid (show prs x = none by unfold prs; rw [if_pos (by omega)])
      go_wp2_with fail
      refine (number_no b 6 6 (K := 6) rfl x hx (by decide) (by decide) (by omega) (by omega) _ R.out).mono ?_; rintro e wn ⟨rfl, ho⟩
      replace G := Lib.hid (Only.trans G.out ho)
      clear ho
      unfold bad
      go_wp2_with fail
      exact ⟨rfl, (dcR_no E.out).symm, G.out, fun h => absurd E.out h⟩
    · go_wp2_with fail
      refine (number_ok b 6 6 (K := 6) rfl x hx (by decide) (by decide) (by omega) _ R.out).mono ?_; rintro e wn ⟨rfl, hr, ho⟩
      replace R := Lib.hid hr
      replace Z := Lib.hid (Z.out.go ho N.out)
      replace G := Lib.hid (Only.trans G.out ho)
      clear hr ho
      go_wp2_with fail
      have F := Lib.hid (Fb.new wn 23 ⟨rd x 0 6, rd x 6 6, false, 0, 0, false, 0, 0, ⟨#[]⟩⟩)
      have hsz := G.out.size
      have zl := Z.out.1
      have L := Lib.hid (show wn.heap.size ≠ w.heap.size by omega)
      have M := Lib.hid (show wn.heap.size ≠ b by omega)
      have HL := Lib.hid hsz
      have HZ := Lib.hid (Nat.le_refl w.heap.size)
      replace R := Lib.hid (R.out.alloc (.cells #[.int .i64 (rd x 0 6), .int .i64 (rd x 6 6), .bool false, .int .i64 0, .int .i64 0, .bool false, .int .i64 0, .int .i64 0, .string ⟨#[]⟩] 23))
      replace Z := Lib.hid (Z.out.alloc (.cells #[.int .i64 (rd x 0 6), .int .i64 (rd x 6 6), .bool false, .int .i64 0, .int .i64 0, .bool false, .int .i64 0, .int .i64 0, .string ⟨#[]⟩] 23))
      replace G := Lib.hid (G.out.alloc (.cells #[.int .i64 (rd x 0 6), .int .i64 (rd x 6 6), .bool false, .int .i64 0, .int .i64 0, .bool false, .int .i64 0, .int .i64 0, .string ⟨#[]⟩] 23))
      clear hsz zl
      generalize wn.heap.size = c at *
      by_cases h14 : x.size < 14
      · have E := Lib.hid (show prs x = none by unfold prs; rw [if_pos (by omega)])
        go_wp2_with fail
        refine (number_no b 12 2 (K := 2) rfl x hx (by decide) (by decide) (by omega) (by omega) _ R.out).mono ?_; rintro e wn ⟨rfl, ho⟩
        replace G := Lib.hid (Only.trans G.out ho)
        clear ho
        unfold bad
        go_wp2_with fail
        exact ⟨rfl, (dcR_no E.out).symm, G.out, fun h => absurd E.out h⟩
      · go_wp2_with fail
        refine (number_ok b 12 2 (K := 2) rfl x hx (by decide) (by decide) (by omega) _ R.out).mono ?_; rintro e wn ⟨rfl, hr, ho⟩
        replace R := Lib.hid hr
        replace Z := Lib.hid (Z.out.go ho N.out)
        replace F := Lib.hid (F.out.go ho M.out)
        replace G := Lib.hid (Only.trans G.out ho)
        clear hr ho
        by_cases hT : rd x 12 2 = 33024
        · have hcb := rd_two x 14
          by_cases h16 : x.size < 16
          · have E := Lib.hid (show prs x = none by unfold prs; rw [if_neg (by omega)]; rw [if_pos hT, if_pos (by omega)])
            go_wp2_with fail
            refine (number_no b 14 2 (K := 2) rfl x hx (by decide) (by decide) (by omega) (by omega) _ R.out).mono ?_; rintro e wn ⟨rfl, ho⟩
            replace G := Lib.hid (Only.trans G.out ho)
            clear ho
            unfold bad
            go_wp2_with fail
            exact ⟨rfl, (dcR_no E.out).symm, G.out, fun h => absurd E.out h⟩
          · go_wp2_with fail
            refine (number_ok b 14 2 (K := 2) rfl x hx (by decide) (by decide) (by omega) _ R.out).mono ?_; rintro e wn ⟨rfl, hr, ho⟩
            replace R := Lib.hid hr
            replace Z := Lib.hid (Z.out.go ho N.out)
            replace F := Lib.hid (F.out.go ho M.out)
            replace G := Lib.hid (Only.trans G.out ho)
            clear hr ho
            obtain ⟨c0, c1, c2, c3, c4, c5, c6, c7, c8⟩ := F.out.cells
            obtain ⟨cf0, cf1, cf2, cf3, cf4, cf5, cf6, cf7, cf8⟩ := F.out.frozen
            have w1 : (rd x 14 2).tdiv 8192 = rd x 14 2 / 8192 := Int.tdiv_eq_ediv_of_nonneg hcb.1
            have w2 : (rd x 14 2).tmod 8192 = rd x 14 2 % 8192 := Int.tmod_eq_emod_of_nonneg hcb.1
            go_wp2_with fail
            clear c0 c1 c2 c3 c4 c5 c6 c7 c8 cf0 cf1 cf2 cf3 cf4 cf5 cf6 cf7 cf8
            clear w1 w2
            replace R := Lib.hid (R.out.far3 (p := ⟨_, 2, none⟩) (q := ⟨_, 3, none⟩) (r := ⟨_, 4, none⟩) M.out M.out M.out (.bool true) (.int .i64 (rd x 14 2 / 8192)) (.int .i64 (rd x 14 2 % 8192)))
            replace Z := Lib.hid (Z.out.far3 (p := ⟨_, 2, none⟩) (q := ⟨_, 3, none⟩) (r := ⟨_, 4, none⟩) L.out L.out L.out (.bool true) (.int .i64 (rd x 14 2 / 8192)) (.int .i64 (rd x 14 2 % 8192)))
            replace G := Lib.hid (((G.out.own (p := ⟨_, 2, none⟩) HL.out (.bool true)).own (p := ⟨_, 3, none⟩) HL.out (.int .i64 (rd x 14 2 / 8192))).own (p := ⟨_, 4, none⟩) HL.out (.int .i64 (rd x 14 2 % 8192)))
            replace F := Lib.hid (F.out.tag (rd x 14 2 / 8192) (rd x 14 2 % 8192))
            by_cases h18 : x.size < 18
            · have E := Lib.hid (show prs x = none by unfold prs; rw [if_neg (by omega)]; rw [if_pos hT, if_neg (by omega)]; unfold fr2; rw [if_pos (by omega)])
              go_wp2_with fail
              refine (number_no b 16 2 (K := 2) rfl x hx (by decide) (by decide) (by omega) (by omega) _ R.out).mono ?_; rintro e wn ⟨rfl, ho⟩
              replace G := Lib.hid (Only.trans G.out ho)
              clear ho
              unfold bad
              go_wp2_with fail
              exact ⟨rfl, (dcR_no E.out).symm, G.out, fun h => absurd E.out h⟩
            · go_wp2_with fail
              refine (number_ok b 16 2 (K := 2) rfl x hx (by decide) (by decide) (by omega) _ R.out).mono ?_; rintro e wn ⟨rfl, hr, ho⟩
              replace R := Lib.hid hr
              replace Z := Lib.hid (Z.out.go ho N.out)
              replace F := Lib.hid (F.out.go ho M.out)
              replace G := Lib.hid (Only.trans G.out ho)
              clear hr ho
              by_cases hR : rd x 16 2 = 61889
              · have hq := rd_four x 18
                by_cases ha : x.size < 22
                · have E := Lib.hid (show prs x = none by unfold prs; rw [if_neg (by omega)]; rw [if_pos hT, if_neg (by omega)]; unfold fr2; rw [if_neg (by omega)]; rw [if_pos hR, if_pos (by omega)])
                  go_wp2_with fail
                  refine (number_no b 18 4 (K := 4) rfl x hx (by decide) (by decide) (by omega) (by omega) _ R.out).mono ?_; rintro e wn ⟨rfl, ho⟩
                  replace G := Lib.hid (Only.trans G.out ho)
                  clear ho
                  unfold bad
                  go_wp2_with fail
                  exact ⟨rfl, (dcR_no E.out).symm, G.out, fun h => absurd E.out h⟩
                · go_wp2_with fail
                  refine (number_ok b 18 4 (K := 4) rfl x hx (by decide) (by decide) (by omega) _ R.out).mono ?_; rintro e wn ⟨rfl, hr, ho⟩
                  replace R := Lib.hid hr
                  replace Z := Lib.hid (Z.out.go ho N.out)
                  replace F := Lib.hid (F.out.go ho M.out)
                  replace G := Lib.hid (Only.trans G.out ho)
                  clear hr ho
                  obtain ⟨c0, c1, c2, c3, c4, c5, c6, c7, c8⟩ := F.out.cells
                  obtain ⟨cf0, cf1, cf2, cf3, cf4, cf5, cf6, cf7, cf8⟩ := F.out.frozen
                  go_wp2_with fail
                  clear c0 c1 c2 c3 c4 c5 c6 c7 c8 cf0 cf1 cf2 cf3 cf4 cf5 cf6 cf7 cf8
                  replace R := Lib.hid (R.out.far2 (p := ⟨_, 5, none⟩) (q := ⟨_, 6, none⟩) M.out M.out (.bool true) (.int .i64 (rd x 18 4)))
                  replace Z := Lib.hid (Z.out.far2 (p := ⟨_, 5, none⟩) (q := ⟨_, 6, none⟩) L.out L.out (.bool true) (.int .i64 (rd x 18 4)))
                  replace G := Lib.hid ((G.out.own (p := ⟨_, 5, none⟩) HL.out (.bool true)).own (p := ⟨_, 6, none⟩) HL.out (.int .i64 (rd x 18 4)))
                  replace F := Lib.hid (F.out.red (rd x 18 4))
                  by_cases hb : x.size < 24
                  · have E := Lib.hid (show prs x = none by unfold prs; rw [if_neg (by omega)]; rw [if_pos hT, if_neg (by omega)]; unfold fr2; rw [if_neg (by omega)]; rw [if_pos hR, if_pos (by omega)])
                    go_wp2_with fail
                    refine (number_no b 22 2 (K := 2) rfl x hx (by decide) (by decide) (by omega) (by omega) _ R.out).mono ?_; rintro e wn ⟨rfl, ho⟩
                    replace G := Lib.hid (Only.trans G.out ho)
                    clear ho
                    unfold bad
                    go_wp2_with fail
                    exact ⟨rfl, (dcR_no E.out).symm, G.out, fun h => absurd E.out h⟩
                  · go_wp2_with fail
                    refine (number_ok b 22 2 (K := 2) rfl x hx (by decide) (by decide) (by omega) _ R.out).mono ?_; rintro e wn ⟨rfl, hr, ho⟩
                    replace R := Lib.hid hr
                    replace Z := Lib.hid (Z.out.go ho N.out)
                    replace F := Lib.hid (F.out.go ho M.out)
                    replace G := Lib.hid (Only.trans G.out ho)
                    clear hr ho
                    have hkb := rd_two x 22
                    by_cases hk : rd x 22 2 < 1536
                    · by_cases hl : (22 : Int) + 2 + rd x 22 2 ≤ x.size
                      · have E := Lib.hid (dcR_ok (x := x) (f := ⟨rd x 0 6, rd x 6 6, true, rd x 14 2 / 8192, rd x 14 2 % 8192, true, rd x 18 4, 0, x.extract (22 + 2) (22 + 2 + (rd x 22 2).toNat)⟩) (by unfold prs; rw [if_neg (by omega)]; rw [if_pos hT, if_neg (by omega)]; unfold fr2; rw [if_neg (by omega)]; rw [if_pos hR, if_neg (by omega)]; unfold fr3; rw [if_pos hk, if_pos (by omega)]))
                        obtain ⟨j, hj⟩ := Int.eq_ofNat_of_zero_le hkb.1
                        rw [hj] at E hk hkb
                        rw [Int.toNat_natCast] at E
                        have KT := Lib.hid (fun w hr => text_ok b (22 + 2) j rfl x hx (by rw [hj] at hl; omega) w hr)
                        generalize x.extract (22 + 2) (22 + 2 + j) = u at *
                        go_wp2_with fail
                        refine (KT.out _ R.out).mono ?_; rintro e wn ⟨rfl, hr, ho⟩
                        have C := Lib.hid hr.2.2.2
                        replace Z := Lib.hid (Z.out.go ho N.out)
                        replace F := Lib.hid (F.out.go ho M.out)
                        replace G := Lib.hid (Only.trans G.out ho)
                        clear hr ho KT
                        obtain ⟨c0, c1, c2, c3, c4, c5, c6, c7, c8⟩ := F.out.cells
                        obtain ⟨cf0, cf1, cf2, cf3, cf4, cf5, cf6, cf7, cf8⟩ := F.out.frozen
                        go_upto_region 12 with fail
                        clear c0 c1 c2 c3 c4 c5 c6 c7 c8 cf0 cf1 cf2 cf3 cf4 cf5 cf6 cf7 cf8
                        replace Z := Lib.hid (Z.out.far (p := ⟨_, 8, none⟩) L.out (.string u))
                        replace F := Lib.hid (F.out.data u)
                        replace G := Lib.hid (G.out.own (p := ⟨c, 8, none⟩) HL.out (.string u))
                        replace C := Lib.hid ((cell_far (q := ⟨c, 8, none⟩) M.out.symm (.string u)).trans C.out)
                        generalize wn.setCell ⟨c, 8, none⟩ (.string u) = wv at *
                        obtain ⟨c0, c1, c2, c3, c4, c5, c6, c7, c8⟩ := F.out.cells
                        obtain ⟨cf0, cf1, cf2, cf3, cf4, cf5, cf6, cf7, cf8⟩ := F.out.frozen
                        obtain ⟨z0, z1, z2, z3, z4, z5, z6, z7, z8⟩ := Z.out.cells
                        obtain ⟨zf0, zf1, zf2, zf3, zf4, zf5, zf6, zf7, zf8⟩ := Z.out.frozen
                        clear R Z F
                        go_wp2_with fail
                        refine bodyPost_ret (v := .agg #[.int .i64 (rd x 0 6), .int .i64 (rd x 6 6), .bool true, .int .i64 (rd x 14 2 / 8192), .int .i64 (rd x 14 2 % 8192), .bool true, .int .i64 (rd x 18 4), .int .i64 (0), .string (u)]) (by simp [results, Try.results40, go_sem, z0, z1, z2, z3, z4, z5, z6, z7, z8]) rfl ⟨E.out.symm, ?_, fun _ => (cell_far9 N.out.symm _ _ _ _ _ _ _ _ _).trans C.out⟩
                        exact (((((((((G.out.own HZ.out _).own HZ.out _).own HZ.out _).own HZ.out _).own HZ.out _).own HZ.out _).own HZ.out _).own HZ.out _).own HZ.out _)
                      · have E := Lib.hid (show prs x = none by unfold prs; rw [if_neg (by omega)]; rw [if_pos hT, if_neg (by omega)]; unfold fr2; rw [if_neg (by omega)]; rw [if_pos hR, if_neg (by omega)]; unfold fr3; rw [if_pos hk, if_neg (by omega)])
                        obtain ⟨j, hj⟩ := Int.eq_ofNat_of_zero_le hkb.1
                        have KT := Lib.hid (fun w hr => text_no b (22 + 2) j rfl x hx (by omega) (by omega) (by rw [hj] at hl; omega) w hr)
                        rw [hj] at hk
                        go_wp2_with fail
                        refine (KT.out _ R.out).mono ?_; rintro e wn ⟨rfl, ho⟩
                        replace G := Lib.hid (Only.trans G.out ho)
                        clear ho
                        unfold bad
                        go_wp2_with fail
                        exact ⟨rfl, (dcR_no E.out).symm, G.out, fun h => absurd E.out h⟩
                    · have E := Lib.hid (dcR_ok (x := x) (f := ⟨rd x 0 6, rd x 6 6, true, rd x 14 2 / 8192, rd x 14 2 % 8192, true, rd x 18 4, rd x 22 2, x.extract (22 + 2) x.size⟩) (by unfold prs; rw [if_neg (by omega)]; rw [if_pos hT, if_neg (by omega)]; unfold fr2; rw [if_neg (by omega)]; rw [if_pos hR, if_neg (by omega)]; unfold fr3; rw [if_neg hk]))
                      have KR := Lib.hid (fun w hr => rest_any b (22 + 2) x hx (by omega) w hr)
                      generalize x.extract (22 + 2) x.size = u at *
                      go_wp2_with fail
                      refine (KR.out _ R.out).mono ?_; rintro e wn ⟨rfl, ho, hc1⟩
                      have C := Lib.hid hc1
                      replace Z := Lib.hid (Z.out.go ho N.out)
                      replace F := Lib.hid (F.out.go ho M.out)
                      replace G := Lib.hid (Only.trans G.out ho)
                      clear ho hc1 KR
                      obtain ⟨c0, c1, c2, c3, c4, c5, c6, c7, c8⟩ := F.out.cells
                      obtain ⟨cf0, cf1, cf2, cf3, cf4, cf5, cf6, cf7, cf8⟩ := F.out.frozen
                      go_upto_region 14 with fail
                      clear c0 c1 c2 c3 c4 c5 c6 c7 c8 cf0 cf1 cf2 cf3 cf4 cf5 cf6 cf7 cf8
                      replace Z := Lib.hid (Z.out.far2 (p := ⟨_, 7, none⟩) (q := ⟨_, 8, none⟩) L.out L.out (.int .i64 (rd x 22 2)) (.string u))
                      replace F := Lib.hid (F.out.typ (rd x 22 2) u)
                      replace G := Lib.hid ((G.out.own (p := ⟨c, 7, none⟩) HL.out (.int .i64 (rd x 22 2))).own (p := ⟨c, 8, none⟩) HL.out (.string u))
                      replace C := Lib.hid ((cell_far (q := ⟨c, 8, none⟩) M.out.symm (.string u)).trans ((cell_far (q := ⟨c, 7, none⟩) M.out.symm (.int .i64 (rd x 22 2))).trans C.out))
                      generalize (wn.setCell ⟨c, 7, none⟩ (.int .i64 (rd x 22 2))).setCell ⟨c, 8, none⟩ (.string u) = wv at *
                      obtain ⟨c0, c1, c2, c3, c4, c5, c6, c7, c8⟩ := F.out.cells
                      obtain ⟨cf0, cf1, cf2, cf3, cf4, cf5, cf6, cf7, cf8⟩ := F.out.frozen
                      obtain ⟨z0, z1, z2, z3, z4, z5, z6, z7, z8⟩ := Z.out.cells
                      obtain ⟨zf0, zf1, zf2, zf3, zf4, zf5, zf6, zf7, zf8⟩ := Z.out.frozen
                      clear R Z F
                      go_wp2_with fail
                      refine bodyPost_ret (v := .agg #[.int .i64 (rd x 0 6), .int .i64 (rd x 6 6), .bool true, .int .i64 (rd x 14 2 / 8192), .int .i64 (rd x 14 2 % 8192), .bool true, .int .i64 (rd x 18 4), .int .i64 (rd x 22 2), .string (u)]) (by simp [results, Try.results40, go_sem, z0, z1, z2, z3, z4, z5, z6, z7, z8]) rfl ⟨E.out.symm, ?_, fun _ => (cell_far9 N.out.symm _ _ _ _ _ _ _ _ _).trans C.out⟩
                      exact (((((((((G.out.own HZ.out _).own HZ.out _).own HZ.out _).own HZ.out _).own HZ.out _).own HZ.out _).own HZ.out _).own HZ.out _).own HZ.out _)
              · have cR : (rd x 16 2 == 61889) = false := beq_eq_false_iff_ne.2 hR
                have hkb := rd_two x 16
                by_cases hk : rd x 16 2 < 1536
                · by_cases hl : (16 : Int) + 2 + rd x 16 2 ≤ x.size
                  · have E := Lib.hid (dcR_ok (x := x) (f := ⟨rd x 0 6, rd x 6 6, true, rd x 14 2 / 8192, rd x 14 2 % 8192, false, 0, 0, x.extract (16 + 2) (16 + 2 + (rd x 16 2).toNat)⟩) (by unfold prs; rw [if_neg (by omega)]; rw [if_pos hT, if_neg (by omega)]; unfold fr2; rw [if_neg (by omega)]; rw [if_neg hR]; unfold fr3; rw [if_pos hk, if_pos (by omega)]))
                    obtain ⟨j, hj⟩ := Int.eq_ofNat_of_zero_le hkb.1
                    rw [hj] at E hk hkb
                    rw [Int.toNat_natCast] at E
                    have KT := Lib.hid (fun w hr => text_ok b (16 + 2) j rfl x hx (by rw [hj] at hl; omega) w hr)
                    generalize x.extract (16 + 2) (16 + 2 + j) = u at *
                    go_wp2_with fail
                    refine (KT.out _ R.out).mono ?_; rintro e wn ⟨rfl, hr, ho⟩
                    have C := Lib.hid hr.2.2.2
                    replace Z := Lib.hid (Z.out.go ho N.out)
                    replace F := Lib.hid (F.out.go ho M.out)
                    replace G := Lib.hid (Only.trans G.out ho)
                    clear hr ho KT
                    obtain ⟨c0, c1, c2, c3, c4, c5, c6, c7, c8⟩ := F.out.cells
                    obtain ⟨cf0, cf1, cf2, cf3, cf4, cf5, cf6, cf7, cf8⟩ := F.out.frozen
                    go_upto_region 12 with fail
                    clear c0 c1 c2 c3 c4 c5 c6 c7 c8 cf0 cf1 cf2 cf3 cf4 cf5 cf6 cf7 cf8
                    replace Z := Lib.hid (Z.out.far (p := ⟨_, 8, none⟩) L.out (.string u))
                    replace F := Lib.hid (F.out.data u)
                    replace G := Lib.hid (G.out.own (p := ⟨c, 8, none⟩) HL.out (.string u))
                    replace C := Lib.hid ((cell_far (q := ⟨c, 8, none⟩) M.out.symm (.string u)).trans C.out)
                    generalize wn.setCell ⟨c, 8, none⟩ (.string u) = wv at *
                    obtain ⟨c0, c1, c2, c3, c4, c5, c6, c7, c8⟩ := F.out.cells
                    obtain ⟨cf0, cf1, cf2, cf3, cf4, cf5, cf6, cf7, cf8⟩ := F.out.frozen
                    obtain ⟨z0, z1, z2, z3, z4, z5, z6, z7, z8⟩ := Z.out.cells
                    obtain ⟨zf0, zf1, zf2, zf3, zf4, zf5, zf6, zf7, zf8⟩ := Z.out.frozen
                    clear R Z F
                    go_wp2_with fail
                    refine bodyPost_ret (v := .agg #[.int .i64 (rd x 0 6), .int .i64 (rd x 6 6), .bool true, .int .i64 (rd x 14 2 / 8192), .int .i64 (rd x 14 2 % 8192), .bool false, .int .i64 (0), .int .i64 (0), .string (u)]) (by simp [results, Try.results40, go_sem, z0, z1, z2, z3, z4, z5, z6, z7, z8]) rfl ⟨E.out.symm, ?_, fun _ => (cell_far9 N.out.symm _ _ _ _ _ _ _ _ _).trans C.out⟩
                    exact (((((((((G.out.own HZ.out _).own HZ.out _).own HZ.out _).own HZ.out _).own HZ.out _).own HZ.out _).own HZ.out _).own HZ.out _).own HZ.out _)
                  · have E := Lib.hid (show prs x = none by unfold prs; rw [if_neg (by omega)]; rw [if_pos hT, if_neg (by omega)]; unfold fr2; rw [if_neg (by omega)]; rw [if_neg hR]; unfold fr3; rw [if_pos hk, if_neg (by omega)])
                    obtain ⟨j, hj⟩ := Int.eq_ofNat_of_zero_le hkb.1
                    have KT := Lib.hid (fun w hr => text_no b (16 + 2) j rfl x hx (by omega) (by omega) (by rw [hj] at hl; omega) w hr)
                    rw [hj] at hk
                    go_wp2_with fail
                    refine (KT.out _ R.out).mono ?_; rintro e wn ⟨rfl, ho⟩
                    replace G := Lib.hid (Only.trans G.out ho)
                    clear ho
                    unfold bad
                    go_wp2_with fail
                    exact ⟨rfl, (dcR_no E.out).symm, G.out, fun h => absurd E.out h⟩
                · have E := Lib.hid (dcR_ok (x := x) (f := ⟨rd x 0 6, rd x 6 6, true, rd x 14 2 / 8192, rd x 14 2 % 8192, false, 0, rd x 16 2, x.extract (16 + 2) x.size⟩) (by unfold prs; rw [if_neg (by omega)]; rw [if_pos hT, if_neg (by omega)]; unfold fr2; rw [if_neg (by omega)]; rw [if_neg hR]; unfold fr3; rw [if_neg hk]))
                  have KR := Lib.hid (fun w hr => rest_any b (16 + 2) x hx (by omega) w hr)
                  generalize x.extract (16 + 2) x.size = u at *
                  go_wp2_with fail
                  refine (KR.out _ R.out).mono ?_; rintro e wn ⟨rfl, ho, hc1⟩
                  have C := Lib.hid hc1
                  replace Z := Lib.hid (Z.out.go ho N.out)
                  replace F := Lib.hid (F.out.go ho M.out)
                  replace G := Lib.hid (Only.trans G.out ho)
                  clear ho hc1 KR
                  obtain ⟨c0, c1, c2, c3, c4, c5, c6, c7, c8⟩ := F.out.cells
                  obtain ⟨cf0, cf1, cf2, cf3, cf4, cf5, cf6, cf7, cf8⟩ := F.out.frozen
                  go_upto_region 14 with fail
                  clear c0 c1 c2 c3 c4 c5 c6 c7 c8 cf0 cf1 cf2 cf3 cf4 cf5 cf6 cf7 cf8
                  replace Z := Lib.hid (Z.out.far2 (p := ⟨_, 7, none⟩) (q := ⟨_, 8, none⟩) L.out L.out (.int .i64 (rd x 16 2)) (.string u))
                  replace F := Lib.hid (F.out.typ (rd x 16 2) u)
                  replace G := Lib.hid ((G.out.own (p := ⟨c, 7, none⟩) HL.out (.int .i64 (rd x 16 2))).own (p := ⟨c, 8, none⟩) HL.out (.string u))
                  replace C := Lib.hid ((cell_far (q := ⟨c, 8, none⟩) M.out.symm (.string u)).trans ((cell_far (q := ⟨c, 7, none⟩) M.out.symm (.int .i64 (rd x 16 2))).trans C.out))
                  generalize (wn.setCell ⟨c, 7, none⟩ (.int .i64 (rd x 16 2))).setCell ⟨c, 8, none⟩ (.string u) = wv at *
                  obtain ⟨c0, c1, c2, c3, c4, c5, c6, c7, c8⟩ := F.out.cells
                  obtain ⟨cf0, cf1, cf2, cf3, cf4, cf5, cf6, cf7, cf8⟩ := F.out.frozen
                  obtain ⟨z0, z1, z2, z3, z4, z5, z6, z7, z8⟩ := Z.out.cells
                  obtain ⟨zf0, zf1, zf2, zf3, zf4, zf5, zf6, zf7, zf8⟩ := Z.out.frozen
                  clear R Z F
                  go_wp2_with fail
                  refine bodyPost_ret (v := .agg #[.int .i64 (rd x 0 6), .int .i64 (rd x 6 6), .bool true, .int .i64 (rd x 14 2 / 8192), .int .i64 (rd x 14 2 % 8192), .bool false, .int .i64 (0), .int .i64 (rd x 16 2), .string (u)]) (by simp [results, Try.results40, go_sem, z0, z1, z2, z3, z4, z5, z6, z7, z8]) rfl ⟨E.out.symm, ?_, fun _ => (cell_far9 N.out.symm _ _ _ _ _ _ _ _ _).trans C.out⟩
                  exact (((((((((G.out.own HZ.out _).own HZ.out _).own HZ.out _).own HZ.out _).own HZ.out _).own HZ.out _).own HZ.out _).own HZ.out _).own HZ.out _)
        · have cT : (rd x 12 2 == 33024) = false := beq_eq_false_iff_ne.2 hT
          by_cases hR : rd x 12 2 = 61889
          · have hq := rd_four x 14
            by_cases ha : x.size < 18
            · have E := Lib.hid (show prs x = none by unfold prs; rw [if_neg (by omega)]; rw [if_neg hT]; unfold fr2; rw [if_neg (by omega)]; rw [if_pos hR, if_pos (by omega)])
              go_wp2_with fail
              refine (number_no b 14 4 (K := 4) rfl x hx (by decide) (by decide) (by omega) (by omega) _ R.out).mono ?_; rintro e wn ⟨rfl, ho⟩
              replace G := Lib.hid (Only.trans G.out ho)
              clear ho
              unfold bad
              go_wp2_with fail
              exact ⟨rfl, (dcR_no E.out).symm, G.out, fun h => absurd E.out h⟩
            · go_wp2_with fail
              refine (number_ok b 14 4 (K := 4) rfl x hx (by decide) (by decide) (by omega) _ R.out).mono ?_; rintro e wn ⟨rfl, hr, ho⟩
              replace R := Lib.hid hr
              replace Z := Lib.hid (Z.out.go ho N.out)
              replace F := Lib.hid (F.out.go ho M.out)
              replace G := Lib.hid (Only.trans G.out ho)
              clear hr ho
              obtain ⟨c0, c1, c2, c3, c4, c5, c6, c7, c8⟩ := F.out.cells
              obtain ⟨cf0, cf1, cf2, cf3, cf4, cf5, cf6, cf7, cf8⟩ := F.out.frozen
              go_wp2_with fail
              clear c0 c1 c2 c3 c4 c5 c6 c7 c8 cf0 cf1 cf2 cf3 cf4 cf5 cf6 cf7 cf8
              replace R := Lib.hid (R.out.far2 (p := ⟨_, 5, none⟩) (q := ⟨_, 6, none⟩) M.out M.out (.bool true) (.int .i64 (rd x 14 4)))
              replace Z := Lib.hid (Z.out.far2 (p := ⟨_, 5, none⟩) (q := ⟨_, 6, none⟩) L.out L.out (.bool true) (.int .i64 (rd x 14 4)))
              replace G := Lib.hid ((G.out.own (p := ⟨_, 5, none⟩) HL.out (.bool true)).own (p := ⟨_, 6, none⟩) HL.out (.int .i64 (rd x 14 4)))
              replace F := Lib.hid (F.out.red (rd x 14 4))
              by_cases hb : x.size < 20
              · have E := Lib.hid (show prs x = none by unfold prs; rw [if_neg (by omega)]; rw [if_neg hT]; unfold fr2; rw [if_neg (by omega)]; rw [if_pos hR, if_pos (by omega)])
                go_wp2_with fail
                refine (number_no b 18 2 (K := 2) rfl x hx (by decide) (by decide) (by omega) (by omega) _ R.out).mono ?_; rintro e wn ⟨rfl, ho⟩
                replace G := Lib.hid (Only.trans G.out ho)
                clear ho
                unfold bad
                go_wp2_with fail
                exact ⟨rfl, (dcR_no E.out).symm, G.out, fun h => absurd E.out h⟩
              · go_wp2_with fail
                refine (number_ok b 18 2 (K := 2) rfl x hx (by decide) (by decide) (by omega) _ R.out).mono ?_; rintro e wn ⟨rfl, hr, ho⟩
                replace R := Lib.hid hr
                replace Z := Lib.hid (Z.out.go ho N.out)
                replace F := Lib.hid (F.out.go ho M.out)
                replace G := Lib.hid (Only.trans G.out ho)
                clear hr ho
                have hkb := rd_two x 18
                by_cases hk : rd x 18 2 < 1536
                · by_cases hl : (18 : Int) + 2 + rd x 18 2 ≤ x.size
                  · have E := Lib.hid (dcR_ok (x := x) (f := ⟨rd x 0 6, rd x 6 6, false, 0, 0, true, rd x 14 4, 0, x.extract (18 + 2) (18 + 2 + (rd x 18 2).toNat)⟩) (by unfold prs; rw [if_neg (by omega)]; rw [if_neg hT]; unfold fr2; rw [if_neg (by omega)]; rw [if_pos hR, if_neg (by omega)]; unfold fr3; rw [if_pos hk, if_pos (by omega)]))
                    obtain ⟨j, hj⟩ := Int.eq_ofNat_of_zero_le hkb.1
                    rw [hj] at E hk hkb
                    rw [Int.toNat_natCast] at E
                    have KT := Lib.hid (fun w hr => text_ok b (18 + 2) j rfl x hx (by rw [hj] at hl; omega) w hr)
                    generalize x.extract (18 + 2) (18 + 2 + j) = u at *
                    go_wp2_with fail
                    refine (KT.out _ R.out).mono ?_; rintro e wn ⟨rfl, hr, ho⟩
                    have C := Lib.hid hr.2.2.2
                    replace Z := Lib.hid (Z.out.go ho N.out)
                    replace F := Lib.hid (F.out.go ho M.out)
                    replace G := Lib.hid (Only.trans G.out ho)
                    clear hr ho KT
                    obtain ⟨c0, c1, c2, c3, c4, c5, c6, c7, c8⟩ := F.out.cells
                    obtain ⟨cf0, cf1, cf2, cf3, cf4, cf5, cf6, cf7, cf8⟩ := F.out.frozen
                    go_upto_region 12 with fail
                    clear c0 c1 c2 c3 c4 c5 c6 c7 c8 cf0 cf1 cf2 cf3 cf4 cf5 cf6 cf7 cf8
                    replace Z := Lib.hid (Z.out.far (p := ⟨_, 8, none⟩) L.out (.string u))
                    replace F := Lib.hid (F.out.data u)
                    replace G := Lib.hid (G.out.own (p := ⟨c, 8, none⟩) HL.out (.string u))
                    replace C := Lib.hid ((cell_far (q := ⟨c, 8, none⟩) M.out.symm (.string u)).trans C.out)
                    generalize wn.setCell ⟨c, 8, none⟩ (.string u) = wv at *
                    obtain ⟨c0, c1, c2, c3, c4, c5, c6, c7, c8⟩ := F.out.cells
                    obtain ⟨cf0, cf1, cf2, cf3, cf4, cf5, cf6, cf7, cf8⟩ := F.out.frozen
                    obtain ⟨z0, z1, z2, z3, z4, z5, z6, z7, z8⟩ := Z.out.cells
                    obtain ⟨zf0, zf1, zf2, zf3, zf4, zf5, zf6, zf7, zf8⟩ := Z.out.frozen
                    clear R Z F
                    go_wp2_with fail
                    refine bodyPost_ret (v := .agg #[.int .i64 (rd x 0 6), .int .i64 (rd x 6 6), .bool false, .int .i64 (0), .int .i64 (0), .bool true, .int .i64 (rd x 14 4), .int .i64 (0), .string (u)]) (by simp [results, Try.results40, go_sem, z0, z1, z2, z3, z4, z5, z6, z7, z8]) rfl ⟨E.out.symm, ?_, fun _ => (cell_far9 N.out.symm _ _ _ _ _ _ _ _ _).trans C.out⟩
                    exact (((((((((G.out.own HZ.out _).own HZ.out _).own HZ.out _).own HZ.out _).own HZ.out _).own HZ.out _).own HZ.out _).own HZ.out _).own HZ.out _)
                  · have E := Lib.hid (show prs x = none by unfold prs; rw [if_neg (by omega)]; rw [if_neg hT]; unfold fr2; rw [if_neg (by omega)]; rw [if_pos hR, if_neg (by omega)]; unfold fr3; rw [if_pos hk, if_neg (by omega)])
                    obtain ⟨j, hj⟩ := Int.eq_ofNat_of_zero_le hkb.1
                    have KT := Lib.hid (fun w hr => text_no b (18 + 2) j rfl x hx (by omega) (by omega) (by rw [hj] at hl; omega) w hr)
                    rw [hj] at hk
                    go_wp2_with fail
                    refine (KT.out _ R.out).mono ?_; rintro e wn ⟨rfl, ho⟩
                    replace G := Lib.hid (Only.trans G.out ho)
                    clear ho
                    unfold bad
                    go_wp2_with fail
                    exact ⟨rfl, (dcR_no E.out).symm, G.out, fun h => absurd E.out h⟩
                · have E := Lib.hid (dcR_ok (x := x) (f := ⟨rd x 0 6, rd x 6 6, false, 0, 0, true, rd x 14 4, rd x 18 2, x.extract (18 + 2) x.size⟩) (by unfold prs; rw [if_neg (by omega)]; rw [if_neg hT]; unfold fr2; rw [if_neg (by omega)]; rw [if_pos hR, if_neg (by omega)]; unfold fr3; rw [if_neg hk]))
                  have KR := Lib.hid (fun w hr => rest_any b (18 + 2) x hx (by omega) w hr)
                  generalize x.extract (18 + 2) x.size = u at *
                  go_wp2_with fail
                  refine (KR.out _ R.out).mono ?_; rintro e wn ⟨rfl, ho, hc1⟩
                  have C := Lib.hid hc1
                  replace Z := Lib.hid (Z.out.go ho N.out)
                  replace F := Lib.hid (F.out.go ho M.out)
                  replace G := Lib.hid (Only.trans G.out ho)
                  clear ho hc1 KR
                  obtain ⟨c0, c1, c2, c3, c4, c5, c6, c7, c8⟩ := F.out.cells
                  obtain ⟨cf0, cf1, cf2, cf3, cf4, cf5, cf6, cf7, cf8⟩ := F.out.frozen
                  go_upto_region 14 with fail
                  clear c0 c1 c2 c3 c4 c5 c6 c7 c8 cf0 cf1 cf2 cf3 cf4 cf5 cf6 cf7 cf8
                  replace Z := Lib.hid (Z.out.far2 (p := ⟨_, 7, none⟩) (q := ⟨_, 8, none⟩) L.out L.out (.int .i64 (rd x 18 2)) (.string u))
                  replace F := Lib.hid (F.out.typ (rd x 18 2) u)
                  replace G := Lib.hid ((G.out.own (p := ⟨c, 7, none⟩) HL.out (.int .i64 (rd x 18 2))).own (p := ⟨c, 8, none⟩) HL.out (.string u))
                  replace C := Lib.hid ((cell_far (q := ⟨c, 8, none⟩) M.out.symm (.string u)).trans ((cell_far (q := ⟨c, 7, none⟩) M.out.symm (.int .i64 (rd x 18 2))).trans C.out))
                  generalize (wn.setCell ⟨c, 7, none⟩ (.int .i64 (rd x 18 2))).setCell ⟨c, 8, none⟩ (.string u) = wv at *
                  obtain ⟨c0, c1, c2, c3, c4, c5, c6, c7, c8⟩ := F.out.cells
                  obtain ⟨cf0, cf1, cf2, cf3, cf4, cf5, cf6, cf7, cf8⟩ := F.out.frozen
                  obtain ⟨z0, z1, z2, z3, z4, z5, z6, z7, z8⟩ := Z.out.cells
                  obtain ⟨zf0, zf1, zf2, zf3, zf4, zf5, zf6, zf7, zf8⟩ := Z.out.frozen
                  clear R Z F
                  go_wp2_with fail
                  refine bodyPost_ret (v := .agg #[.int .i64 (rd x 0 6), .int .i64 (rd x 6 6), .bool false, .int .i64 (0), .int .i64 (0), .bool true, .int .i64 (rd x 14 4), .int .i64 (rd x 18 2), .string (u)]) (by simp [results, Try.results40, go_sem, z0, z1, z2, z3, z4, z5, z6, z7, z8]) rfl ⟨E.out.symm, ?_, fun _ => (cell_far9 N.out.symm _ _ _ _ _ _ _ _ _).trans C.out⟩
                  exact (((((((((G.out.own HZ.out _).own HZ.out _).own HZ.out _).own HZ.out _).own HZ.out _).own HZ.out _).own HZ.out _).own HZ.out _).own HZ.out _)
          · have cR : (rd x 12 2 == 61889) = false := beq_eq_false_iff_ne.2 hR
            have hkb := rd_two x 12
            by_cases hk : rd x 12 2 < 1536
            · by_cases hl : (12 : Int) + 2 + rd x 12 2 ≤ x.size
              · have E := Lib.hid (dcR_ok (x := x) (f := ⟨rd x 0 6, rd x 6 6, false, 0, 0, false, 0, 0, x.extract (12 + 2) (12 + 2 + (rd x 12 2).toNat)⟩) (by unfold prs; rw [if_neg (by omega)]; rw [if_neg hT]; unfold fr2; rw [if_neg (by omega)]; rw [if_neg hR]; unfold fr3; rw [if_pos hk, if_pos (by omega)]))
                obtain ⟨j, hj⟩ := Int.eq_ofNat_of_zero_le hkb.1
                rw [hj] at E hk hkb
                rw [Int.toNat_natCast] at E
                have KT := Lib.hid (fun w hr => text_ok b (12 + 2) j rfl x hx (by rw [hj] at hl; omega) w hr)
                generalize x.extract (12 + 2) (12 + 2 + j) = u at *
                go_wp2_with fail
                refine (KT.out _ R.out).mono ?_; rintro e wn ⟨rfl, hr, ho⟩
                have C := Lib.hid hr.2.2.2
                replace Z := Lib.hid (Z.out.go ho N.out)
                replace F := Lib.hid (F.out.go ho M.out)
                replace G := Lib.hid (Only.trans G.out ho)
                clear hr ho KT
                obtain ⟨c0, c1, c2, c3, c4, c5, c6, c7, c8⟩ := F.out.cells
                obtain ⟨cf0, cf1, cf2, cf3, cf4, cf5, cf6, cf7, cf8⟩ := F.out.frozen
                go_upto_region 12 with fail
                clear c0 c1 c2 c3 c4 c5 c6 c7 c8 cf0 cf1 cf2 cf3 cf4 cf5 cf6 cf7 cf8
                replace Z := Lib.hid (Z.out.far (p := ⟨_, 8, none⟩) L.out (.string u))
                replace F := Lib.hid (F.out.data u)
                replace G := Lib.hid (G.out.own (p := ⟨c, 8, none⟩) HL.out (.string u))
                replace C := Lib.hid ((cell_far (q := ⟨c, 8, none⟩) M.out.symm (.string u)).trans C.out)
                generalize wn.setCell ⟨c, 8, none⟩ (.string u) = wv at *
                obtain ⟨c0, c1, c2, c3, c4, c5, c6, c7, c8⟩ := F.out.cells
                obtain ⟨cf0, cf1, cf2, cf3, cf4, cf5, cf6, cf7, cf8⟩ := F.out.frozen
                obtain ⟨z0, z1, z2, z3, z4, z5, z6, z7, z8⟩ := Z.out.cells
                obtain ⟨zf0, zf1, zf2, zf3, zf4, zf5, zf6, zf7, zf8⟩ := Z.out.frozen
                clear R Z F
                go_wp2_with fail
                refine bodyPost_ret (v := .agg #[.int .i64 (rd x 0 6), .int .i64 (rd x 6 6), .bool false, .int .i64 (0), .int .i64 (0), .bool false, .int .i64 (0), .int .i64 (0), .string (u)]) (by simp [results, Try.results40, go_sem, z0, z1, z2, z3, z4, z5, z6, z7, z8]) rfl ⟨E.out.symm, ?_, fun _ => (cell_far9 N.out.symm _ _ _ _ _ _ _ _ _).trans C.out⟩
                exact (((((((((G.out.own HZ.out _).own HZ.out _).own HZ.out _).own HZ.out _).own HZ.out _).own HZ.out _).own HZ.out _).own HZ.out _).own HZ.out _)
              · have E := Lib.hid (show prs x = none by unfold prs; rw [if_neg (by omega)]; rw [if_neg hT]; unfold fr2; rw [if_neg (by omega)]; rw [if_neg hR]; unfold fr3; rw [if_pos hk, if_neg (by omega)])
                obtain ⟨j, hj⟩ := Int.eq_ofNat_of_zero_le hkb.1
                have KT := Lib.hid (fun w hr => text_no b (12 + 2) j rfl x hx (by omega) (by omega) (by rw [hj] at hl; omega) w hr)
                rw [hj] at hk
                go_wp2_with fail
                refine (KT.out _ R.out).mono ?_; rintro e wn ⟨rfl, ho⟩
                replace G := Lib.hid (Only.trans G.out ho)
                clear ho
                unfold bad
                go_wp2_with fail
                exact ⟨rfl, (dcR_no E.out).symm, G.out, fun h => absurd E.out h⟩
            · have E := Lib.hid (dcR_ok (x := x) (f := ⟨rd x 0 6, rd x 6 6, false, 0, 0, false, 0, rd x 12 2, x.extract (12 + 2) x.size⟩) (by unfold prs; rw [if_neg (by omega)]; rw [if_neg hT]; unfold fr2; rw [if_neg (by omega)]; rw [if_neg hR]; unfold fr3; rw [if_neg hk]))
              have KR := Lib.hid (fun w hr => rest_any b (12 + 2) x hx (by omega) w hr)
              generalize x.extract (12 + 2) x.size = u at *
              go_wp2_with fail
              refine (KR.out _ R.out).mono ?_; rintro e wn ⟨rfl, ho, hc1⟩
              have C := Lib.hid hc1
              replace Z := Lib.hid (Z.out.go ho N.out)
              replace F := Lib.hid (F.out.go ho M.out)
              replace G := Lib.hid (Only.trans G.out ho)
              clear ho hc1 KR
              obtain ⟨c0, c1, c2, c3, c4, c5, c6, c7, c8⟩ := F.out.cells
              obtain ⟨cf0, cf1, cf2, cf3, cf4, cf5, cf6, cf7, cf8⟩ := F.out.frozen
              go_upto_region 14 with fail
              clear c0 c1 c2 c3 c4 c5 c6 c7 c8 cf0 cf1 cf2 cf3 cf4 cf5 cf6 cf7 cf8
              replace Z := Lib.hid (Z.out.far2 (p := ⟨_, 7, none⟩) (q := ⟨_, 8, none⟩) L.out L.out (.int .i64 (rd x 12 2)) (.string u))
              replace F := Lib.hid (F.out.typ (rd x 12 2) u)
              replace G := Lib.hid ((G.out.own (p := ⟨c, 7, none⟩) HL.out (.int .i64 (rd x 12 2))).own (p := ⟨c, 8, none⟩) HL.out (.string u))
              replace C := Lib.hid ((cell_far (q := ⟨c, 8, none⟩) M.out.symm (.string u)).trans ((cell_far (q := ⟨c, 7, none⟩) M.out.symm (.int .i64 (rd x 12 2))).trans C.out))
              generalize (wn.setCell ⟨c, 7, none⟩ (.int .i64 (rd x 12 2))).setCell ⟨c, 8, none⟩ (.string u) = wv at *
              obtain ⟨c0, c1, c2, c3, c4, c5, c6, c7, c8⟩ := F.out.cells
              obtain ⟨cf0, cf1, cf2, cf3, cf4, cf5, cf6, cf7, cf8⟩ := F.out.frozen
              obtain ⟨z0, z1, z2, z3, z4, z5, z6, z7, z8⟩ := Z.out.cells
              obtain ⟨zf0, zf1, zf2, zf3, zf4, zf5, zf6, zf7, zf8⟩ := Z.out.frozen
              clear R Z F
              go_wp2_with fail
              refine bodyPost_ret (v := .agg #[.int .i64 (rd x 0 6), .int .i64 (rd x 6 6), .bool false, .int .i64 (0), .int .i64 (0), .bool false, .int .i64 (0), .int .i64 (rd x 12 2), .string (u)]) (by simp [results, Try.results40, go_sem, z0, z1, z2, z3, z4, z5, z6, z7, z8]) rfl ⟨E.out.symm, ?_, fun _ => (cell_far9 N.out.symm _ _ _ _ _ _ _ _ _).trans C.out⟩
              exact (((((((((G.out.own HZ.out _).own HZ.out _).own HZ.out _).own HZ.out _).own HZ.out _).own HZ.out _).own HZ.out _).own HZ.out _).own HZ.out _)

end Go.Proofs.Ytmhdgpmlconngaa
