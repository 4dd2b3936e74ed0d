/-
  What Drain of the reference returns.
-/
import Derived.Test.YtgbbglnbolihfaaDa
import Derived.Test.YtgbbglnbolihfaaCv
import Derived.OwnWalk
import Derived.Deep.AppendLies
import Derived.Deep.OwnRows
namespace Go.Proofs.Ytgbbglnbolihfaa
open Go.RowKit Go.Deep

/-- n integers, as values. -/
def ivs (f : Nat → Int) (n : Nat) : List Value := (List.range n).map fun k => .int .i64 (f k)
theorem ivs_succ (f : Nat → Int) (n : Nat) : ivs f (n + 1) = ivs f n ++ [.int .i64 (f n)] := by simp [ivs, List.range_succ]
theorem iv_of_own {w : World} {base n : Nat} {v : Value} {f : Nat → Int} (h : w.ownsRow base 3 1 v n (ivs f n)) : ∃ A c, v = .slice A n c ∧ Iv w A n f := by
  rcases h.2 with ⟨rfl, rfl⟩ | ⟨g, cap, cur, rfl, _, hheap, hn, _, hsz, htake⟩
  · exact ⟨none, 0, rfl, fun k hk => absurd hk (by omega)⟩
  · refine ⟨_, _, rfl, fun k hk => ⟨g, 0, rfl, ?_⟩⟩
    have h1 : cur.toList[k]? = some (.int .i64 (f k)) := by
      have e : (cur.toList.take (n * 1))[k]? = (ivs f n)[k]? := by rw [htake]
      rw [List.getElem?_take_of_lt (by omega)] at e
      rw [e]
      simp [ivs, hk]
    unfold World.cell?
    simp only [hheap]
    simpa using h1

set_option maxRecDepth 100000 in
set_option maxHeartbeats 4000000 in
theorem rdrain_any (xs : List (Int × Int)) (A : Option Addr) (cap : Nat) (r l : Int) (w : World) (hn : (xs.length : Int) ≤ 9223372036854775807) (hT : Tr w A xs) :
    Calls Try.prog 41 #[.slice A xs.length cap, .agg #[.int .i64 r, .int .i64 l]] w fun e w' => ∃ B m c, e = .returned (.tuple #[.slice B m c, .int .i64 (drE xs r l)]) ∧ m = (if drE xs r l = 0 then xs.length else 0) ∧ Iv w' B m (dep xs r l) ∧ Bl w w' := by
  have HT := Lib.hid hT; clear hT
  rcases bcase (rtB xs) with h1 | h1
  · have K1 := Lib.hid (fun w (h : Tr w A xs) => by have := rightTrace_any xs A cap w hn h; rw [h1] at this; exact this)
    rcases bcase (svB r l) with h2 | h2
    · have K2 := Lib.hid (fun w => sright_v h2 w)
      have e0 : drE xs r l = 0 := drE_ok.2 ⟨h1, h2⟩
      rw [e0, if_pos rfl]
      obtain ⟨hlen, hok⟩ := rtB_iff.1 h1
      obtain ⟨⟨r1, r2⟩, l1, l2⟩ := svB_iff.1 h2
      have OK := Lib.hid hok
      have HM := Lib.hid (fun j (hj : j < xs.length) => rmx_dep (l := l) r1 l1 j (fun k hk => hok k (by omega)))
      have HB := Lib.hid (fun j (hj : j < xs.length) m hm => szr_bd (xs := xs) (j := j) (m := m) (fun k hk => hok k (by omega)) hm)
      obtain ⟨i0, hi, hz0, hz1, hz2⟩ := info_parts info_int
      have HI := Lib.hid (And.intro hi (And.intro hz0 (And.intro hz1 hz2)))
      clear h1 h2 e0 hok hi hz0 hz1 hz2
      go_enter Try.func41, Try.ntmps41
      go_wp2_with fail
      refine (K1.out _ (HT.out.go ((Bl.refl w).alloc _))).mono ?_; rintro e W ⟨rfl, rfl⟩
      have SA := Lib.hid (Sl.new w r l 54)
      have B0 := Lib.hid ((Bl.refl w).alloc (.cells #[.int .i64 r, .int .i64 l] 54))
      generalize (w.alloc (.cells #[.int .i64 r, .int .i64 l] 54)) = W0 at *
      generalize w.heap.size = a at *
      have c0 := SA.out.c0
      have c1 := SA.out.c1
      go_wp2_with fail
      refine (K2.out _).mono ?_; rintro e W ⟨rfl, gr⟩
      have SA1 := Lib.hid (SA.out.go gr)
      have B1 := Lib.hid (B0.out.trans gr)
      have T1 := Lib.hid (HT.out.go B1.out)
      clear gr c0 c1 SA B0 K1 K2
      go_wp2_with fail
      go_loopw [6, 7] (fun v jv wr => ∃ j : Nat, j ≤ xs.length ∧ jv = .int .i64 j ∧ Hid (wr.ownsRow W.heap.size 3 1 v j (ivs (dep xs r l) j)) ∧ Hid (Bl W wr)) (fun _ jv _ => xs.length - (intOf jv).toNat)
      case atStart => exact ⟨0, Nat.zero_le _, rfl, World.ownsRow_nil _ _ _ _, Bl.refl _⟩
      case round =>
        obtain ⟨j, hj, rfl, hown, hw⟩ := hrel
        by_cases hlt : j < xs.length
        · go_wp2_with fail
          go_loopw [8, 9, 10] (fun mv sv iv wi => ∃ m : Nat, m ≤ j + 1 ∧ iv = .int .i64 ((j : Int) - (m : Int)) ∧ sv = .int .i64 (szr xs j m) ∧ mv = .int .i64 (rmx xs r l j m) ∧ Hid (∃ n, wi = wr.drewN n)) (fun _ _ iv _ => (intOf iv + 1).toNat)
          case atStart => exact ⟨0, by omega, by simp, rfl, rfl, Lib.hid ⟨0, rfl⟩⟩
          case round =>
            obtain ⟨m, hm, rfl, rfl, rfl, hwi⟩ := hrel
            obtain ⟨n7, rfl⟩ := hwi.out
            clear hwi
            by_cases hlm : m ≤ j
            · obtain ⟨i, hi⟩ : ∃ i : Nat, i + m = j := ⟨j - m, by omega⟩
              have ei : (j : Int) - (m : Int) = (i : Int) := by omega
              rw [ei]
              have hil : i < xs.length := by omega
              obtain ⟨b, off, rfl, hb, d0, d1⟩ := (T1.out.go (hw.out.trans ((Bl.refl wr).drewN n7))) i hil
              have e1 : szr xs j (m + 1) = szr xs j m + sn xs i := by show szr xs j m + sn xs (j - m) = _; rw [show j - m = i by omega]
              have e2 : rmx xs r l j (m + 1) = max (rmx xs r l j m) (fs xs i + l + cl (szr xs j (m + 1) * 1048576) r) := by show max _ (fs xs (j - m) + l + _) = _; rw [show j - m = i by omega]
              have sb := HB.out j hlt (m + 1) (by omega)
              have ok := OK.out i hil
              have pv := prev_bd (xs := xs) (k := i) (fun k hk => OK.out k (by omega))
              unfold okAt at ok
              obtain ⟨t, ht⟩ : ∃ t, fs xs i = t := ⟨_, rfl⟩
              obtain ⟨z, hz⟩ : ∃ z, sn xs i = z := ⟨_, rfl⟩
              obtain ⟨S, hS⟩ : ∃ S, szr xs j m = S := ⟨_, rfl⟩
              obtain ⟨S', hS'⟩ : ∃ S, szr xs j (m + 1) = S := ⟨_, rfl⟩
              obtain ⟨M, hM⟩ : ∃ M, rmx xs r l j m = M := ⟨_, rfl⟩
              rw [ht] at d0 e2 ok
              rw [hz] at d1 e1
              rw [hS, hS'] at e1
              rw [hS'] at e2 sb
              rw [hM] at e2
              rw [hS, hM]
              obtain ⟨q, hq⟩ : ∃ q, cl (S' * 1048576) r = q := ⟨_, rfl⟩
              rw [hq] at e2
              have hm200 : (m : Int) ≤ 199 := by omega
              have q0 : 0 ≤ q ∧ q ≤ S' * 1048576 := by rw [← hq]; exact ⟨cl_nonneg (by omega) (by omega), cl_self_le (by omega) (by omega)⟩
              have KC := Lib.hid (fun w => rceil_v hq (by omega) (by omega) w)
              have w1 : IntKind.i64.wrap (S + z) = S' := by rw [← e1]; exact IntWalk.i64_in _ (by omega)
              have w2 : IntKind.i64.wrap (t + l) = t + l := IntWalk.i64_in _ (by omega)
              have w3 : IntKind.i64.wrap (S' * 1048576) = S' * 1048576 := IntWalk.i64_in _ (by omega)
              have w4 : IntKind.i64.wrap (t + l + q) = t + l + q := IntWalk.i64_in _ (by omega)
              have w5 : IntKind.i64.wrap ((i : Int) - 1) = (i : Int) - 1 := IntWalk.i64_in _ (by omega)
              have s0 := (SA1.out.go hw.out).c0
              have s1 := (SA1.out.go hw.out).c1
              have EE := Lib.hid (And.intro hS' e2)
              have hi0 : (0 : Int) ≤ (i : Int) := by omega
              have hil' : (i : Int) < (xs.length : Int) := by omega
              clear e1 sb ok pv ht hz hS hS' hM hq e2 ei
              have HDD := Lib.hid (show ∀ w', (∃ n, w' = wr.drewN n) → (w'.cell? ⟨b, off + i * 2, none⟩ = some (.int .i64 t) ∧ w'.cell? ⟨a, 0, none⟩ = some (.int .i64 r) ∧ w'.cell? ⟨a, 1, none⟩ = some (.int .i64 l) ∧ Hid (∃ n, w' = wr.drewN n)) from fun w' g => by
                obtain ⟨n, rfl⟩ := g
                exact ⟨d0, s0, s1, n, rfl⟩)
              by_cases hmx : M < t + l + q
              · have hmax : max M (t + l + q) = t + l + q := by omega
                go_wp2_with fail
                go_region_held3 (fun w' => w'.cell? ⟨b, off + i * 2, none⟩ = some (.int .i64 t) ∧ w'.cell? ⟨a, 0, none⟩ = some (.int .i64 r) ∧ w'.cell? ⟨a, 1, none⟩ = some (.int .i64 l) ∧ Hid (∃ n, w' = wr.drewN n))
                  (first | with_reducible assumption | exact HDD.out _ ⟨n7 + 1, rfl⟩ | exact HDD.out _ ⟨n7, rfl⟩ | fail)
                  (first | (go_at_call 62; (with_reducible refine (KC.out _).mono ?_); rintro e w9 ⟨rfl, rfl⟩) | fail)
                all_goals go_wp2_with fail
                all_goals go_roundw
                all_goals first
                  | (simp [intOf] <;> omega)
                  | exact ⟨m + 1, by omega, by go_num, by rw [EE.out.1], by rw [EE.out.2, hmax]; (try rw [if_neg (by omega)]); (try rw [if_pos (by omega)]), And.right (And.right (And.right (by assumption : _ ∧ _ ∧ _ ∧ Hid (∃ n, _ = wr.drewN n))))⟩
              · have hmax : max M (t + l + q) = M := by omega
                go_wp2_with fail
                go_region_held3 (fun w' => w'.cell? ⟨b, off + i * 2, none⟩ = some (.int .i64 t) ∧ w'.cell? ⟨a, 0, none⟩ = some (.int .i64 r) ∧ w'.cell? ⟨a, 1, none⟩ = some (.int .i64 l) ∧ Hid (∃ n, w' = wr.drewN n))
                  (first | with_reducible assumption | exact HDD.out _ ⟨n7 + 1, rfl⟩ | exact HDD.out _ ⟨n7, rfl⟩ | fail)
                  (first | (go_at_call 62; (with_reducible refine (KC.out _).mono ?_); rintro e w9 ⟨rfl, rfl⟩) | fail)
                all_goals go_wp2_with fail
                all_goals go_roundw
                all_goals first
                  | (simp [intOf] <;> omega)
                  | exact ⟨m + 1, by omega, by go_num, by rw [EE.out.1], by rw [EE.out.2, hmax]; (try rw [if_neg (by omega)]); (try rw [if_pos (by omega)]), And.right (And.right (And.right (by assumption : _ ∧ _ ∧ _ ∧ Hid (∃ n, _ = wr.drewN n))))⟩
            · have em : m = j + 1 := by omega
              subst em
              have eneg : (j : Int) - ((j + 1 : Nat) : Int) = -1 := by omega
              rw [eneg, HM.out j hlt]
              obtain ⟨D, hD⟩ : ∃ D, dep xs r l j = D := ⟨_, rfl⟩
              rw [hD]
              have hown' : (wr.drewN n7).ownsRow W.heap.size 3 1 u6 j (ivs (dep xs r l) j) := hown.out
              have E1 := Lib.hid (show ivs (dep xs r l) (j + 1) = ivs (dep xs r l) j ++ [.int .i64 D] by rw [ivs_succ, hD])
              clear hD
              have hwd := Lib.hid (hw.out.drewN n7)
              generalize wr.drewN n7 = wd at *
              go_wp2_with (at_builtin; refine wpList_append_lies _ rfl _ _ _ rfl W.heap.size 3 i0 _ 1 8 Try.underlying74 HI.out.1 HI.out.2.1 HI.out.2.2.1 HI.out.2.2.2 rfl (by omega) _ j (ivs (dep xs r l) j) rfl (hown'.alloc _) ⟨wd.heap.size, 0, none⟩ 1 1 [.int .i64 D] rfl rfl (World.news_of_block (cs := #[.int .i64 D]) (t := 3) (fr := (0, 0)) (heap_alloc_new wd _)) (by simp [Value.oneCell']) (by omega) (by unfold maxLen; omega) (by omega) (by have := hwd.out.size; simp; omega) (wd.heap.size + 1) (by simp) ?_; intro gg cap' w1 hown1 hgrow hat hlt3)
              have HW2 := Lib.hid (Bl.grownBy (hwd.out.alloc _) hgrow (fun j e => own_block_ge hown.out j e))
              have HO2 := Lib.hid hown1
              clear hgrow hat hlt3 hown1
              go_roundw
              case rel => exact ⟨j + 1, by omega, by go_num, by rw [E1.out]; exact HO2.out, HW2.out⟩
              case measure => simp [intOf]; omega
        · obtain rfl : j = xs.length := by omega
          obtain ⟨B, c, rfl, hI⟩ := iv_of_own hown.out
          have HII := Lib.hid hI
          clear hown hI
          go_wp2_with fail
          go_ret2
          exact ⟨B, _, c, rfl, rfl, HII.out, B1.out.trans hw.out⟩
    · have K2 := Lib.hid (fun w => sright_v h2 w)
      have e0 : drE xs r l = 140 := by unfold drE; rw [if_pos h1, svE_f h2]
      rw [e0, if_neg (by decide)]
      clear h1 h2 e0
      go_enter Try.func41, Try.ntmps41
      go_wp2_with fail
      refine (K1.out _ (HT.out.go ((Bl.refl w).alloc _))).mono ?_; rintro e W ⟨rfl, rfl⟩
      go_wp2_with fail
      refine (K2.out _).mono ?_; rintro e W ⟨rfl, gr⟩
      have B1 := Lib.hid (Bl.trans ((Bl.refl w).alloc _) gr)
      clear gr
      go_wp2_with fail
      go_ret2
      exact ⟨none, 0, 0, rfl, rfl, fun k hk => absurd hk (by omega), B1.out⟩
  · have K1 := Lib.hid (fun w (h : Tr w A xs) => by have := rightTrace_any xs A cap w hn h; rw [h1] at this; exact this)
    have e0 : drE xs r l = 131 := by unfold drE; rw [if_neg (by rw [h1]; decide)]
    rw [e0, if_neg (by decide)]
    clear h1 e0
    go_enter Try.func41, Try.ntmps41
    go_wp2_with fail
    refine (K1.out _ (HT.out.go ((Bl.refl w).alloc _))).mono ?_; rintro e W ⟨rfl, rfl⟩
    go_wp2_with fail
    go_ret2
    exact ⟨none, 0, 0, rfl, rfl, fun k hk => absurd hk (by omega), (Bl.refl w).alloc _⟩

end Go.Proofs.Ytgbbglnbolihfaa
