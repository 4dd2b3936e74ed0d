/-
  What works of the law's package returns: true.
-/
import Derived.Test.YtajlcagbfebbjaaBq
namespace Go.Proofs.Ytajlcagbfebbjaa
open Go.RowKit

theorem tr_new2 (W : World) (a b c d : Int) (t : TypeId) : Tr (W.alloc (.cells #[.int .i64 a, .int .i64 b, .int .i64 c, .int .i64 d] t)) (some ⟨W.heap.size, 0, none⟩) [(a, b), (c, d)] := fun k hk => by
  match k, hk with
  | 0, _ => exact ⟨_, _, rfl, by simp, by simp [go_sem, fs], by simp [go_sem, sn]⟩
  | 1, _ => exact ⟨_, _, rfl, by simp, by simp [go_sem, fs], by simp [go_sem, sn]⟩
theorem tr_new3 (W : World) (a b c d e f : Int) (t : TypeId) : Tr (W.alloc (.cells #[.int .i64 a, .int .i64 b, .int .i64 c, .int .i64 d, .int .i64 e, .int .i64 f] t)) (some ⟨W.heap.size, 0, none⟩) [(a, b), (c, d), (e, f)] := fun k hk => by
  match k, hk with
  | 0, _ => exact ⟨_, _, rfl, by simp, by simp [go_sem, fs], by simp [go_sem, sn]⟩
  | 1, _ => exact ⟨_, _, rfl, by simp, by simp [go_sem, fs], by simp [go_sem, sn]⟩
  | 2, _ => exact ⟨_, _, rfl, by simp, by simp [go_sem, fs], by simp [go_sem, sn]⟩
theorem Tr.drew {w : World} {A : Option Addr} {xs : List (Int × Int)} (h : Tr w A xs) : Tr w.drew A xs := h
theorem trace2 (a b c d : Int) (W : World) :
    Calls Try.prog 11 #[.slice (some ⟨W.heap.size, 0, none⟩) 4 4] (W.alloc (.cells #[.int .i64 a, .int .i64 b, .int .i64 c, .int .i64 d] 3)) (TrRes (W.alloc (.cells #[.int .i64 a, .int .i64 b, .int .i64 c, .int .i64 d] 3)) [(a, b), (c, d)]) :=
  trace_any _ _ _ _ _ rfl (by simp) (tr_new2 W a b c d _) (by simp)
theorem trace2d (a b c d : Int) (W : World) :
    Calls Try.prog 11 #[.slice (some ⟨W.heap.size, 0, none⟩) 4 4] (W.alloc (.cells #[.int .i64 a, .int .i64 b, .int .i64 c, .int .i64 d] 3)).drew (TrRes (W.alloc (.cells #[.int .i64 a, .int .i64 b, .int .i64 c, .int .i64 d] 3)).drew [(a, b), (c, d)]) :=
  trace_any _ _ _ _ _ rfl (by simp) (tr_new2 W a b c d _).drew (by simp)
theorem trace3 (a b c d e f : Int) (W : World) :
    Calls Try.prog 11 #[.slice (some ⟨W.heap.size, 0, none⟩) 6 6] (W.alloc (.cells #[.int .i64 a, .int .i64 b, .int .i64 c, .int .i64 d, .int .i64 e, .int .i64 f] 3)) (TrRes (W.alloc (.cells #[.int .i64 a, .int .i64 b, .int .i64 c, .int .i64 d, .int .i64 e, .int .i64 f] 3)) [(a, b), (c, d), (e, f)]) :=
  trace_any _ _ _ _ _ rfl (by simp) (tr_new3 W a b c d e f _) (by simp)
theorem trace3d (a b c d e f : Int) (W : World) :
    Calls Try.prog 11 #[.slice (some ⟨W.heap.size, 0, none⟩) 6 6] (W.alloc (.cells #[.int .i64 a, .int .i64 b, .int .i64 c, .int .i64 d, .int .i64 e, .int .i64 f] 3)).drew (TrRes (W.alloc (.cells #[.int .i64 a, .int .i64 b, .int .i64 c, .int .i64 d, .int .i64 e, .int .i64 f] 3)).drew [(a, b), (c, d), (e, f)]) :=
  trace_any _ _ _ _ _ rfl (by simp) (tr_new3 W a b c d e f _).drew (by simp)
theorem S2.alloc {a : Nat} {u R : Int} {w0 w1 : World} (o : Obj) (h : w1.cell? ⟨a, 0, none⟩ = some (.int .i64 u) ∧ w1.cell? ⟨a, 1, none⟩ = some (.int .i64 R) ∧ Hid (Two a u R w0 w1)) : (w1.alloc o).cell? ⟨a, 0, none⟩ = some (.int .i64 u) ∧ (w1.alloc o).cell? ⟨a, 1, none⟩ = some (.int .i64 R) ∧ Hid (Two a u R w0 (w1.alloc o)) :=
  S2.of (h.2.2.out.go ((Bl.refl _).alloc o))
theorem S2.dalloc {a : Nat} {u R : Int} {w0 w1 : World} (o : Obj) (h : w1.drew.cell? ⟨a, 0, none⟩ = some (.int .i64 u) ∧ w1.drew.cell? ⟨a, 1, none⟩ = some (.int .i64 R) ∧ Hid (Two a u R w0 w1.drew)) : (w1.alloc o).drew.cell? ⟨a, 0, none⟩ = some (.int .i64 u) ∧ (w1.alloc o).drew.cell? ⟨a, 1, none⟩ = some (.int .i64 R) ∧ Hid (Two a u R w0 (w1.alloc o).drew) :=
  S2.of (h.2.2.out.go ((Bl.refl _).alloc o))

set_option maxRecDepth 100000 in
set_option maxHeartbeats 4000000 in
theorem works_any (w : World) :
    Calls Try.prog 5 #[] w fun e w' => e = .returned (.bool true) ∧ Bl w w' := by
  have F1 := Lib.hid (fun A cap w hT => lfits_v (u := 1000) (R := 131072) (xs := [(0, 600), (0, 400)]) (len := 2) rfl (by decide +kernel : _ = true) (by decide) A cap w hT)
  have F2 := Lib.hid (fun A cap w hT => lfits_v (u := 1000) (R := 131072) (xs := [(0, 600), (0, 401)]) (len := 2) rfl (by decide +kernel : _ = false) (by decide) A cap w hT)
  have F3 := Lib.hid (fun A cap w hT => lfits_v (u := 1000) (R := 131072) (xs := [(0, 1000), (800, 100)]) (len := 2) rfl (by decide +kernel : _ = true) (by decide) A cap w hT)
  have I1 := Lib.hid (fun A cap w hT => lfirst_v (u := 1000) (R := 131072) (n := 1) (xs := [(0, 1000), (7, 1)]) (len := 2) rfl (by decide +kernel : _ = true) (by decide) A cap w hT)
  have I2 := Lib.hid (fun A cap w hT => lfirst_v (u := 1000) (R := 131072) (n := 2) (xs := [(0, 1000), (8, 1), (8, 1)]) (len := 3) rfl (by decide +kernel : _ = true) (by decide) A cap w hT)
  have I3 := Lib.hid (fun w => lfirst_v (u := 1000) (R := 131072) (n := -1) (xs := []) (len := 0) rfl (by decide +kernel : _ = true) (by decide) none 0 w Tr.nil)
  have T2 := Lib.hid trace2
  have T2d := Lib.hid trace2d
  have T3 := Lib.hid trace3
  have T3d := Lib.hid trace3d
  go_enter Try.func5, Try.ntmps5
  go_wp2_with fail
  have hw0 : Hid (Two w.heap.size 1000 131072 w (w.alloc (.cells #[.int .i64 1000, .int .i64 131072] 30))) := Two.new w w 1000 131072 30 (Bl.refl w)
  generalize (w.alloc (.cells #[.int .i64 1000, .int .i64 131072] 30)) = W at *
  generalize w.heap.size = a at *
  have k0 := hw0.out.1
  have k1 := hw0.out.2.1
  go_region_held3 (fun w' => w'.cell? ⟨a, 0, none⟩ = some (.int .i64 1000) ∧ w'.cell? ⟨a, 1, none⟩ = some (.int .i64 131072) ∧ Hid (Two a 1000 131072 w w')) (first | with_reducible exact S2.drew hw0 | with_reducible assumption | (rename _ ∧ _ ∧ Hid (Two a 1000 131072 w _) => hq; (first | exact S2.step hq hgr | exact S2.dalloc _ hq | exact S2.alloc _ hq)))
    (first | (go_at_call 11; ((with_reducible refine (T2d.out _ _ _ _ _).mono ?_); rintro e w' ⟨A, cc, rfl, hcc, hT, hgr, _⟩)) | (go_at_call 11; ((with_reducible refine (T2.out _ _ _ _ _).mono ?_); rintro e w' ⟨A, cc, rfl, hcc, hT, hgr, _⟩)) | (go_at_call 9; ((with_reducible refine (F1.out _ _ _ hT).mono ?_); rintro e w' ⟨rfl, hgr⟩)) | (go_at_call 9; ((with_reducible refine (F2.out _ _ _ hT).mono ?_); rintro e w' ⟨rfl, hgr⟩)) | (go_at_call 9; ((with_reducible refine (F3.out _ _ _ hT).mono ?_); rintro e w' ⟨rfl, hgr⟩)))
  rename _ ∧ _ ∧ Hid (Two a 1000 131072 w _) => hS
  have hw1 := hS.2.2
  have k0 := hS.1
  have k1 := hS.2.1
  clear hS hT hgr hcc
  go_wp2_with fail
  go_region_held3 (fun w' => w'.cell? ⟨a, 0, none⟩ = some (.int .i64 1000) ∧ w'.cell? ⟨a, 1, none⟩ = some (.int .i64 131072) ∧ Hid (Two a 1000 131072 w w')) (first | with_reducible exact S2.drew hw1 | with_reducible assumption | (rename _ ∧ _ ∧ Hid (Two a 1000 131072 w _) => hq; (first | exact S2.step hq hgr | exact S2.dalloc _ hq | exact S2.alloc _ hq)))
    (first | (go_at_call 11; ((with_reducible refine (T2d.out _ _ _ _ _).mono ?_); rintro e w' ⟨A, cc, rfl, hcc, hT, hgr, _⟩)) | (go_at_call 11; ((with_reducible refine (T2.out _ _ _ _ _).mono ?_); rintro e w' ⟨A, cc, rfl, hcc, hT, hgr, _⟩)) | (go_at_call 11; ((with_reducible refine (T3d.out _ _ _ _ _ _ _).mono ?_); rintro e w' ⟨A, cc, rfl, hcc, hT, hgr, _⟩)) | (go_at_call 11; ((with_reducible refine (T3.out _ _ _ _ _ _ _).mono ?_); rintro e w' ⟨A, cc, rfl, hcc, hT, hgr, _⟩)) | (go_at_call 17; ((with_reducible refine (I3.out _).mono ?_); rintro e w' ⟨rfl, hgr⟩)) | (go_at_call 17; ((with_reducible refine (I1.out _ _ _ hT).mono ?_); rintro e w' ⟨rfl, hgr⟩)) | (go_at_call 17; ((with_reducible refine (I2.out _ _ _ hT).mono ?_); rintro e w' ⟨rfl, hgr⟩)))
  rename _ ∧ _ ∧ Hid (Two a 1000 131072 w _) => hS
  have hw2 := hS.2.2
  have k0 := hS.1
  have k1 := hS.2.1
  clear hS hT hgr hcc hw0 hw1
  have W1 := Lib.hid (fun w => within_v (u := 1000) (R := 131072) (t := 0) (v := 1000) (E := 0) (by decide +kernel) w)
  have W2 := Lib.hid (fun w => within_v (u := 1000) (R := 131072) (t := 15) (v := 1001) (E := 0) (by decide +kernel) w)
  have W3 := Lib.hid (fun w => within_v (u := 1000) (R := 131072) (t := 16) (v := 1002) (E := 0) (by decide +kernel) w)
  have L1 := Lib.hid (fun A cap w hT => least_v (R := 131072) (xs := [(0, 100), (80, 100), (80, 100)]) (v := 290) (E := 0) (by decide +kernel) A cap w (by decide) hT)
  have L2 := Lib.hid (fun w => least_v (R := 131072) (xs := []) (v := 1) (E := 0) (by decide +kernel) none 0 w (by decide) Tr.nil)
  have S1 := Lib.hid (fun A cap w hT => sum_v (ys := [(1000, 131072), (24, 1048576)]) (u := 1024) (v := 1179648) (E := 0) (by decide +kernel) A cap w (by decide) hT)
  go_wp2_with fail
  refine (W1.out _).mono ?_; rintro e v1 ⟨rfl, gr⟩
  have hw3 := Lib.hid (hw2.out.go gr)
  have k0 := hw3.out.1
  have k1 := hw3.out.2.1
  clear hw2 gr
  go_wp2_with fail
  refine (W2.out _).mono ?_; rintro e v2 ⟨rfl, gr⟩
  have hw4 := Lib.hid (hw3.out.go gr)
  have k0 := hw4.out.1
  have k1 := hw4.out.2.1
  clear hw3 gr
  go_wp2_with fail
  refine (W3.out _).mono ?_; rintro e v3 ⟨rfl, gr⟩
  have hw5 := Lib.hid (hw4.out.go gr)
  have k0 := hw5.out.1
  have k1 := hw5.out.2.1
  clear hw4 gr
  go_wp2_with fail
  refine (S1.out _ _ _ (tr_new2 v3 1000 131072 24 1048576 30)).mono ?_; rintro e v4 ⟨rfl, gr⟩
  have G4 := Lib.hid ((hw5.out.2.2.2.alloc _).trans gr)
  clear hw5 gr k0 k1
  go_wp2_with fail
  have hs := Lib.hid (Two.new w v4 1024 1179648 30 G4.out)
  have hT5 := tr_new3 (v4.alloc (.cells #[.int .i64 1024, .int .i64 1179648] 30)) 0 100 80 100 80 100 3
  rw [World.size_alloc] at hT5
  refine (trace_any [(0, 100), (80, 100), (80, 100)] (v4.heap.size + 1) 6 6 _ rfl (by simp) hT5 (by simp)).mono ?_
  clear hT5
  rintro e v5 ⟨A5, c5, rfl, hc5, hT5, gr, _⟩
  have hs5 := Lib.hid (hs.out.go (((Bl.refl _).alloc _).trans gr))
  clear hs gr hc5 G4
  go_wp2_with fail
  refine (L1.out _ _ _ hT5).mono ?_; rintro e v6 ⟨rfl, gr⟩
  have hs6 := Lib.hid (hs5.out.go gr)
  clear hs5 gr hT5
  go_wp2_with fail
  refine (L2.out _).mono ?_; rintro e v7 ⟨rfl, gr⟩
  have hs7 := Lib.hid (hs6.out.go gr)
  clear hs6 gr
  have k0 := hs7.out.1
  have k1 := hs7.out.2.1
  go_wp2_with fail
  go_ret
  exact ⟨rfl, hs7.out.2.2.2⟩

end Go.Proofs.Ytajlcagbfebbjaa
