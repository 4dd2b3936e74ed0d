/-
  What Cut of package merge returns.
-/
import Derived.Test.YtnapelocjcoofaaEk
namespace Go.Proofs.Ytnapelocjcoofaa
open Go.RowKit Go.Proofs.Ytnapelocjcoofaa.Cr

/-- What Cut gives. -/
def cutA (s : ByteArray) (num : Int) (cs : List Int) : List Pc × Int :=
  if whB s = true then (if rsB num = true then (if okC s.size cs = true then (upto (pcI s num cs) (cs.length + 1), 0) else ([], 180)) else ([], 2)) else ([], 5)
theorem cut_form {s : ByteArray} {num : Int} {cs : List Int} (h : whB s = false) : cutA s num cs = ([], 5) := by unfold cutA; rw [if_neg (by simp [h])]
theorem cut_arg {s : ByteArray} {num : Int} {cs : List Int} (h : whB s = true) (h2 : rsB num = false) : cutA s num cs = ([], 2) := by unfold cutA; rw [if_pos h, if_neg (by simp [h2])]
theorem cut_cuts {s : ByteArray} {num : Int} {cs : List Int} (h : whB s = true) (h2 : rsB num = true) (h3 : okC s.size cs = false) : cutA s num cs = ([], 180) := by unfold cutA; rw [if_pos h, if_pos h2, if_neg (by simp [h3])]
theorem cut_yes {s : ByteArray} {num : Int} {cs : List Int} (h : whB s = true) (h2 : rsB num = true) (h3 : okC s.size cs = true) : cutA s num cs = (upto (pcI s num cs) (cs.length + 1), 0) := by unfold cutA; rw [if_pos h, if_pos h2, if_pos h3]
/-- Pieces in a slice of their own, and a code. -/
def CutRes (w : World) (r : List Pc × Int) (e : Ending) (w' : World) : Prop := ∃ v, e = .returned (.tuple #[v, .int .i64 r.2]) ∧ w'.ownsRow w.heap.size 45 4 v r.1.length (flP r.1) ∧ Bl w w'
theorem own_base {w : World} {b b' : Nat} {e : TypeId} {k n : Nat} {v : Value} {xs : List Value} (h : w.ownsRow b e k v n xs) (hb : b' ≤ b) : w.ownsRow b' e k v n xs := by
  refine ⟨h.1, ?_⟩
  rcases h.2 with h0 | ⟨g, cap, cur, e1, h2, h3⟩
  · exact .inl h0
  · exact .inr ⟨g, cap, cur, e1, Nat.le_trans hb h2, h3⟩
theorem isWhole_v {s : ByteArray} {b : Bool} (h : whB s = b) (hs : (s.size : Int) ≤ 8000) (w : World) :
    Calls Try.prog 36 #[.string s] w fun e w' => e = .returned (.bool b) ∧ Bl w w' := by subst h; exact isWhole_any s hs w
theorem areCuts_v {n : Nat} {cs : List Int} {b : Bool} (h : okC n cs = b) (hn : (64 : Int) ≤ n ∧ (n : Int) ≤ 1522) (A : Option Addr) (cap : Nat) (w : World) (hl : (cs.length : Int) ≤ 9223372036854775807) (h64 : I64 cs) (hI : Iz w A cs) :
    Calls Try.prog 38 #[.slice A cs.length cap, .int .i64 (n : Int)] w fun e w' => e = .returned (.bool b) ∧ w = w' := by subst h; exact areCuts_any n hn cs A cap w hl h64 hI

set_option maxHeartbeats 1000000 in
theorem cut_any (s : ByteArray) (hs : (s.size : Int) ≤ 8000) (num : Int) (cs : List Int) (A : Option Addr) (cap : Nat) (w : World) (hl : (cs.length : Int) ≤ 9223372036854775807) (h64 : I64 cs) (hI : Iz w A cs) :
    Calls Try.prog 13 #[.string s, .int .i64 num, .slice A cs.length cap] w (CutRes w (cutA s num cs)) := by
  have HI := Lib.hid hI; clear hI
  have H6 := Lib.hid h64; clear h64
  rcases two_bool (whB s) with h1 | h1 <;> have KW := Lib.hid (fun w => isWhole_v h1 hs w)
  · rcases two_bool (rsB num) with h2 | h2 <;> have KR := Lib.hid (fun w => isResidue_v h2 w)
    · obtain ⟨⟨hn1, hn2⟩, _⟩ := whB_iff.1 h1
      rcases two_bool (okC s.size cs) with h3 | h3 <;> have KA := Lib.hid (fun w hI => areCuts_v h3 (by omega) A cap w hl H6.out hI)
      · rw [cut_yes h1 h2 h3]
        have KC := Lib.hid (fun w Bc Bn Bs h1 h2 h4 h5 h6 => collect_any Bc Bn Bs A cap cs num s hn1 hn2 h3 w h1 h2 h4 h5 h6)
        have KP := Lib.hid (fun w => pieces_any s num A cs.length cap w)
        clear h1 h2 h3
        unfold CutRes PcRes at *
        dsimp only
        generalize flP (upto (pcI s num cs) (cs.length + 1)) = L at *
        generalize (upto (pcI s num cs) (cs.length + 1)).length = len at *
        go_enter Try.func13, Try.ntmps13
        go_wp2_with fail
        refine (KW.out _).mono ?_; rintro e w1 ⟨rfl, g1⟩
        have G1 := Lib.hid g1; clear g1
        go_wp2_with fail
        refine (KR.out _).mono ?_; rintro e w2 ⟨rfl, rfl⟩
        go_wp2_with fail
        refine (KA.out _ (HI.out.go G1.out)).mono ?_; rintro e w2 ⟨rfl, rfl⟩
        go_wp2_with fail
        refine (KP.out _).mono ?_; rintro e w2 ⟨rfl, rfl⟩
        have G2 := Lib.hid (((G1.out.alloc (.cells #[.string s] 9)).alloc (.cells #[.int .i64 num] 3)).alloc (.cells #[.slice A cs.length cap] 26))
        have HC := Lib.hid (KC.out (((w1.alloc (.cells #[.string s] 9)).alloc (.cells #[.int .i64 num] 3)).alloc (.cells #[.slice A cs.length cap] 26)) (w1.heap.size + 1 + 1) (w1.heap.size + 1) w1.heap.size (by simp [go_sem]) (by simp [go_sem]) (by simp [go_sem]) (by simp; omega) (HI.out.go G2.out))
        go_wp2_with fail
        refine HC.out.mono ?_; rintro e w3 ⟨v, rfl, hown, hbl⟩
        have HO := Lib.hid (own_base hown (by have := G2.out.size; exact this)); have HB := Lib.hid (G2.out.trans hbl); clear hown hbl
        go_wp2_with fail
        go_ret2
        exact ⟨v, rfl, HO.out, HB.out⟩
      · rw [cut_cuts h1 h2 h3]
        clear h1 h2 h3
        unfold CutRes
        go_enter Try.func13, Try.ntmps13
        go_wp2_with fail
        refine (KW.out _).mono ?_; rintro e w1 ⟨rfl, g1⟩
        have G1 := Lib.hid g1; clear g1
        go_wp2_with fail
        refine (KR.out _).mono ?_; rintro e w2 ⟨rfl, rfl⟩
        go_wp2_with fail
        refine (KA.out _ (HI.out.go G1.out)).mono ?_; rintro e w2 ⟨rfl, rfl⟩
        go_wp2_with fail
        go_ret2
        exact ⟨_, rfl, World.ownsRow_nil _ _ _ _, G1.out⟩
    · rw [cut_arg h1 h2]
      clear h1 h2
      unfold CutRes
      go_enter Try.func13, Try.ntmps13
      go_wp2_with fail
      refine (KW.out _).mono ?_; rintro e w1 ⟨rfl, g1⟩
      have G1 := Lib.hid g1; clear g1
      go_wp2_with fail
      refine (KR.out _).mono ?_; rintro e w2 ⟨rfl, rfl⟩
      go_wp2_with fail
      go_ret2
      exact ⟨_, rfl, World.ownsRow_nil _ _ _ _, G1.out⟩
  · rw [cut_form h1]
    clear h1
    unfold CutRes
    go_enter Try.func13, Try.ntmps13
    go_wp2_with fail
    refine (KW.out _).mono ?_; rintro e w1 ⟨rfl, g1⟩
    have G1 := Lib.hid g1; clear g1
    go_wp2_with fail
    go_ret2
    exact ⟨_, rfl, World.ownsRow_nil _ _ _ _, G1.out⟩

end Go.Proofs.Ytnapelocjcoofaa
