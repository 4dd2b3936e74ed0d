/-
  What joins, refused and chapter of the laws return.
-/
import Derived.Test.YtnapelocjcoofaaEo
import Derived.Test.YtnapelocjcoofaaKj
namespace Go.Proofs.Ytnapelocjcoofaa
open Go.RowKit Go.Proofs.Ytnapelocjcoofaa.Cr

theorem jnV_of {m : Ms} {p : Pc} {nx : Ms} {fr : ByteArray} {c : Int} (h : jnA m p = ((nx, fr), c)) : jnV m p = .tuple #[nx.v, .string fr, .int .i64 c] := by unfold jnV; rw [h]
set_option maxHeartbeats 1000000 in
theorem joins_yes (m : Ms) (p : Pc) (nx : Ms) (fr : ByteArray) (h : jnA m p = ((nx, fr), 0)) (hm : (m.data.size : Int) ≤ 4000) (hs : (p.data.size : Int) ≤ 4000) (w : World) :
    Calls Try.prog 30 #[m.v, p.v, nx.v, .string fr] w fun e w' => e = .returned (.bool true) ∧ Bl w w' := by
  have KJ := Lib.hid (fun w => join_any m p hm hs w)
  rw [jnV_of h] at KJ
  clear h
  have HR := Lib.hid (show Bl w (((w.alloc (.cells #[.bool m.on, .int .i64 m.num, .int .i64 m.next, .string m.data] 43)).alloc (.cells #[.bool p.start, .int .i64 p.num, .int .i64 p.cnt, .string p.data] 45)).alloc (.cells #[.bool nx.on, .int .i64 nx.num, .int .i64 nx.next, .string nx.data] 43)) from (((Bl.refl w).alloc _).alloc _).alloc _)
  have BN := Ms.boxed ((w.alloc (.cells #[.bool m.on, .int .i64 m.num, .int .i64 m.next, .string m.data] 43)).alloc (.cells #[.bool p.start, .int .i64 p.num, .int .i64 p.cnt, .string p.data] 45)) nx 43
  rw [World.size_alloc, World.size_alloc] at BN
  have HN := Lib.hid BN
  clear BN
  unfold Ms.v Pc.v at *
  go_enter Try.func30, Try.ntmps30
  go_wp2_with fail
  refine (KJ.out _).mono ?_; rintro e w1 ⟨rfl, gr⟩
  have B1 := (HN.out.bl gr).alloc (.cells #[.bool nx.on, .int .i64 nx.num, .int .i64 nx.next, .string nx.data] 43)
  have n0 := B1.at 0 (by show 0 < 4; omega) (v := .bool nx.on) rfl
  have n1 := B1.at 1 (by show 1 < 4; omega) (v := .int .i64 nx.num) rfl
  have n2 := B1.at 2 (by show 2 < 4; omega) (v := .int .i64 nx.next) rfl
  have n3 := B1.at 3 (by show 3 < 4; omega) (v := .string nx.data) rfl
  have R1 := Lib.hid ((HR.out.trans gr).alloc (.cells #[.bool nx.on, .int .i64 nx.num, .int .i64 nx.next, .string nx.data] 43))
  clear gr B1
  go_wp2_with fail
  go_ret
  exact ⟨rfl, R1.out⟩
set_option maxHeartbeats 1000000 in
theorem refused_yes (s : ByteArray) (hs : (s.size : Int) ≤ 8000) (num : Int) (cs : List Int) (A : Option Addr) (cap : Nat) (c : Int) (h : cutA s num cs = ([], c)) (w : World) (hl : (cs.length : Int) ≤ 9223372036854775807) (h64 : I64 cs) (hI : Iz w A cs) :
    Calls Try.prog 33 #[.string s, .int .i64 num, .slice A cs.length cap, .int .i64 c] w fun e w' => e = .returned (.bool true) ∧ Bl w w' := by
  have KC := Lib.hid (cut_any s hs num cs A cap w hl h64 hI)
  rw [h] at KC
  unfold CutRes at KC
  dsimp only at KC
  clear h h64 hI
  go_enter Try.func33, Try.ntmps33
  go_wp2_with fail
  refine KC.out.mono ?_; rintro e w1 ⟨v, rfl, hown, gr⟩
  have R1 := Lib.hid gr
  obtain ⟨_, A2, c2, rfl, _⟩ := Pz.of_own hown
  clear gr hown
  go_wp2_with fail
  go_ret
  exact ⟨rfl, R1.out⟩

/-- The octets of the chapter's frame. -/
def chL (k : Nat) : List UInt8 := (List.range k).map UInt8.ofNat
def chp : ByteArray := sealB (bstr (chL 130)) 0
theorem chL_len (k : Nat) : (chL k).length = k := by simp [chL]
theorem chL_succ (k : Nat) : chL (k + 1) = chL k ++ [UInt8.ofNat k] := by simp [chL, List.range_succ]
/-- Octets as values. -/
def u8s (l : List UInt8) : List Value := l.map fun b => .int .u8 (b.toNat : Int)
theorem u8s_snoc (l : List UInt8) (x : UInt8) : u8s (l ++ [x]) = u8s l ++ [.int .u8 (x.toNat : Int)] := by unfold u8s; simp
theorem info_u8 : (Try.prog.info? 5).map (fun i => (i.zero, i.size, i.bytes)) = some (some (.int .u8 0), 1, 1) := by kernel_rfl
theorem u8_own {w : World} {base n : Nat} {v : Value} {l : List UInt8} (h0 : 0 < n) (h : w.ownsRow base 5 1 v n (u8s l)) : n = l.length ∧ ∃ g c, v = .slice (some ⟨g, 0, none⟩) n c ∧ Bs w g l := by
  have hl : n = l.length := by have := h.1; unfold u8s at this; rw [List.length_map] at this; omega
  subst hl
  refine ⟨rfl, ?_⟩
  rcases h.2 with ⟨rfl, h1⟩ | ⟨g, cap, cur, rfl, hb, hg, h1, h2, h3, h4⟩
  · omega
  · refine ⟨g, cap, rfl, heap_lt hg, fun j hj => ⟨?_, frozen_of_row _ _ _ _ _ hg⟩⟩
    have h5 : (u8s l)[j]? = some (.int .u8 (l[j].toNat : Int)) := by unfold u8s; simp [hj]
    rw [← h4, List.getElem?_take_of_lt (by omega)] at h5
    rw [cell_of_row w g _ cur _ (0, 0) hg]
    simpa using h5

set_option maxRecDepth 20000 in
set_option maxHeartbeats 2000000 in
theorem chapter_any (w : World) :
    Calls Try.prog 31 #[] w fun e w' => e = .returned (.string chp) ∧ Bl w w' := by
  obtain ⟨i0, hi, hz0, hz1, hz2⟩ := info_parts info_u8
  have HI := Lib.hid hi
  have HZ0 := Lib.hid hz0
  have HZ1 := Lib.hid hz1
  have HZ2 := Lib.hid hz2
  clear hi hz0 hz1 hz2
  have KS := Lib.hid (fun w => seal_any (bstr (chL 130)) (by rw [bstr_size, chL_len]; decide) w)
  rw [show sealB (bstr (chL 130)) 0 = chp from rfl] at KS
  generalize chp = R at *
  go_enter Try.func31, Try.ntmps31
  go_wp2
  go_loopw [1, 2] (fun v iv wr => ∃ k : Nat, k ≤ 130 ∧ iv = .int .i64 (k : Int) ∧ Hid (wr.ownsRow w.heap.size 5 1 v k (u8s (chL k))) ∧ Hid (Bl w wr)) (fun _ iv _ => 130 - (intOf iv).toNat)
  case atStart => exact ⟨0, by omega, rfl, World.ownsRow_nil _ _ _ _, Bl.refl _⟩
  case round =>
    obtain ⟨k, hk, rfl, hown, hw⟩ := hrel
    by_cases hlt : (k : Int) < 130
    · have HX := Lib.hid (show ((UInt8.ofNat k).toNat : Int) = (k : Int) by rw [UInt8.toNat_ofNat', Nat.mod_eq_of_lt (by omega)])
      go_wp2_with (at_builtin; refine wpList_append_lies _ rfl _ _ _ rfl w.heap.size 5 i0 _ 1 1 Try.underlying23 HI.out HZ0.out HZ1.out HZ2.out rfl (by omega) _ k (u8s (chL k)) rfl (hown.out.alloc _) ⟨wr.heap.size, 0, none⟩ 1 1 [.int .u8 (k : Int)] rfl rfl (World.news_of_block (cs := #[.int .u8 (k : Int)]) (t := 5) (fr := (0, 0)) (heap_alloc_new wr _)) (by simp [Value.oneCell']) (by omega) (by unfold maxLen; omega) (by omega) (Nat.le_trans hw.out.size (by simp only [World.size_alloc]; omega)) (wr.heap.size + 1) (by simp) ?_; intro gg cap' w9 hown1 hgrow hat hlt3)
      have hw9 : Bl w w9 := Bl.grownBy (hw.out.alloc _) hgrow (fun j e => own_block_ge hown.out j e)
      have HW9 := Lib.hid hw9; have HO9 := Lib.hid hown1
      clear hgrow hat hlt3 hw9 hown1
      go_roundw
      case rel => exact ⟨k + 1, by omega, by go_num, by rw [chL_succ, u8s_snoc, HX.out]; exact HO9, HW9⟩
      case measure => first | (simp [intOf]; omega) | simp [intOf]
    · have hy : bstr (chL 130) = bstr (chL k) := by rw [show k = 130 by omega]
      obtain ⟨-, g, c, rfl, hbs⟩ := u8_own (by omega) hown.out
      have hb := back wr g c _ hbs
      rw [chL_len] at hb
      rw [hy] at KS
      generalize bstr (chL k) = y at *
      clear hbs hown hy
      go_wp2_with fail
      refine (KS.out _).mono ?_; rintro e w2 ⟨rfl, gr⟩
      have G2 := Lib.hid (hw.out.trans gr); clear gr
      go_wp2_with fail
      go_ret
      exact ⟨rfl, G2.out⟩

end Go.Proofs.Ytnapelocjcoofaa
