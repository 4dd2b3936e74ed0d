/-
  A draft's frame and cuts: mathematics; what Frame and Offsets of the reference's Draft return.
-/
import Derived.Test.YtnapelocjcoofaaEm
namespace Go.Proofs.Ytnapelocjcoofaa
open Go.RowKit Go.Proofs.Ytnapelocjcoofaa.Cr

/-- Doubled until it has n octets. -/
def gro (n : Nat) : Nat → ByteArray → ByteArray
  | 0, s => s
  | f + 1, s => if s.size < n then gro n f (s ++ s) else s
theorem gro_size {n : Nat} (hn : n ≤ 2048) : ∀ (f : Nat) (s : ByteArray), f ≤ 11 → 2 ^ (11 - f) ≤ s.size → n ≤ (gro n f s).size
  | 0, s, _, h => Nat.le_trans hn h
  | f + 1, s, hf, h => by
    unfold gro
    split
    · refine gro_size hn f (s ++ s) (by omega) ?_
      rw [ByteArray.size_append, show 11 - f = (11 - (f + 1)) + 1 by omega, Nat.pow_succ]
      omega
    · omega
/-- A draft's octets; its number of octets without the check octets; its frame. -/
def s0 (d : ByteArray) : ByteArray := d.extract 0 (min d.size 100) ++ ⟨#[45]⟩
def nF (L : Nat) : Nat := 60 + L % 1459
def frD (d : ByteArray) (L : Nat) : ByteArray := (gro (nF L) 11 (s0 d)).extract 0 (nF L)
def frm (d : ByteArray) (L : Nat) : ByteArray := sealB (frD d L) 0
theorem s0_size (d : ByteArray) : (s0 d).size = min d.size 100 + 1 := by
  unfold s0
  rw [ByteArray.size_append, ByteArray.size_extract]
  show min (min d.size 100) d.size - 0 + 1 = _
  omega
theorem nF_in (L : Nat) : 60 ≤ nF L ∧ nF L ≤ 1518 := by unfold nF; omega
theorem frD_size (d : ByteArray) (L : Nat) : (frD d L).size = nF L := by
  have h := gro_size (n := nF L) (by have := nF_in L; omega) 11 (s0 d) (Nat.le_refl _) (by rw [s0_size]; simp)
  unfold frD
  rw [ByteArray.size_extract]
  omega
theorem frm_size (d : ByteArray) (L : Nat) : (frm d L).size = nF L + 4 := by unfold frm; rw [sealB_size, frD_size]
theorem frm_lo (d : ByteArray) (L : Nat) : 64 ≤ (frm d L).size := by rw [frm_size]; have := nF_in L; omega
theorem frm_hi (d : ByteArray) (L : Nat) : (frm d L).size ≤ 1522 := by rw [frm_size]; have := nF_in L; omega
theorem frm_chk (d : ByteArray) (L : Nat) : chk (frm d L) 0 = true := chk_seal _ _
theorem frm_wh (d : ByteArray) (L : Nat) : whB (frm d L) = true := whB_iff.2 ⟨⟨frm_lo d L, frm_hi d L⟩, frm_chk d L⟩

/-- The offset behind k steps; the offsets that are cuts. -/
def lst (us : List Nat) : Nat → Int
  | 0 => 0
  | k + 1 => lst us k + 60 + ((us.getD k 0 : Nat) : Int)
def ofs (n : Nat) (us : List Nat) : Nat → List Int
  | 0 => []
  | k + 1 => if lst us (k + 1) ≤ (n : Int) - 64 then ofs n us k ++ [lst us (k + 1)] else ofs n us k
theorem lst_grow (us : List Nat) : ∀ k : Nat, 60 * (k : Int) ≤ lst us k
  | 0 => Int.le_refl 0
  | k + 1 => by have := lst_grow us k; show 60 * ((k + 1 : Nat) : Int) ≤ lst us k + 60 + _; omega
theorem cu_app (cs : List Int) (x : Int) (i : Nat) : cu (cs ++ [x]) i = if i < cs.length then cu cs i else if i = cs.length then x else 0 := by
  unfold cu
  rw [List.getD_eq_getElem?_getD, List.getD_eq_getElem?_getD]
  split
  · rename_i h; rw [List.getElem?_append_left h]
  · rename_i h
    split
    · rename_i h2; subst h2; simp
    · rename_i h2
      rw [List.getElem?_eq_none (by rw [List.length_append, List.length_singleton]; omega)]
      rfl
theorem ofs_len (n : Nat) (us : List Nat) (k : Nat) : (ofs n us k).length ≤ k := by
  induction k with
  | zero => exact Nat.le_refl 0
  | succ k ih =>
    unfold ofs
    split
    · rw [List.length_append, List.length_singleton]; omega
    · omega
/-- The offsets are those up to the last cut. -/
theorem ofs_all {n : Nat} {us : List Nat} : ∀ k, (k = 0 ∨ lst us k ≤ (n : Int) - 64) → (ofs n us k).length = k ∧ ∀ i, i < k → cu (ofs n us k) i = lst us (i + 1)
  | 0, _ => ⟨rfl, fun i hi => absurd hi (by omega)⟩
  | k + 1, h => by
    have h1 : lst us (k + 1) ≤ (n : Int) - 64 := h.resolve_left (by omega)
    have h2 : lst us (k + 1) = lst us k + 60 + ((us.getD k 0 : Nat) : Int) := rfl
    obtain ⟨h3, h4⟩ := ofs_all (n := n) (us := us) k (.inr (by omega))
    unfold ofs
    rw [if_pos h1]
    refine ⟨by rw [List.length_append, h3, List.length_singleton], fun i hi => ?_⟩
    rw [cu_app, h3]
    split
    · rename_i h5; exact h4 i h5
    · rw [if_pos (by omega), show i = k by omega]
theorem la_app {cs : List Int} {x : Int} {i : Nat} (h : i ≤ cs.length) : la (cs ++ [x]) i = la cs i := by
  unfold la
  split
  · rfl
  · rw [cu_app, if_pos (by omega)]
theorem ofs_ok (n : Nat) (us : List Nat) (k : Nat) : okC n (ofs n us k) = true := by
  induction k with
  | zero => exact decide_eq_true (fun i hi => absurd hi (by simp [ofs]))
  | succ k ih =>
    by_cases h1 : lst us (k + 1) ≤ (n : Int) - 64
    · have h2 : lst us (k + 1) = lst us k + 60 + ((us.getD k 0 : Nat) : Int) := rfl
      have h6 := lst_grow us k
      obtain ⟨h3, h4⟩ := ofs_all (n := n) (us := us) k (.inr (by omega))
      have e : ofs n us (k + 1) = ofs n us k ++ [lst us (k + 1)] := by show (if _ then _ else _) = _; rw [if_pos h1]
      rw [e]
      refine okC_iff.2 fun i hi => ?_
      rw [List.length_append, List.length_singleton, h3] at hi
      rw [la_app (by omega), cu_app, h3]
      split
      · rename_i h5; exact (okC_iff.1 ih) i (by omega)
      · have hik : i = k := by omega
        subst hik
        rw [if_pos rfl]
        have hl : la (ofs n us i) i = lst us i := by
          unfold la
          split
          · rename_i h0; subst h0; rfl
          · rw [h4 (i - 1) (by omega), show i - 1 + 1 = i by omega]
        rw [hl]
        omega
    · have e : ofs n us (k + 1) = ofs n us k := by show (if _ then _ else _) = _; rw [if_neg h1]
      rw [e]; exact ih

theorem lst_le {us : List Nat} (h : ∀ k, us.getD k 0 < 256) : ∀ k : Nat, lst us k ≤ 315 * (k : Int)
  | 0 => Int.le_refl 0
  | k + 1 => by
    have h1 := lst_le h k
    have h2 := h k
    show lst us k + 60 + ((us.getD k 0 : Nat) : Int) ≤ 315 * ((k + 1 : Nat) : Int)
    omega
/-- A slice of octets as numbers. -/
def Uz (w : World) (A : Option Addr) (us : List Nat) : Prop :=
  (∀ k, k < us.length → ∃ b off, A = some ⟨b, off, none⟩ ∧ b < w.heap.size ∧ w.cell? ⟨b, off + k, none⟩ = some (.int .u8 ((us.getD k 0 : Nat) : Int))) ∧ ∀ k, us.getD k 0 < 256
theorem Uz.go {w w' : World} {A : Option Addr} {us : List Nat} (h : Uz w A us) (g : Bl w w') : Uz w' A us := ⟨fun k hk => by
  obtain ⟨b, off, h1, h2, h3⟩ := h.1 k hk
  exact ⟨b, off, h1, Nat.lt_of_lt_of_le h2 g.size, (g.cell (p := ⟨b, _, none⟩) h2).trans h3⟩, h.2⟩
/-- A draft as a value. -/
def drV (d : ByteArray) (L N : Nat) (A : Option Addr) (n c : Nat) : Value := .agg #[.string d, .int .u16 (L : Int), .int .u8 (N : Int), .slice A n c]
def szV : Value → Nat
  | .string b => b.size
  | _ => 0

set_option maxHeartbeats 1000000 in
theorem frame_any (d : ByteArray) (L N : Nat) (hL : L < 65536) (A : Option Addr) (n c : Nat) (hd : d.size ≤ maxLen) (w : World) :
    Calls Try.prog 11 #[drV d L N A n c] w fun e w' => e = .returned (.string (frm d L)) ∧ Bl w w' := by
  have hd' : (d.size : Int) ≤ 9223372036854775807 := by unfold maxLen at hd; omega
  obtain ⟨m, hm⟩ : ∃ m, min d.size 100 = m := ⟨_, rfl⟩
  have hm1 : (m : Int) ≤ (d.size : Int) := by omega
  have hm2 : (m : Int) ≤ 100 := by omega
  have hmi : (if (d.size : Int) < 100 then (d.size : Int) else 100) = (m : Int) := by split <;> omega
  have hmj : (if (100 : Int) < (d.size : Int) then (100 : Int) else (d.size : Int)) = (m : Int) := by split <;> omega
  have e0 : s0 d = d.extract 0 m ++ ⟨#[45]⟩ := by unfold s0; rw [hm]
  have hsz := s0_size d
  rw [e0, hm] at hsz
  have hR : frm d L = sealB ((gro (nF L) 11 (d.extract 0 m ++ ⟨#[45]⟩)).extract 0 (nF L)) 0 := by unfold frm frD; rw [e0]
  obtain ⟨R, hRR⟩ : ∃ R, frm d L = R := ⟨_, rfl⟩
  rw [hRR]
  rw [hRR] at hR
  have HRR := Lib.hid hR
  clear hR hRR
  unfold drV
  go_enter Try.func11, Try.ntmps11
  go_wp2_with fail
  have hnn : (60 : Int) + (L : Int) % 1459 = (nF L : Int) := by unfold nF; omega
  rw [hnn]
  obtain ⟨hT1, hT2⟩ := nF_in L
  generalize nF L = T at *
  generalize (d.extract 0 m ++ ⟨#[45]⟩ : ByteArray) = S at *
  have hB0 := Lib.hid ((Bl.refl w).alloc (.cells #[.string d, .int .u16 (L : Int), .int .u8 (N : Int), .slice A n c] 25))
  clear hnn e0 hm hmi hmj
  go_loopw [3] (fun v wr => ∃ f s, f ≤ 11 ∧ v = .string s ∧ Hid (2 ^ (11 - f) ≤ s.size) ∧ (s.size : Int) ≤ 3100 ∧ Hid (gro T f s = gro T 11 S) ∧ Hid (Bl w wr)) (fun v _ => T - szV v)
  case atStart => exact ⟨11, S, Nat.le_refl _, rfl, Lib.hid (by rw [hsz]; simp), by omega, Lib.hid rfl, hB0⟩
  case round =>
    obtain ⟨f, s, hf, rfl, hp, hq, hg, hw⟩ := hrel
    by_cases hlt : (s.size : Int) < (T : Int)
    · obtain ⟨f', rfl⟩ : ∃ f', f = f' + 1 := by
        cases f with
        | zero => have h1 := hp.out; simp at h1; omega
        | succ f' => exact ⟨f', rfl⟩
      have hg2 : gro T (f' + 1) s = gro T f' (s ++ s) := by
        show (if _ then _ else _) = _
        rw [if_pos (by omega)]
      have h2 : 2 ^ (11 - f') ≤ (s ++ s).size := by
        have h1 := hp.out
        rw [ByteArray.size_append, show 11 - f' = (11 - (f' + 1)) + 1 by omega, Nat.pow_succ]
        omega
      have h3 : ((s ++ s).size : Int) ≤ 3100 := by rw [ByteArray.size_append]; omega
      have h4 : 0 < s.size := Nat.lt_of_lt_of_le (Nat.pow_pos (by omega)) hp.out
      have HG := Lib.hid hg2
      have H2 := Lib.hid h2
      clear hg2 h2
      go_wp2_with fail
      go_roundw
      case rel => exact ⟨f', s ++ s, by omega, rfl, H2, h3, Lib.hid (by rw [← HG.out]; exact hg.out), hw⟩
      case measure =>
        show T - (s ++ s).size < T - s.size
        rw [ByteArray.size_append]
        omega
    · have hg2 : gro T f s = s := by
        cases f with
        | zero => rfl
        | succ f' =>
          show (if _ then _ else _) = _
          rw [if_neg (by omega)]
      have HG := Lib.hid (show gro T 11 S = s by rw [← hg.out, hg2])
      clear hg2
      have KS := Lib.hid (fun w => rseal_any (s.extract 0 T) (by rw [ByteArray.size_extract]; omega) w)
      have hTs : (T : Int) ≤ (s.size : Int) := by omega
      go_wp2_with fail
      refine (KS.out _).mono ?_; rintro e w2 ⟨rfl, gr⟩
      have G2 := Lib.hid (hw.out.trans gr); clear gr
      go_wp2_with fail
      go_ret
      exact ⟨by rw [HRR.out, HG.out]; rfl, G2.out⟩

/-- Integers in a slice of their own. -/
def ivs (cs : List Int) : List Value := cs.map fun c => .int .i64 c
def CutsRes (w : World) (cs : List Int) (e : Ending) (w' : World) : Prop := ∃ v, e = .returned v ∧ w'.ownsRow w.heap.size 3 1 v cs.length (ivs cs) ∧ Bl w w'
theorem info_int : (Try.prog.info? 3).map (fun i => (i.zero, i.size, i.bytes)) = some (some (.int .i64 0), 1, 8) := by kernel_rfl
theorem ivs_snoc (cs : List Int) (x : Int) : ivs (cs ++ [x]) = ivs cs ++ [.int .i64 x] := by unfold ivs; simp

set_option maxRecDepth 100000 in
set_option maxHeartbeats 2000000 in
theorem offsets_any (d : ByteArray) (L N : Nat) (hL : L < 65536) (A : Option Addr) (us : List Nat) (c : Nat) (hd : d.size ≤ maxLen) (hl : (us.length : Int) ≤ 9223372036854775807) (mo : Nat) {MO : Int} (hMO : (mo : Int) = MO) (hmo : mo ≤ 30) (w : World) (hU : Uz w A us) :
    Calls Try.prog 10 #[drV d L N A us.length c, .int .i64 MO] w (CutsRes w (ofs (frm d L).size us (min us.length mo))) := by
  obtain ⟨i0, hi, hz0, hz1, hz2⟩ := info_parts info_int
  have HI := Lib.hid hi
  have HZ0 := Lib.hid hz0
  have HZ1 := Lib.hid hz1
  have HZ2 := Lib.hid hz2
  have KF := Lib.hid (fun w => frame_any d L N hL A us.length c hd w)
  have HU := Lib.hid hU
  have hs1 := frm_lo d L
  have hs2 := frm_hi d L
  clear hi hz0 hz1 hz2 hU
  subst hMO
  unfold drV at *
  unfold CutsRes
  generalize hfd : frm d L = F at *
  clear hfd
  go_enter Try.func10, Try.ntmps10
  go_wp2_with fail
  refine (KF.out _).mono ?_; rintro e w1 ⟨rfl, gr⟩
  have hB0 := Bl.trans ((Bl.refl w).alloc (.cells #[.string d, .int .u16 (L : Int), .int .u8 (N : Int), .slice A us.length c] 25)) gr
  have k3 := (gr.cell (p := ⟨w.heap.size, 3, none⟩) (by simp)).trans (show _ = some (Value.slice A us.length c) by simp [go_sem])
  have k4 : w.heap.size < w1.heap.size := Nat.lt_of_lt_of_le (by simp) gr.size
  have HB0 := Lib.hid hB0
  have K3 := Lib.hid k3
  have K4 := Lib.hid k4
  clear hB0 k3 k4 gr
  go_wp2_with fail
  go_loopw [5, 7, 8] (fun v lv' iv wr => ∃ k : Nat, k ≤ us.length ∧ k ≤ mo ∧ iv = .int .i64 k ∧ lv' = .int .i64 (lst us k) ∧ Hid (wr.ownsRow w1.heap.size 3 1 v (ofs F.size us k).length (ivs (ofs F.size us k))) ∧ Hid (Bl w1 wr)) (fun _ _ iv _ => us.length - (intOf iv).toNat)
  case atStart => exact ⟨0, Nat.zero_le _, Nat.zero_le _, rfl, rfl, World.ownsRow_nil _ _ _ _, Bl.refl _⟩
  case round =>
    obtain ⟨k, hk, hkm, rfl, rfl, hown, hw⟩ := hrel
    have g3 := (hw.out.cell (p := ⟨w.heap.size, 3, none⟩) K4.out).trans K3.out
    by_cases hlt : k < us.length
    · by_cases hlt2 : k < mo
      · obtain ⟨b, off, ea, hb, c0⟩ := (HU.out.go (HB0.out.trans hw.out)).1 k hlt
        have hu := HU.out.2 k
        have nx : lst us (k + 1) = lst us k + 60 + ((us.getD k 0 : Nat) : Int) := rfl
        have hof : ofs F.size us (k + 1) = if lst us (k + 1) ≤ (F.size : Int) - 64 then ofs F.size us k ++ [lst us (k + 1)] else ofs F.size us k := rfl
        have hlb := lst_grow us k
        have hub : lst us k ≤ 315 * (k : Int) := lst_le HU.out.2 k
        have hol := ofs_len F.size us k
        rw [nx] at hof
        have LN := Lib.hid nx; clear nx
        generalize us.getD k 0 = u at *
        generalize lst us k = p at *
        subst ea
        by_cases hc : p + 60 + (u : Int) ≤ (F.size : Int) - 64
        · rw [if_pos hc] at hof
          have HOF := Lib.hid hof; clear hof
          go_wp2_with (at_builtin; refine wpList_append_lies _ rfl _ _ _ rfl w1.heap.size 3 i0 _ 1 8 Try.underlying26 HI.out HZ0.out HZ1.out HZ2.out rfl (by omega) _ (ofs F.size us k).length (ivs (ofs F.size us k)) rfl (hown.out.alloc _) ⟨wr.heap.size, 0, none⟩ 1 1 [.int .i64 (p + 60 + (u : Int))] rfl rfl (World.news_of_block (cs := #[.int .i64 (p + 60 + (u : Int))]) (t := 3) (fr := (0, 0)) (heap_alloc_new wr _)) (by simp [Value.oneCell']) (by omega) (by unfold maxLen; omega) (by omega) (Nat.le_trans hw.out.size (by simp only [World.size_alloc]; omega)) (wr.heap.size + 1) (by simp) ?_; intro gg cap' w9 hown1 hgrow hat hlt3)
          have hw9 : Bl w1 w9 := Bl.grownBy (hw.out.alloc _) hgrow (fun j e => own_block_ge hown.out j e)
          have HW9 := Lib.hid hw9; have HO9 := Lib.hid hown1
          clear hgrow hat hlt3 hw9 hown1
          go_roundw
          case rel => exact ⟨k + 1, by omega, by omega, by go_num, by rw [LN.out], by rw [HOF.out, ivs_snoc, List.length_append]; exact HO9, HW9⟩
          case measure => first | (simp [intOf]; omega) | simp [intOf]
        · rw [if_neg hc] at hof
          have HOF := Lib.hid hof; clear hof
          go_wp2_with fail
          go_roundw
          case rel => exact ⟨k + 1, by omega, by omega, by go_num, by rw [LN.out], by rw [HOF.out]; exact hown, hw⟩
          case measure => simp [intOf]; omega
      · have e : min us.length mo = k := by omega
        have HE := Lib.hid e
        clear e
        go_wp2_with fail
        go_ret
        exact ⟨_, rfl, by rw [HE.out]; exact own_base hown.out HB0.out.size, HB0.out.trans hw.out⟩
    · have e : min us.length mo = k := by omega
      have HE := Lib.hid e
      have hnl : ¬ (k : Int) < (us.length : Int) := by omega
      clear e
      go_wp2_with fail
      go_ret
      exact ⟨_, rfl, by rw [HE.out]; exact own_base hown.out HB0.out.size, HB0.out.trans hw.out⟩

end Go.Proofs.Ytnapelocjcoofaa
