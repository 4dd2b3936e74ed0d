/-
  What Ceil, slow, clearing, Delay of the reference return.
-/
import Derived.Test.YtgbbglnbolihfaaCg
import Derived.Test.YtgbbglnbolihfaaCh
namespace Go.Proofs.Ytgbbglnbolihfaa
open Go.RowKit Go.Shelf

theorem ceil_quo {n d : Int} (hd : 1 ≤ d) : (n / d * d < n → cl n d = n / d + 1) ∧ (¬ n / d * d < n → cl n d = n / d) := by
  have h1 := Int.mul_ediv_add_emod n d
  have h2 := Int.emod_nonneg n (show d ≠ 0 by omega)
  have h3 := Int.emod_lt_of_pos n (show 0 < d by omega)
  rw [Int.mul_comm] at h1
  constructor
  · intro h
    refine cl_eq (by omega) ?_ ?_
    · rw [Int.add_mul]; omega
    · have : (n / d + 1 - 1) * d = n / d * d := by congr 1; omega
      omega
  · intro h
    refine cl_eq (by omega) (by omega) ?_
    rw [Int.sub_mul]; omega

set_option maxHeartbeats 400000 in
theorem rceil_any (n d : Int) (hn : 0 ≤ n ∧ n ≤ 9223372036854775806) (hd : 1 ≤ d ∧ d ≤ 9223372036854775807) (w : World) :
    Calls Try.prog 62 #[.int .i64 n, .int .i64 d] w fun e w' => e = .returned (.int .i64 (cl n d)) ∧ w = w' := by
  obtain ⟨c1, c2⟩ := ceil_quo (n := n) hd.1
  have q0 : 0 ≤ n / d := Int.ediv_nonneg hn.1 (by omega)
  have q1 : n / d ≤ n := Int.ediv_le_self _ hn.1
  have q2 : n / d * d ≤ n := Int.ediv_mul_le _ (by omega)
  have q3 : 0 ≤ n / d * d := Int.mul_nonneg q0 (by omega)
  have qq : Int.tdiv n d = n / d := Int.tdiv_eq_ediv_of_nonneg hn.1
  have C1 := Lib.hid c1
  have C2 := Lib.hid c2
  clear c1 c2
  obtain ⟨q, hq⟩ : ∃ q, n / d = q := ⟨_, rfl⟩
  rw [hq] at q0 q1 q2 q3 qq C1 C2
  obtain ⟨v, hv⟩ : ∃ v, cl n d = v := ⟨_, rfl⟩
  rw [hv] at C1 C2 ⊢
  have w1 : IntKind.i64.wrap q = q := IntWalk.i64_in _ (by omega)
  have w2 : IntKind.i64.wrap (q * d) = q * d := IntWalk.i64_in _ (by omega)
  have w3 : IntKind.i64.wrap (q + 1) = q + 1 := IntWalk.i64_in _ (by omega)
  have hd0 : ¬ d = 0 := by omega
  clear hv
  by_cases hc : q * d < n
  · go_enter Try.func62, Try.ntmps62
    go_wp2_with fail
    go_ret
    exact ⟨ret_int (C1.out hc).symm, rfl⟩
  · go_enter Try.func62, Try.ntmps62
    go_wp2_with fail
    go_ret
    exact ⟨ret_int (C2.out hc).symm, rfl⟩
theorem rceil_v {n d v : Int} (hv : cl n d = v) (hn : 0 ≤ n ∧ n ≤ 9223372036854775806) (hd : 1 ≤ d ∧ d ≤ 9223372036854775807) (w : World) :
    Calls Try.prog 62 #[.int .i64 n, .int .i64 d] w fun e w' => e = .returned (.int .i64 v) ∧ w = w' := by
  have := rceil_any n d hn hd w; rw [hv] at this; exact this

set_option maxHeartbeats 400000 in
theorem rslow_any (xs : List (Int × Int)) (A : Option Addr) (cap : Nat) (r : Int) (w : World) (hl : (xs.length : Int) ≤ 9223372036854775807) (h : Tr w A xs) :
    Calls Try.prog 59 #[.slice A xs.length cap, .int .i64 r] w fun e w' => e = .returned (.bool (slB xs r)) ∧ Bl w w' := by
  have HT := Lib.hid h; clear h
  go_enter Try.func59, Try.ntmps59
  go_wp2_with fail
  go_loopw [5] (fun iv wr => ∃ k : Nat, k ≤ xs.length ∧ iv = .int .i64 k ∧ Hid (∀ j, j < k → r < sn xs j) ∧ Hid (Bl w wr)) (fun iv _ => xs.length - (intOf iv).toNat)
  case atStart => exact ⟨0, by omega, rfl, Lib.hid (fun j hj => absurd hj (by omega)), Bl.refl _⟩
  case round =>
    obtain ⟨k, hk, rfl, hE, hw⟩ := hrel
    by_cases hlt : k < xs.length
    · obtain ⟨b, off, rfl, hb, _, c2⟩ := (HT.out.go hw.out) k hlt
      obtain ⟨R, hR⟩ : ∃ R, sn xs k = R := ⟨_, rfl⟩
      rw [hR] at c2
      have HV := Lib.hid hR
      clear hR
      by_cases h1 : R ≤ r
      · go_wp2_with fail
        go_ret
        exact ⟨ret_bool (slB_iff.2 ⟨k, hlt, by rw [HV.out]; exact h1⟩).symm, hw.out⟩
      · go_wp2_with fail
        go_roundw
        case rel =>
          refine ⟨k + 1, by omega, by go_num, Lib.hid (fun j hj => ?_), hw⟩
          rcases Nat.lt_or_ge j k with h' | h'
          · exact hE.out j h'
          · obtain rfl : j = k := by omega
            rw [HV.out]; omega
        case measure => simp [intOf]; omega
    · obtain rfl : k = xs.length := by omega
      have hf : slB xs r = false := by
        rcases bcase (slB xs r) with h | h
        · obtain ⟨j, hj, hs⟩ := slB_iff.1 h
          have := hE.out j hj; omega
        · exact h
      have HF := Lib.hid hf
      clear hf
      go_wp2_with fail
      go_ret
      exact ⟨ret_bool HF.out.symm, hw.out⟩

/-- Numbers from 1 to 2^40. -/
def Gd (l : List Int) : Prop := ∀ x, x ∈ l → 1 ≤ x ∧ x ≤ 1099511627776
theorem Gd.app {l l' : List Int} (h : Gd l) (h' : Gd l') : Gd (l ++ l') := fun x hx => (List.mem_append.1 hx).elim (h x) (h' x)
theorem cr_bd {u R v S r : Int} (hu : 1 ≤ u ∧ u ≤ 1048576) (hv : 1 ≤ v ∧ v ≤ 1048576) (hR : R ≤ 2097152) (hS : 1 ≤ S) (hr : 1 ≤ r) (h1 : S ≤ r) (h2 : r < R) :
    (1 ≤ cr u R v S r ∧ cr u R v S r ≤ 1099511627776) ∧ (0 ≤ (R - r) * v ∧ (R - r) * v ≤ 2199023255552) ∧ (0 ≤ (r - S) * u ∧ (r - S) * u ≤ 2199023255552) ∧ (1 ≤ r * (R - S) ∧ r * (R - S) ≤ 4398046511104) := by
  obtain ⟨p1l, p1h⟩ := mul_bd (x := R - r) (y := v) (X := R - r) (Y := 1048576) (by omega) (by omega)
  obtain ⟨p2l, p2h⟩ := mul_bd (x := r - S) (y := u) (X := r - S) (Y := 1048576) (by omega) (by omega)
  obtain ⟨ml, mh⟩ := mul_bd (x := r) (y := R - S) (X := 2097152) (Y := 2097152) (by omega) (by omega)
  have mlow : R - S ≤ r * (R - S) := by
    have := Int.mul_le_mul_of_nonneg_right hr (show 0 ≤ R - S by omega)
    omega
  have p3 : R - r ≤ (R - r) * v := by
    have := Int.mul_le_mul_of_nonneg_left hv.1 (show 0 ≤ R - r by omega)
    omega
  refine ⟨⟨?_, ?_⟩, ⟨p1l, by omega⟩, ⟨p2l, by omega⟩, by omega, by omega⟩
  · unfold cr
    exact cl_pos (by omega) (by omega)
  · unfold cr
    refine (cl_le (by omega)).2 ?_
    have : (R - r) * v + (r - S) * u ≤ 1048576 * (R - S) := by omega
    omega
theorem Gd.crs {xs : List (Int × Int)} {r : Int} {k : Nat} (hr : 1 ≤ r) (hx : ∀ k, k < xs.length → (1 ≤ fs xs k ∧ fs xs k ≤ 1048576) ∧ (1 ≤ sn xs k ∧ sn xs k ≤ 2097152)) (hk : k < xs.length) (hs : sn xs k ≤ r) (j : Nat) (hj : j ≤ xs.length) : Gd (crs xs r k j) := fun x h => by
  obtain ⟨i, hi, hc, rfl⟩ := mem_crs.1 h
  exact (cr_bd (hx i (by omega)).1 (hx k hk).1 (hx i (by omega)).2.2 (hx k hk).2.1 hr hs hc.1).1
theorem Gd.one {u r : Int} (hu : 1 ≤ u ∧ u ≤ 1048576) (hr : 1 ≤ r) : Gd [cl (u * 1048576) r] := fun x h => by
  obtain rfl := List.mem_singleton.1 h
  exact ⟨cl_pos (by omega) (by omega), Int.le_trans (cl_self_le (by omega) (by omega)) (by omega)⟩
theorem Gd.dsp {xs : List (Int × Int)} {r : Int} (hr : 1 ≤ r) (hx : ∀ k, k < xs.length → (1 ≤ fs xs k ∧ fs xs k ≤ 1048576) ∧ (1 ≤ sn xs k ∧ sn xs k ≤ 2097152)) (k : Nat) (hk : k ≤ xs.length) : Gd (dsp xs r k) := by
  induction k with
  | zero => exact fun x h => absurd h (by simp [Go.Proofs.Ytgbbglnbolihfaa.dsp])
  | succ k ih =>
    refine Gd.app (ih (by omega)) ?_
    unfold dsb
    by_cases hs : sn xs k ≤ r
    · rw [if_pos hs]
      exact Gd.app (Gd.one (hx k (by omega)).1 hr) (Gd.crs hr hx (by omega) hs _ (Nat.le_refl _))
    · rw [if_neg hs]; exact fun x h => absurd h (by simp)
/-- The least of some numbers, or -1. -/
def lz (l : List Int) : Int := if l = [] then -1 else mn l
theorem lz_step {l : List Int} {q : Int} (h : Gd l) (hq : 1 ≤ q ∧ q ≤ 1099511627776) : lz l ≤ 1099511627776 ∧ (lz l < 0 → mn (l ++ [q]) = q) ∧ (0 ≤ lz l → q < lz l → mn (l ++ [q]) = q) ∧ (0 ≤ lz l → ¬ q < lz l → mn (l ++ [q]) = lz l) := by
  unfold lz
  rw [mn_snoc]
  by_cases hl : l = []
  · subst hl
    rw [if_pos rfl]
    have e : mn [] = 9223372036854775807 := rfl
    rw [e]
    refine ⟨by decide, fun _ => by omega, fun h0 => absurd h0 (by decide), fun h0 => absurd h0 (by decide)⟩
  · rw [if_neg hl]
    have h1 : 1 ≤ mn l := (le_mn_iff (by decide)).2 (fun x hx => (h x hx).1)
    have h2 : mn l ≤ 1099511627776 := by
      cases l with
      | nil => exact absurd rfl hl
      | cons y l => exact (mn_le_iff (by decide)).2 ⟨y, List.mem_cons_self, (h y List.mem_cons_self).2⟩
    refine ⟨h2, fun h0 => by omega, fun _ h0 => by omega, fun _ h0 => by omega⟩

set_option maxRecDepth 100000 in
set_option maxHeartbeats 4000000 in
theorem rclearing_any (xs : List (Int × Int)) (A : Option Addr) (cap : Nat) (r : Int) (hr : 1 ≤ r ∧ r ≤ 2097152) (hlen : xs.length ≤ 12)
    (hx : ∀ k, k < xs.length → (1 ≤ fs xs k ∧ fs xs k ≤ 1048576) ∧ (1 ≤ sn xs k ∧ sn xs k ≤ 2097152)) (hs : slB xs r = true) (w : World) (h : Tr w A xs) :
    Calls Try.prog 60 #[.slice A xs.length cap, .int .i64 r] w fun e w' => e = .returned (.int .i64 (clr xs r)) ∧ Bl w w' := by
  have HT := Lib.hid h; clear h
  have HX := Lib.hid hx
  have GD := Lib.hid (fun k hk => Gd.dsp hr.1 hx k hk)
  have GC := Lib.hid (fun k hk hs j hj => Gd.crs (k := k) hr.1 hx hk hs j hj)
  have HS := Lib.hid (show lz (dis xs r) = clr xs r by
    unfold lz clr
    obtain ⟨k, hk, hsl⟩ := slB_iff.1 hs
    have hm : cl (fs xs k * 1048576) r ∈ dis xs r := mem_dis_iff.2 ⟨k, hk, hsl, .inl rfl⟩
    rw [if_neg (fun e => by rw [e] at hm; cases hm)])
  obtain ⟨hr1, hr2⟩ := hr
  clear hx hs
  go_enter Try.func60, Try.ntmps60
  go_wp2_with fail
  go_loopw [5, 6] (fun qv iv wr => ∃ k : Nat, k ≤ xs.length ∧ iv = .int .i64 k ∧ qv = .int .i64 (lz (dsp xs r k)) ∧ Hid (Bl w wr)) (fun _ iv _ => xs.length - (intOf iv).toNat)
  case atStart => exact ⟨0, by omega, rfl, rfl, Lib.hid (Bl.refl _)⟩
  case round =>
    obtain ⟨k, hk, rfl, rfl, hw⟩ := hrel
    by_cases hlt : k < xs.length
    · obtain ⟨b, off, rfl, hb, c0, c1⟩ := (HT.out.go hw.out) k hlt
      obtain ⟨u, hu⟩ : ∃ u, fs xs k = u := ⟨_, rfl⟩
      obtain ⟨R, hR⟩ : ∃ R, sn xs k = R := ⟨_, rfl⟩
      have ok := HX.out k hlt
      rw [hu] at c0 ok
      rw [hR] at c1 ok
      by_cases hc : r < R
      · have E := Lib.hid (show dsp xs r (k + 1) = dsp xs r k by show dsp xs r k ++ dsb xs r k = _; unfold dsb; rw [hR, if_neg (by omega), List.append_nil])
        clear hu hR ok
        go_wp2_with fail
        go_roundw
        case rel => exact ⟨k + 1, by omega, by go_num, by rw [E.out], Lib.hid (hw.out.alloc _)⟩
        case measure => simp [intOf]; omega
      · have E := Lib.hid (show dsp xs r (k + 1) = dsp xs r k ++ cl (u * 1048576) r :: crs xs r k xs.length by show dsp xs r k ++ dsb xs r k = _; unfold dsb; rw [hR, hu, if_pos (by omega)])
        have GK := Lib.hid (fun j hj => GC.out k hlt (by rw [hR]; omega) j hj)
        obtain ⟨q, hq⟩ : ∃ q, cl (u * 1048576) r = q := ⟨_, rfl⟩
        have hq1 := Gd.one ok.1 hr1 q (by rw [hq]; exact List.mem_singleton_self _)
        have KC := Lib.hid (fun w => rceil_v hq (by omega) (by omega) w)
        rw [hq] at E
        have st := lz_step (GD.out k hk) hq1
        obtain ⟨L, hL⟩ : ∃ L, lz (dsp xs r k) = L := ⟨_, rfl⟩
        rw [hL] at st ⊢
        have ST := Lib.hid st.2
        have st1 := st.1
        have mulw : IntKind.i64.wrap (u * 1048576) = u * 1048576 := IntWalk.i64_in _ (by omega)
        have SB := Lib.hid (Sl.new wr u R 30)
        have hw2 := Lib.hid (hw.out.alloc (.cells #[.int .i64 u, .int .i64 R] 30))
        have UR := Lib.hid (And.intro hu hR)
        obtain ⟨⟨ok1, ok2⟩, ok3, ok4⟩ := ok
        clear hq st hL hu hR
        go_wp2_with fail
        refine (KC.out _).mono ?_; rintro e w1 ⟨rfl, rfl⟩
        generalize (wr.alloc (.cells #[.int .i64 u, .int .i64 R] 30)) = W2 at *
        generalize wr.heap.size = nb at *
        clear c0 c1
        obtain ⟨M, hM⟩ : ∃ M, mn (dsp xs r k ++ [q]) = M := ⟨_, rfl⟩
        rw [hM] at ST
        have MM := Lib.hid hM
        clear hM
        clear hq1 st1 mulw KC
        have c3 : (L < 0 ∧ M = q) ∨ (0 ≤ L ∧ q < L ∧ M = q) ∨ (0 ≤ L ∧ ¬ q < L ∧ M = L) := by
          have := ST.out
          by_cases h1 : L < 0
          · exact .inl ⟨h1, this.1 h1⟩
          · by_cases h2 : q < L
            · exact .inr (.inl ⟨by omega, h2, this.2.1 (by omega) (by omega)⟩)
            · exact .inr (.inr ⟨by omega, h2, this.2.2 (by omega) (by omega)⟩)
        clear ST
        rcases c3 with ⟨h1, hmn⟩ | ⟨h1, h2, hmn⟩ | ⟨h1, h2, hmn⟩
        · have HMN := Lib.hid hmn
          go_wp2_with fail
          go_loopw [5, 9] (fun qv jv wj => ∃ j : Nat, j ≤ xs.length ∧ jv = .int .i64 j ∧ qv = .int .i64 (mn (dsp xs r k ++ q :: crs xs r k j)) ∧ Hid (Bl W2 wj)) (fun _ jv _ => xs.length - (intOf jv).toNat)
          case atStart => exact ⟨0, by omega, rfl, by rw [show crs xs r k 0 = [] from rfl, MM.out, HMN.out], Bl.refl _⟩
          case round =>
            obtain ⟨j, hj, rfl, rfl, hwj⟩ := hrel
            have GW := Lib.hid (hw2.out.trans hwj.out)
            by_cases hltj : j < xs.length
            · obtain ⟨b2, off2, e2, hb2, d0, d1⟩ := (HT.out.go GW.out) j hltj
              obtain ⟨rfl, rfl⟩ : b = b2 ∧ off = off2 := by cases e2; exact ⟨rfl, rfl⟩
              clear e2
              obtain ⟨⟨oj1, oj2⟩, oj3, oj4⟩ := HX.out j hltj
              obtain ⟨u', hu'⟩ : ∃ u', fs xs j = u' := ⟨_, rfl⟩
              obtain ⟨R', hR'⟩ : ∃ R', sn xs j = R' := ⟨_, rfl⟩
              rw [hu'] at d0 oj1 oj2
              rw [hR'] at d1 oj3 oj4
              have s0 := (SB.out.go hwj.out).c0
              have s1 := (SB.out.go hwj.out).c1
              have sl := (SB.out.go hwj.out).lt
              obtain ⟨Y, hY⟩ : ∃ Y, mn (dsp xs r k ++ q :: crs xs r k j) = Y := ⟨_, rfl⟩
              rw [hY]
              by_cases t1 : r < R'
              · by_cases t2 : u' < u
                · have cb := cr_bd (u := u') (R := R') (v := u) (S := R) (r := r) ⟨oj1, oj2⟩ ⟨ok1, ok2⟩ oj4 ok3 hr1 (by omega) t1
                  obtain ⟨x, hx⟩ : ∃ x, cr u' R' u R r = x := ⟨_, rfl⟩
                  have E2 := Lib.hid (show mn (dsp xs r k ++ q :: crs xs r k (j + 1)) = min Y x by
                    have e : crs xs r k (j + 1) = crs xs r k j ++ [x] := by show crs xs r k j ++ _ = _; rw [hR', hu', UR.out.1, UR.out.2, if_pos ⟨t1, t2⟩, hx]
                    rw [e, ← List.cons_append, ← List.append_assoc, mn_snoc, hY])
                  rw [hx] at cb
                  obtain ⟨⟨cb1, cb2⟩, ⟨cb3, cb4⟩, ⟨cb5, cb6⟩, cb7, cb8⟩ := cb
                  unfold cr at hx
                  have KX := Lib.hid (fun w => rceil_v hx (by omega) (by omega) w)
                  have v1 : IntKind.i64.wrap (R' - r) = R' - r := IntWalk.i64_in _ (by omega)
                  have v2 : IntKind.i64.wrap (r - R) = r - R := IntWalk.i64_in _ (by omega)
                  have v3 : IntKind.i64.wrap ((R' - r) * u) = (R' - r) * u := IntWalk.i64_in _ (by omega)
                  have v4 : IntKind.i64.wrap ((r - R) * u') = (r - R) * u' := IntWalk.i64_in _ (by omega)
                  have v5 : IntKind.i64.wrap ((R' - r) * u + (r - R) * u') = (R' - r) * u + (r - R) * u' := IntWalk.i64_in _ (by omega)
                  have v6 : IntKind.i64.wrap (((R' - r) * u + (r - R) * u') * 1048576) = ((R' - r) * u + (r - R) * u') * 1048576 := IntWalk.i64_in _ (by omega)
                  have v7 : IntKind.i64.wrap (R' - R) = R' - R := IntWalk.i64_in _ (by omega)
                  have v8 : IntKind.i64.wrap (r * (R' - R)) = r * (R' - R) := IntWalk.i64_in _ (by omega)
                  clear hx hY cb3 cb4 cb5 cb6 cb7 cb8
                  go_wp2_with fail
                  refine (KX.out _).mono ?_; rintro e w4 ⟨rfl, rfl⟩
                  clear d0 d1 s0 s1 sl v1 v2 v3 v4 v5 v6 v7 v8
                  by_cases hxy : x < Y
                  · go_wp2_with fail
                    go_roundw
                    case rel => exact ⟨j + 1, by omega, by go_num, by rw [E2.out, Int.min_eq_right (by omega)], Lib.hid (hwj.out.alloc _)⟩
                    case measure => simp [intOf]; omega
                  · go_wp2_with fail
                    go_roundw
                    case rel => exact ⟨j + 1, by omega, by go_num, by rw [E2.out, Int.min_eq_left (by omega)], Lib.hid (hwj.out.alloc _)⟩
                    case measure => simp [intOf]; omega
                · have E2 := Lib.hid (show mn (dsp xs r k ++ q :: crs xs r k (j + 1)) = Y by
                    have e : crs xs r k (j + 1) = crs xs r k j := by show crs xs r k j ++ _ = _; rw [hR', hu', UR.out.1, if_neg (by omega), List.append_nil]
                    rw [e, hY])
                  clear hY
                  go_wp2_with fail
                  go_roundw
                  case rel => exact ⟨j + 1, by omega, by go_num, by rw [E2.out], Lib.hid (hwj.out.alloc _)⟩
                  case measure => simp [intOf]; omega
              · have E2 := Lib.hid (show mn (dsp xs r k ++ q :: crs xs r k (j + 1)) = Y by
                  have e : crs xs r k (j + 1) = crs xs r k j := by show crs xs r k j ++ _ = _; rw [hR', if_neg (by omega), List.append_nil]
                  rw [e, hY])
                clear hY
                go_wp2_with fail
                go_roundw
                case rel => exact ⟨j + 1, by omega, by go_num, by rw [E2.out], Lib.hid (hwj.out.alloc _)⟩
                case measure => simp [intOf]; omega
            · obtain rfl : j = xs.length := by omega
              have E3 := Lib.hid (show lz (dsp xs r (k + 1)) = mn (dsp xs r k ++ q :: crs xs r k xs.length) by
                rw [E.out]; unfold lz; rw [if_neg (by simp)])
              go_wp2_with fail
              go_roundw
              case rel => exact ⟨k + 1, by omega, by go_num, by rw [E3.out], GW⟩
              case measure => simp [intOf]; omega
        · have HMN := Lib.hid hmn
          go_wp2_with fail
          go_loopw [5, 9] (fun qv jv wj => ∃ j : Nat, j ≤ xs.length ∧ jv = .int .i64 j ∧ qv = .int .i64 (mn (dsp xs r k ++ q :: crs xs r k j)) ∧ Hid (Bl W2 wj)) (fun _ jv _ => xs.length - (intOf jv).toNat)
          case atStart => exact ⟨0, by omega, rfl, by rw [show crs xs r k 0 = [] from rfl, MM.out, HMN.out], Bl.refl _⟩
          case round =>
            obtain ⟨j, hj, rfl, rfl, hwj⟩ := hrel
            have GW := Lib.hid (hw2.out.trans hwj.out)
            by_cases hltj : j < xs.length
            · obtain ⟨b2, off2, e2, hb2, d0, d1⟩ := (HT.out.go GW.out) j hltj
              obtain ⟨rfl, rfl⟩ : b = b2 ∧ off = off2 := by cases e2; exact ⟨rfl, rfl⟩
              clear e2
              obtain ⟨⟨oj1, oj2⟩, oj3, oj4⟩ := HX.out j hltj
              obtain ⟨u', hu'⟩ : ∃ u', fs xs j = u' := ⟨_, rfl⟩
              obtain ⟨R', hR'⟩ : ∃ R', sn xs j = R' := ⟨_, rfl⟩
              rw [hu'] at d0 oj1 oj2
              rw [hR'] at d1 oj3 oj4
              have s0 := (SB.out.go hwj.out).c0
              have s1 := (SB.out.go hwj.out).c1
              have sl := (SB.out.go hwj.out).lt
              obtain ⟨Y, hY⟩ : ∃ Y, mn (dsp xs r k ++ q :: crs xs r k j) = Y := ⟨_, rfl⟩
              rw [hY]
              by_cases t1 : r < R'
              · by_cases t2 : u' < u
                · have cb := cr_bd (u := u') (R := R') (v := u) (S := R) (r := r) ⟨oj1, oj2⟩ ⟨ok1, ok2⟩ oj4 ok3 hr1 (by omega) t1
                  obtain ⟨x, hx⟩ : ∃ x, cr u' R' u R r = x := ⟨_, rfl⟩
                  have E2 := Lib.hid (show mn (dsp xs r k ++ q :: crs xs r k (j + 1)) = min Y x by
                    have e : crs xs r k (j + 1) = crs xs r k j ++ [x] := by show crs xs r k j ++ _ = _; rw [hR', hu', UR.out.1, UR.out.2, if_pos ⟨t1, t2⟩, hx]
                    rw [e, ← List.cons_append, ← List.append_assoc, mn_snoc, hY])
                  rw [hx] at cb
                  obtain ⟨⟨cb1, cb2⟩, ⟨cb3, cb4⟩, ⟨cb5, cb6⟩, cb7, cb8⟩ := cb
                  unfold cr at hx
                  have KX := Lib.hid (fun w => rceil_v hx (by omega) (by omega) w)
                  have v1 : IntKind.i64.wrap (R' - r) = R' - r := IntWalk.i64_in _ (by omega)
                  have v2 : IntKind.i64.wrap (r - R) = r - R := IntWalk.i64_in _ (by omega)
                  have v3 : IntKind.i64.wrap ((R' - r) * u) = (R' - r) * u := IntWalk.i64_in _ (by omega)
                  have v4 : IntKind.i64.wrap ((r - R) * u') = (r - R) * u' := IntWalk.i64_in _ (by omega)
                  have v5 : IntKind.i64.wrap ((R' - r) * u + (r - R) * u') = (R' - r) * u + (r - R) * u' := IntWalk.i64_in _ (by omega)
                  have v6 : IntKind.i64.wrap (((R' - r) * u + (r - R) * u') * 1048576) = ((R' - r) * u + (r - R) * u') * 1048576 := IntWalk.i64_in _ (by omega)
                  have v7 : IntKind.i64.wrap (R' - R) = R' - R := IntWalk.i64_in _ (by omega)
                  have v8 : IntKind.i64.wrap (r * (R' - R)) = r * (R' - R) := IntWalk.i64_in _ (by omega)
                  clear hx hY cb3 cb4 cb5 cb6 cb7 cb8
                  go_wp2_with fail
                  refine (KX.out _).mono ?_; rintro e w4 ⟨rfl, rfl⟩
                  clear d0 d1 s0 s1 sl v1 v2 v3 v4 v5 v6 v7 v8
                  by_cases hxy : x < Y
                  · go_wp2_with fail
                    go_roundw
                    case rel => exact ⟨j + 1, by omega, by go_num, by rw [E2.out, Int.min_eq_right (by omega)], Lib.hid (hwj.out.alloc _)⟩
                    case measure => simp [intOf]; omega
                  · go_wp2_with fail
                    go_roundw
                    case rel => exact ⟨j + 1, by omega, by go_num, by rw [E2.out, Int.min_eq_left (by omega)], Lib.hid (hwj.out.alloc _)⟩
                    case measure => simp [intOf]; omega
                · have E2 := Lib.hid (show mn (dsp xs r k ++ q :: crs xs r k (j + 1)) = Y by
                    have e : crs xs r k (j + 1) = crs xs r k j := by show crs xs r k j ++ _ = _; rw [hR', hu', UR.out.1, if_neg (by omega), List.append_nil]
                    rw [e, hY])
                  clear hY
                  go_wp2_with fail
                  go_roundw
                  case rel => exact ⟨j + 1, by omega, by go_num, by rw [E2.out], Lib.hid (hwj.out.alloc _)⟩
                  case measure => simp [intOf]; omega
              · have E2 := Lib.hid (show mn (dsp xs r k ++ q :: crs xs r k (j + 1)) = Y by
                  have e : crs xs r k (j + 1) = crs xs r k j := by show crs xs r k j ++ _ = _; rw [hR', if_neg (by omega), List.append_nil]
                  rw [e, hY])
                clear hY
                go_wp2_with fail
                go_roundw
                case rel => exact ⟨j + 1, by omega, by go_num, by rw [E2.out], Lib.hid (hwj.out.alloc _)⟩
                case measure => simp [intOf]; omega
            · obtain rfl : j = xs.length := by omega
              have E3 := Lib.hid (show lz (dsp xs r (k + 1)) = mn (dsp xs r k ++ q :: crs xs r k xs.length) by
                rw [E.out]; unfold lz; rw [if_neg (by simp)])
              go_wp2_with fail
              go_roundw
              case rel => exact ⟨k + 1, by omega, by go_num, by rw [E3.out], GW⟩
              case measure => simp [intOf]; omega
        · have HMN := Lib.hid hmn
          go_wp2_with fail
          go_loopw [5, 9] (fun qv jv wj => ∃ j : Nat, j ≤ xs.length ∧ jv = .int .i64 j ∧ qv = .int .i64 (mn (dsp xs r k ++ q :: crs xs r k j)) ∧ Hid (Bl W2 wj)) (fun _ jv _ => xs.length - (intOf jv).toNat)
          case atStart => exact ⟨0, by omega, rfl, by rw [show crs xs r k 0 = [] from rfl, MM.out, HMN.out], Bl.refl _⟩
          case round =>
            obtain ⟨j, hj, rfl, rfl, hwj⟩ := hrel
            have GW := Lib.hid (hw2.out.trans hwj.out)
            by_cases hltj : j < xs.length
            · obtain ⟨b2, off2, e2, hb2, d0, d1⟩ := (HT.out.go GW.out) j hltj
              obtain ⟨rfl, rfl⟩ : b = b2 ∧ off = off2 := by cases e2; exact ⟨rfl, rfl⟩
              clear e2
              obtain ⟨⟨oj1, oj2⟩, oj3, oj4⟩ := HX.out j hltj
              obtain ⟨u', hu'⟩ : ∃ u', fs xs j = u' := ⟨_, rfl⟩
              obtain ⟨R', hR'⟩ : ∃ R', sn xs j = R' := ⟨_, rfl⟩
              rw [hu'] at d0 oj1 oj2
              rw [hR'] at d1 oj3 oj4
              have s0 := (SB.out.go hwj.out).c0
              have s1 := (SB.out.go hwj.out).c1
              have sl := (SB.out.go hwj.out).lt
              obtain ⟨Y, hY⟩ : ∃ Y, mn (dsp xs r k ++ q :: crs xs r k j) = Y := ⟨_, rfl⟩
              rw [hY]
              by_cases t1 : r < R'
              · by_cases t2 : u' < u
                · have cb := cr_bd (u := u') (R := R') (v := u) (S := R) (r := r) ⟨oj1, oj2⟩ ⟨ok1, ok2⟩ oj4 ok3 hr1 (by omega) t1
                  obtain ⟨x, hx⟩ : ∃ x, cr u' R' u R r = x := ⟨_, rfl⟩
                  have E2 := Lib.hid (show mn (dsp xs r k ++ q :: crs xs r k (j + 1)) = min Y x by
                    have e : crs xs r k (j + 1) = crs xs r k j ++ [x] := by show crs xs r k j ++ _ = _; rw [hR', hu', UR.out.1, UR.out.2, if_pos ⟨t1, t2⟩, hx]
                    rw [e, ← List.cons_append, ← List.append_assoc, mn_snoc, hY])
                  rw [hx] at cb
                  obtain ⟨⟨cb1, cb2⟩, ⟨cb3, cb4⟩, ⟨cb5, cb6⟩, cb7, cb8⟩ := cb
                  unfold cr at hx
                  have KX := Lib.hid (fun w => rceil_v hx (by omega) (by omega) w)
                  have v1 : IntKind.i64.wrap (R' - r) = R' - r := IntWalk.i64_in _ (by omega)
                  have v2 : IntKind.i64.wrap (r - R) = r - R := IntWalk.i64_in _ (by omega)
                  have v3 : IntKind.i64.wrap ((R' - r) * u) = (R' - r) * u := IntWalk.i64_in _ (by omega)
                  have v4 : IntKind.i64.wrap ((r - R) * u') = (r - R) * u' := IntWalk.i64_in _ (by omega)
                  have v5 : IntKind.i64.wrap ((R' - r) * u + (r - R) * u') = (R' - r) * u + (r - R) * u' := IntWalk.i64_in _ (by omega)
                  have v6 : IntKind.i64.wrap (((R' - r) * u + (r - R) * u') * 1048576) = ((R' - r) * u + (r - R) * u') * 1048576 := IntWalk.i64_in _ (by omega)
                  have v7 : IntKind.i64.wrap (R' - R) = R' - R := IntWalk.i64_in _ (by omega)
                  have v8 : IntKind.i64.wrap (r * (R' - R)) = r * (R' - R) := IntWalk.i64_in _ (by omega)
                  clear hx hY cb3 cb4 cb5 cb6 cb7 cb8
                  go_wp2_with fail
                  refine (KX.out _).mono ?_; rintro e w4 ⟨rfl, rfl⟩
                  clear d0 d1 s0 s1 sl v1 v2 v3 v4 v5 v6 v7 v8
                  by_cases hxy : x < Y
                  · go_wp2_with fail
                    go_roundw
                    case rel => exact ⟨j + 1, by omega, by go_num, by rw [E2.out, Int.min_eq_right (by omega)], Lib.hid (hwj.out.alloc _)⟩
                    case measure => simp [intOf]; omega
                  · go_wp2_with fail
                    go_roundw
                    case rel => exact ⟨j + 1, by omega, by go_num, by rw [E2.out, Int.min_eq_left (by omega)], Lib.hid (hwj.out.alloc _)⟩
                    case measure => simp [intOf]; omega
                · have E2 := Lib.hid (show mn (dsp xs r k ++ q :: crs xs r k (j + 1)) = Y by
                    have e : crs xs r k (j + 1) = crs xs r k j := by show crs xs r k j ++ _ = _; rw [hR', hu', UR.out.1, if_neg (by omega), List.append_nil]
                    rw [e, hY])
                  clear hY
                  go_wp2_with fail
                  go_roundw
                  case rel => exact ⟨j + 1, by omega, by go_num, by rw [E2.out], Lib.hid (hwj.out.alloc _)⟩
                  case measure => simp [intOf]; omega
              · have E2 := Lib.hid (show mn (dsp xs r k ++ q :: crs xs r k (j + 1)) = Y by
                  have e : crs xs r k (j + 1) = crs xs r k j := by show crs xs r k j ++ _ = _; rw [hR', if_neg (by omega), List.append_nil]
                  rw [e, hY])
                clear hY
                go_wp2_with fail
                go_roundw
                case rel => exact ⟨j + 1, by omega, by go_num, by rw [E2.out], Lib.hid (hwj.out.alloc _)⟩
                case measure => simp [intOf]; omega
            · obtain rfl : j = xs.length := by omega
              have E3 := Lib.hid (show lz (dsp xs r (k + 1)) = mn (dsp xs r k ++ q :: crs xs r k xs.length) by
                rw [E.out]; unfold lz; rw [if_neg (by simp)])
              go_wp2_with fail
              go_roundw
              case rel => exact ⟨k + 1, by omega, by go_num, by rw [E3.out], GW⟩
              case measure => simp [intOf]; omega
    · obtain rfl : k = xs.length := by omega
      go_wp2_with fail
      go_ret
      exact ⟨ret_int HS.out, hw.out⟩

set_option maxRecDepth 100000 in
set_option maxHeartbeats 4000000 in
theorem rdelay_any (xs : List (Int × Int)) (A : Option Addr) (cap : Nat) (r l : Int) (w : World) (hn : (xs.length : Int) ≤ 9223372036854775807) (hT : Tr w A xs) :
    Calls Try.prog 34 #[.slice A xs.length cap, .agg #[.int .i64 r, .int .i64 l]] w fun e w' => e = .returned (.tuple #[.int .i64 (deV xs r l), .int .i64 (flE xs r l)]) ∧ Bl w w' := by
  have HT := Lib.hid hT; clear hT
  by_cases h1 : xs.length = 0
  · have e1 : flE xs r l = 2 := by unfold flE; rw [if_pos h1]
    have e2 := deV_no (show flE xs r l ≠ 0 by rw [e1]; decide)
    rw [e1, e2]
    have h1' : (xs.length : Int) = 0 := by omega
    clear e1 e2
    go_enter Try.func34, Try.ntmps34
    go_wp2_with fail
    go_ret2
    exact ⟨rfl, (Bl.refl w).alloc _⟩
  · by_cases h2 : 12 < xs.length
    · have e1 : flE xs r l = 3 := by unfold flE; rw [if_neg h1, if_pos (by omega)]
      have e2 := deV_no (show flE xs r l ≠ 0 by rw [e1]; decide)
      rw [e1, e2]
      have h1' : ¬ (xs.length : Int) = 0 := by omega
      have h2' : 12 < (xs.length : Int) := by omega
      clear e1 e2
      go_enter Try.func34, Try.ntmps34
      go_wp2_with fail
      go_ret2
      exact ⟨rfl, (Bl.refl w).alloc _⟩
    · have h1' : ¬ (xs.length : Int) = 0 := by omega
      have h2' : ¬ 12 < (xs.length : Int) := by omega
      obtain ⟨V, hV⟩ : ∃ V, deV xs r l = V := ⟨_, rfl⟩
      obtain ⟨E, hE⟩ : ∃ E, flE xs r l = E := ⟨_, rfl⟩
      rw [hV, hE]
      have VE := Lib.hid (And.intro hV hE)
      clear hV hE
      go_enter Try.func34, Try.ntmps34
      go_wp2_with fail
      have SA0 := Lib.hid (Sl.new w r l 54)
      have B0 := Lib.hid ((Bl.refl w).alloc (.cells #[.int .i64 r, .int .i64 l] 54))
      generalize (w.alloc (.cells #[.int .i64 r, .int .i64 l] 54)) = W at *
      generalize w.heap.size = a at *
      go_loopw [6] (fun iv wr => ∃ k : Nat, k ≤ xs.length ∧ iv = .int .i64 k ∧ Hid (∀ j, j < k → bkB (fs xs j) (sn xs j) = true) ∧ Hid (Bl W wr)) (fun iv _ => xs.length - (intOf iv).toNat)
      case atStart => exact ⟨0, by omega, rfl, Lib.hid (fun j hj => absurd hj (by omega)), Bl.refl _⟩
      case round =>
        obtain ⟨k, hk, rfl, hE, hw⟩ := hrel
        by_cases hlt : k < xs.length
        · obtain ⟨b, off, rfl, hb, c0, c1⟩ := (HT.out.go (B0.out.trans hw.out)) k hlt
          obtain ⟨u, hu⟩ : ∃ u, fs xs k = u := ⟨_, rfl⟩
          obtain ⟨R, hR⟩ : ∃ R, sn xs k = R := ⟨_, rfl⟩
          rw [hu] at c0
          rw [hR] at c1
          rcases bcase (bkB u R) with hb1 | hb1
          · have K1 := Lib.hid (fun w => right_v hb1 w)
            have HV := Lib.hid (show bkB (fs xs k) (sn xs k) = true by rw [hu, hR]; exact hb1)
            clear hb1 hu hR
            go_wp2_with fail
            refine (K1.out _).mono ?_; rintro e w1 ⟨rfl, gr⟩
            have G := Lib.hid (hw.out.trans gr); clear gr
            go_wp2_with fail
            go_roundw
            case rel =>
              refine ⟨k + 1, by omega, by go_num, Lib.hid (fun j hj => ?_), G⟩
              rcases Nat.lt_or_ge j k with h' | h'
              · exact hE.out j h'
              · obtain rfl : j = k := by omega
                exact HV.out
            case measure => simp [intOf]; omega
          · have K1 := Lib.hid (fun w => right_v hb1 w)
            have hbs : bksB xs = false := by
              rcases bcase (bksB xs) with h | h
              · have := bksB_iff.1 h k hlt; rw [hu, hR, hb1] at this; cases this
              · exact h
            have e1 : flE xs r l = 130 := by unfold flE; rw [if_neg h1, if_neg (by omega), if_pos hbs]
            have e2 := deV_no (show flE xs r l ≠ 0 by rw [e1]; decide)
            have hE2 : E = 130 := by rw [← VE.out.2]; exact e1
            have hV2 : V = 0 := by rw [← VE.out.1]; exact e2
            subst hE2 hV2
            clear hb1 hu hR e1 e2 hbs VE
            go_wp2_with fail
            refine (K1.out _).mono ?_; rintro e w1 ⟨rfl, gr⟩
            have G := Lib.hid (hw.out.trans gr); clear gr
            go_wp2_with fail
            go_ret2
            exact ⟨rfl, B0.out.trans G.out⟩
        · obtain rfl : k = xs.length := by omega
          have hbs : bksB xs = true := bksB_iff.2 hE.out
          have s0 := (SA0.out.go hw.out).c0
          have s1 := (SA0.out.go hw.out).c1
          rcases bcase (svB r l) with hs | hs
          · have K1 := Lib.hid (fun w => sright_v hs w)
            rcases bcase (slB xs r) with hq | hq
            · have K2 := Lib.hid (fun w (h : Tr w A xs) => by have := rslow_any xs A cap r w hn h; rw [hq] at this; exact this)
              have e1 : flE xs r l = 0 := flE_ok.2 ⟨by omega, by omega, hbs, hs, hq⟩
              have e2 := deV_ok e1
              have hE2 : E = 0 := by rw [← VE.out.2]; exact e1
              obtain ⟨⟨r1, r2⟩, l1, l2⟩ := svB_iff.1 hs
              have cb := clr_bd ⟨r1, r2⟩ hbs hq
              have KC := Lib.hid (fun w (h : Tr w A xs) => rclearing_any xs A cap r ⟨r1, r2⟩ (by omega) (fun k hk => bkB_iff.1 (bksB_iff.1 hbs k hk)) hq w h)
              obtain ⟨c, hc⟩ : ∃ c, clr xs r = c := ⟨_, rfl⟩
              rw [hc] at KC cb e2
              have hV2 : V = l + c := by rw [← VE.out.1]; exact e2
              have wl : IntKind.i64.wrap (l + c) = l + c := IntWalk.i64_in _ (by omega)
              subst hE2 hV2
              clear e1 e2 cb hc hq hs hbs VE
              go_wp2_with fail
              refine (K1.out _).mono ?_; rintro e w1 ⟨rfl, gr⟩
              have G1 := Lib.hid (hw.out.trans gr)
              clear gr s0 s1
              have s0 := (SA0.out.go G1.out).c0
              have s1 := (SA0.out.go G1.out).c1
              go_wp2_with fail
              refine (K2.out _ (HT.out.go (B0.out.trans G1.out))).mono ?_; rintro e w2 ⟨rfl, gr⟩
              have G2 := Lib.hid (G1.out.trans gr)
              clear gr s0 s1
              have HD := Lib.hid (show ∀ w', Bl w2 w' → (w'.cell? ⟨a, 0, none⟩ = some (.int .i64 r) ∧ w'.cell? ⟨a, 1, none⟩ = some (.int .i64 l) ∧ Hid (Bl w2 w')) from fun w' g => ⟨(SA0.out.go (G2.out.trans g)).c0, (SA0.out.go (G2.out.trans g)).c1, g⟩)
              have KC2 := Lib.hid (fun w' (g : Bl w2 w') => KC.out w' (HT.out.go (B0.out.trans (G2.out.trans g))))
              obtain ⟨s0, s1, _⟩ := HD.out w2 (Bl.refl _)
              go_wp2_with fail
              go_region_held3 (fun w' => w'.cell? ⟨a, 0, none⟩ = some (.int .i64 r) ∧ w'.cell? ⟨a, 1, none⟩ = some (.int .i64 l) ∧ Hid (Bl w2 w'))
                (first | with_reducible assumption | (refine HD.out _ ?_; (repeat (first | exact BA.out | exact Bl.refl _ | with_reducible refine Bl.drew ?_)); done) | fail)
                (first | (go_at_call 60; rename _ ∧ _ ∧ Hid (Bl w2 _) => hq; (with_reducible refine (KC2.out _ hq.2.2.out).mono ?_); rintro e w3 ⟨rfl, hgr⟩; have BA := Lib.hid (Bl.trans (Hid.out hq.2.2) hgr)) | fail)
              all_goals go_wp2_with fail
              all_goals go_ret2
              all_goals exact ⟨rfl, B0.out.trans (G2.out.trans (And.right (And.right (by assumption : _ ∧ _ ∧ Hid (Bl w2 _)))).out)⟩
            · have K2 := Lib.hid (fun w (h : Tr w A xs) => by have := rslow_any xs A cap r w hn h; rw [hq] at this; exact this)
              have e1 : flE xs r l = 141 := by unfold flE; rw [if_neg h1, if_neg (by omega), if_neg (by rw [hbs]; decide), if_neg (by rw [hs]; decide), if_pos hq]
              have e2 := deV_no (show flE xs r l ≠ 0 by rw [e1]; decide)
              have hE2 : E = 141 := by rw [← VE.out.2]; exact e1
              have hV2 : V = 0 := by rw [← VE.out.1]; exact e2
              subst hE2 hV2
              clear e1 e2 hq hs hbs VE
              go_wp2_with fail
              refine (K1.out _).mono ?_; rintro e w1 ⟨rfl, gr⟩
              have G1 := Lib.hid (hw.out.trans gr)
              clear gr s0 s1
              have s0 := (SA0.out.go G1.out).c0
              have s1 := (SA0.out.go G1.out).c1
              go_wp2_with fail
              refine (K2.out _ (HT.out.go (B0.out.trans G1.out))).mono ?_; rintro e w2 ⟨rfl, gr⟩
              have G2 := Lib.hid (G1.out.trans gr)
              clear gr s0 s1
              go_wp2_with fail
              go_ret2
              exact ⟨rfl, B0.out.trans G2.out⟩
          · have K1 := Lib.hid (fun w => sright_v hs w)
            have e1 : flE xs r l = 140 := by unfold flE; rw [if_neg h1, if_neg (by omega), if_neg (by rw [hbs]; decide), if_pos hs]
            have e2 := deV_no (show flE xs r l ≠ 0 by rw [e1]; decide)
            have hE2 : E = 140 := by rw [← VE.out.2]; exact e1
            have hV2 : V = 0 := by rw [← VE.out.1]; exact e2
            subst hE2 hV2
            clear e1 e2 hs hbs VE
            go_wp2_with fail
            refine (K1.out _).mono ?_; rintro e w1 ⟨rfl, gr⟩
            have G1 := Lib.hid (hw.out.trans gr)
            clear gr s0 s1
            go_wp2_with fail
            go_ret2
            exact ⟨rfl, B0.out.trans G1.out⟩
theorem rdelay1 {u R r l v e0 : Int} {c : Nat} {w : World} (hv : deV [(u, R)] r l = v) (he : flE [(u, R)] r l = e0) (h0 : w.cell? ⟨c, 0, none⟩ = some (.int .i64 u)) (h1 : w.cell? ⟨c, 1, none⟩ = some (.int .i64 R)) :
    Calls Try.prog 34 #[.slice (some ⟨c, 0, none⟩) 1 1, .agg #[.int .i64 r, .int .i64 l]] w fun e w' => e = .returned (.tuple #[.int .i64 v, .int .i64 e0]) ∧ Bl w w' := by
  have := rdelay_any [(u, R)] (some ⟨c, 0, none⟩) 1 r l w (by simp) (Tr.one h0 h1)
  rw [hv, he] at this; exact this

end Go.Proofs.Ytgbbglnbolihfaa
