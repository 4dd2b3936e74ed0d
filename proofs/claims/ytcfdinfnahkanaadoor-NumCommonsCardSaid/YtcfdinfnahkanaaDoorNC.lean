/-
  NumCommons, under way.
-/
import Derived.Test.YtcfdinfnahkanaaDoorNt
import Derived.Test.YtcfdinfnahkanaaDoorNaa
import Derived.Test.YtcfdinfnahkanaaDoorNl
import Derived.Deep.OwnRows
namespace Go.Proofs.YtcfdinfnahkanaaDoor
open Go.RowKit

theorem infoInt : (Tryd.prog.info? 3).map (fun i => (i.zero, i.size, i.bytes)) = some (some (.int .i64 0), 1, 8) := by kernel_rfl

theorem frozen_new (w : World) (b o : Nat) (h : w.heap.size ≤ b) : w.frozen? ⟨b, o, none⟩ = false := by
  have : w.heap[b]? = none := Array.getElem?_eq_none h
  simp [World.frozen?, this]
def smallOf (z : Int) : Int := 1 + ((unat z % 60 : Nat) : Int)
theorem madeInts_get (m j : Nat) (hj : j < m) : (madeCells #[Value.int .i64 0] m)[j]? = some (.int .i64 0) := by
  unfold madeCells
  simp [hj, Nat.mod_one]

def smalls (zs : List Int) (m : Nat) : List Int := (zs.take m).map smallOf
theorem smalls_len (zs : List Int) (m : Nat) (h : m ≤ zs.length) : (smalls zs m).length = m := by unfold smalls; simp; omega
theorem smalls_get (zs : List Int) (m j : Nat) (h : m ≤ zs.length) (hj : j < m) : (smalls zs m).getD j 0 = smallOf (zs.getD j 0) := by
  unfold smalls
  have : j < zs.length := by omega
  simp [List.getD_eq_getElem?_getD, hj, this]

theorem numCommons_elem (N0 N1 : Nat) (a b u v : Int) (ha : fits a) (hb : fits b) (k : Nat) (hk : k < 3) : ∃ x y : Int, fits x ∧ fits y ∧ ∀ w, (Instr.index 25 (.agg #[.int .i64 a, .int .i64 b, .int .i64 (nearV a u), .int .i64 (nearV b v), .int .i64 ((N0 : Int) % 3000), .int .i64 (-((N1 : Int) % 3000))]) (.int .i64 k)).run Tryd.prog w = .ok (.agg #[.int .i64 x, .int .i64 y]) w := by
  match k, hk with
  | 0, _ => exact ⟨a, b, ha, hb, fun _ => by kernel_rfl⟩
  | 1, _ => exact ⟨nearV a u, nearV b v, nearV_fits a u ha, nearV_fits b v hb, fun _ => by kernel_rfl⟩
  | 2, _ => exact ⟨(N0 : Int) % 3000, -((N1 : Int) % 3000), by unfold fits; omega, by unfold fits; omega, fun _ => by kernel_rfl⟩

theorem keep2_first {w : World} {p0 p1 : Addr} {v0 v1 : Value} (h0 : w.cell? p0 = some v0) (h1 : w.cell? p1 = some v1) : w.drew.cell? p0 = some v0 ∧ w.drew.cell? p1 = some v1 ∧ Grown w w.drew := ⟨h0, h1, (Grown.refl w).drew⟩
theorem keep2_step {w w1 w2 : World} {p0 p1 : Addr} {v0 v1 : Value} (h : w1.cell? p0 = some v0 ∧ w1.cell? p1 = some v1 ∧ Grown w w1) (h0 : Hid (p0.block < w.heap.size)) (h1 : Hid (p1.block < w.heap.size)) (g : Grown w1 w2) : w2.cell? p0 = some v0 ∧ w2.cell? p1 = some v1 ∧ Grown w w2 :=
  ⟨(grown_cell g (Nat.lt_of_lt_of_le h0.out h.2.2.2.2)).trans h.1, (grown_cell g (Nat.lt_of_lt_of_le h1.out h.2.2.2.2)).trans h.2.1, grown_trans h.2.2 g⟩

theorem row_push {w : World} {base : Nat} {e : TypeId} {g k cap : Nat} {l : List Int} {a : Int} (h : w.ownsRow base e 1 (.slice (some ⟨g, 0, none⟩) (k + 1) cap) (k + 1) (l.map (Value.int .i64) ++ [.int .i64 a])) (hl : l.length = k) (hk : k ≤ 12) :
    Row w (some ⟨g, 0, none⟩) (l ++ [a]) := by
  have e1 : (l.map (Value.int .i64) ++ [.int .i64 a]) = (l ++ [a]).map (Value.int .i64) := by simp
  have e2 : k + 1 = (l ++ [a]).length := by simp [hl]
  rw [e1, e2] at h
  obtain ⟨ad, cp, hv, hr⟩ := row_of_own h (by simp) (by simp; omega)
  simp only [Value.slice.injEq] at hv
  rw [hv.1]
  exact hr
theorem nc_elem (w : World) (a0 a1 a2 : Option Addr) (n0 n1 n2 c0 c1 c2 : Nat) (l0 l1 l2 : List Int) (h0 : l0.length = n0) (h1 : l1.length = n1) (h2 : l2.length = n2) (r0 : Row w a0 l0) (r1 : Row w a1 l1) (r2 : Row w a2 l2) (j : Nat) (hj : j < 3) :
    ∃ (ad : Option Addr) (cp : Nat) (l : List Int), Row w ad l ∧ ∀ w', (Instr.index 38 (.agg #[.slice a0 n0 c0, .slice a1 n1 c1, .slice a2 n2 c2]) (.int .i64 j)).run Tryd.prog w' = .ok (.slice ad l.length cp) w' := by
  subst h0 h1 h2
  match j, hj with
  | 0, _ => exact ⟨a0, c0, l0, r0, fun _ => by kernel_rfl⟩
  | 1, _ => exact ⟨a1, c1, l1, r1, fun _ => by kernel_rfl⟩
  | 2, _ => exact ⟨a2, c2, l2, r2, fun _ => by kernel_rfl⟩
theorem ores_form (o : Option Int) : ∃ vv cc, ores o = .returned (.tuple #[.int .i64 vv, .bool cc]) := by
  cases o with
  | none => exact ⟨0, false, rfl⟩
  | some v => exact ⟨v, true, rfl⟩

set_option maxRecDepth 100000 in
set_option maxHeartbeats 4000000 in
theorem numCommons_some (a b u v : Int) (zs : List Int) (p : Nat) (off cap : Nat) (w : World) (hT : Tab w) (ha : fits a) (hb : fits b) (u0 : 0 ≤ u) (u1 : u ≤ 255) (v0 : 0 ≤ v) (v1 : v ≤ 255)
    (hR : Row w (some ⟨p, off, none⟩) zs) (hcap : zs.length ≤ cap) (hcm : cap ≤ 9223372036854775807) (m : Nat) (hm : min zs.length 12 = m) :
    Calls Tryd.prog 6 #[.agg #[.int .i64 a, .int .i64 b], .agg #[.int .u8 u, .int .u8 v], .slice (some ⟨p, off, none⟩) zs.length cap] w fun e w' => e = .returned (.bool true) ∧ Gr w w' := by
  have HT := Lib.hid hT; clear hT
  have HR := Lib.hid hR; clear hR
  have hm1 : m ≤ 12 := by omega
  have hm2 : m ≤ zs.length := by omega
  have hmin : ∀ (w : World) (ts : Array TypeId) (t : TypeId), (Builtin.min_ ts t #[.int .i64 (zs.length : Int), .int .i64 12]).run Tryd.prog w = .ok (.int .i64 (m : Int)) w := by
    intro w ts t
    rw [run_min_int2]
    have : (if (12 : Int) < (zs.length : Int) then (12 : Int) else (zs.length : Int)) = (m : Int) := by split <;> omega
    rw [this]
  have hmk := fun w => run_make_row' (P := Tryd.prog) 36 3 (.int .i64 0) 8 Tryd.underlying36 infoInt rfl .i64 .i64 m (by omega) (by omega) w
  go_enter Tryd.func6, Tryd.ntmps6
  go_wp2_with fail
  go_loopw [8] (fun i wr => ∃ k : Nat, k ≤ m ∧ i = .int .i64 k ∧ Hid (Grown w wr) ∧ Hid (w.heap.size + 1 + 1 < wr.heap.size) ∧ Hid (∀ j, j < m → wr.cell? ⟨w.heap.size + 1 + 1, j, none⟩ = some (.int .i64 (if j < k then smallOf (zs.getD j 0) else 0)))
    ∧ Hid (wr.cell? ⟨w.heap.size, 0, none⟩ = some (.int .i64 a) ∧ wr.cell? ⟨w.heap.size, 1, none⟩ = some (.int .i64 b) ∧ wr.cell? ⟨w.heap.size + 1, 0, none⟩ = some (.int .u8 u) ∧ wr.cell? ⟨w.heap.size + 1, 1, none⟩ = some (.int .u8 v))) (fun i _ => m - (intOf i).toNat)
  case atStart =>
    refine ⟨0, by omega, rfl, ((((Grown.refl w).alloc _ _).alloc _ _).alloc _ _), (by simp : w.heap.size + 1 + 1 < _), ?_, ?_⟩
    · intro j hj
      rw [if_neg (by omega), World.cell?_alloc_at _ _ _ _ (by simp)]
      exact madeInts_get m j hj
    · exact ⟨by simp [go_sem], by simp [go_sem], by simp [go_sem], by simp [go_sem]⟩
  case round =>
    obtain ⟨k, hk, rfl, hgw, hsz, hcl, hab⟩ := hrel
    by_cases hlt : k < m
    · obtain ⟨p', off', ea, hb1, hz⟩ := (HR.out.grown hgw.out).at_ k (by omega)
      obtain ⟨rfl, rfl⟩ : p = p' ∧ off = off' := by
        simp only [Option.some.injEq, Addr.mk.injEq, and_true] at ea
        exact ea
      have hold := hcl.out k hlt
      have hfr : wr.frozen? ⟨w.heap.size + 1 + 1, k, none⟩ = false := (hgw.out.2.1 _).trans (frozen_new w _ _ (by omega))
      obtain ⟨N, hN⟩ : ∃ N, unat (zs.getD k 0) = N := ⟨_, rfl⟩
      have hsm : Hid (smallOf (zs.getD k 0) = 1 + (N : Int) % 60) := by unfold Hid smallOf; rw [hN]; omega
      generalize hzz : zs.getD k 0 = z at *
      have hw : IntKind.u64.wrap z = (N : Int) := by rw [IntKind.wrap_u64, ← hN]; unfold unat; omega
      have HZ := Lib.hid hzz
      clear hN hzz hb1 ea
      have HM := Lib.hid hmin; clear hmin
      clear hmk
      go_wp2
      go_roundw
      case rel =>
        refine ⟨k + 1, by omega, by go_num, hgw.out.setCell (by show w.heap.size ≤ w.heap.size + 1 + 1; omega) _, by have := hsz.out; unfold Hid; simpa [World.setCell] using this, ?_, ?_⟩
        · intro j hj
          by_cases hjk : j = k
          · subst hjk
            rw [if_pos (by omega), HZ.out, hsm.out]
            exact World.cell?_setCell_same _ _ _ hold
          · rw [World.cell?_setCell_other _ _ _ _ (by intro h; simp only [Addr.mk.injEq] at h; exact hjk h.2.1.symm), hcl.out j hj]
            by_cases hjl : j < k
            · rw [if_pos hjl, if_pos (by omega)]
            · rw [if_neg hjl, if_neg (by omega)]
        · obtain ⟨x1, x2, x3, x4⟩ := hab.out
          refine ⟨?_, ?_, ?_, ?_⟩
          · rw [World.cell?_setCell_other _ _ _ _ (by intro h; simp only [Addr.mk.injEq] at h; omega)]; exact x1
          · rw [World.cell?_setCell_other _ _ _ _ (by intro h; simp only [Addr.mk.injEq] at h; omega)]; exact x2
          · rw [World.cell?_setCell_other _ _ _ _ (by intro h; simp only [Addr.mk.injEq] at h; omega)]; exact x3
          · rw [World.cell?_setCell_other _ _ _ _ (by intro h; simp only [Addr.mk.injEq] at h; omega)]; exact x4
      case measure => simp [intOf]; omega
    · obtain rfl : k = m := by omega
      have hrow2 : Hid (Row wr (some ⟨w.heap.size + 1 + 1, 0, none⟩) (smalls zs k)) := ⟨by rw [smalls_len zs k hm2]; omega, fun j hj => by
        rw [smalls_len zs k hm2] at hj
        refine ⟨w.heap.size + 1 + 1, 0, rfl, hsz.out, ?_⟩
        rw [Nat.zero_add, hcl.out j hj, if_pos hj, smalls_get zs k j hm2 hj]⟩
      have hrow1 : Hid (Row wr (some ⟨p, off, none⟩) (zs.take k)) := by
        have h := HR.out.grown hgw.out
        refine ⟨by rw [List.length_take]; omega, fun j hj => ?_⟩
        rw [List.length_take] at hj
        obtain ⟨b', o', e1, e2, e3⟩ := h.at_ j (by omega)
        refine ⟨b', o', e1, e2, ?_⟩
        rw [e3]
        simp [List.getD_eq_getElem?_getD, show j < k by omega]
      obtain ⟨x1, x2, x3, x4⟩ := hab.out
      obtain ⟨N0, hN0⟩ : ∃ N, unat a = N := ⟨_, rfl⟩
      obtain ⟨N1, hN1⟩ : ∃ N, unat b = N := ⟨_, rfl⟩
      have hw0 : IntKind.u64.wrap a = (N0 : Int) := by rw [IntKind.wrap_u64, ← hN0]; unfold unat; omega
      have hw1 : IntKind.u64.wrap b = (N1 : Int) := by rw [IntKind.wrap_u64, ← hN1]; unfold unat; omega
      have hneg : IntKind.i64.wrap (-((N1 : Int) % 3000)) = -((N1 : Int) % 3000) := IntWalk.i64_in _ (by omega)
      have HM := Lib.hid hmin; clear hmin
      clear hmk hN0 hN1 hab hcl
      have HE := Lib.hid (numCommons_elem N0 N1 a b u v ha hb)
      go_wp2_with fail
      go_quiet ((go_at_call 11; exact Calls.quiet_of_same (near_any _ _ _ (by assumption) (by assumption) (by assumption))))
      go_wp2_with fail
      have x1 := Lib.hid x1
      have x2 := Lib.hid x2
      have x3 := Lib.hid x3
      have x4 := Lib.hid x4
      obtain ⟨wo, rfl⟩ : ∃ wo : World, wo = wr := ⟨_, rfl⟩
      go_loopw [67] (fun i wx => ∃ n : Nat, n ≤ 3 ∧ i = .int .i64 n ∧ Hid (Grown wo wx)) (fun i _ => 3 - (intOf i).toNat)
      case atStart => exact ⟨0, by omega, rfl, grown_drewN _ _⟩
      case round =>
        obtain ⟨n, hn, rfl, hgx⟩ := hrel
        by_cases hlt2 : n < 3
        · obtain ⟨x, y, fx, fy, hidx⟩ := HE.out n hlt2
          have GG := fun w hT => gcd_any x y w hT
          have GR := fun w => rgcd_any x y w
          obtain ⟨g, hg⟩ : ∃ g, gcdV x y = g := ⟨_, rfl⟩
          rw [hg] at GG GR
          have HG := Lib.hid GG
          have HH := Lib.hid GR
          clear GG GR hg fx fy HE
          have G2 := Lib.hid (grown_trans (grown_trans hgw.out hgx.out) ((Grown.refl wr).alloc #[.int .i64 x, .int .i64 y] 22))
          have GT := Lib.hid (HT.out.grown G2.out)
          have s0 : Hid (wr.heap.size < (wr.alloc (.cells #[.int .i64 x, .int .i64 y] 22)).heap.size) := by unfold Hid; simp
          have c0 : (wr.alloc (.cells #[.int .i64 x, .int .i64 y] 22)).cell? ⟨wr.heap.size, 0, none⟩ = some (.int .i64 x) := by simp [go_sem]
          have c1 : (wr.alloc (.cells #[.int .i64 x, .int .i64 y] 22)).cell? ⟨wr.heap.size, 1, none⟩ = some (.int .i64 y) := by simp [go_sem]
          go_upto_region 10 with fail
          go_region_held3 (fun w' => w'.cell? ⟨wr.heap.size, 0, none⟩ = some (.int .i64 x) ∧ w'.cell? ⟨wr.heap.size, 1, none⟩ = some (.int .i64 y) ∧ Grown (wr.alloc (.cells #[.int .i64 x, .int .i64 y] 22)) w') (first | exact keep2_first c0 c1 | assumption | (refine keep2_step ?_ s0 s0 gr; assumption)) (first | (go_at_call 27; have hk2 : Grown (wr.alloc (.cells #[.int .i64 x, .int .i64 y] 22)) _ := And.right (And.right (by assumption)); refine (HG.out _ (GT.out.grown hk2)).mono ?_; rintro e w' ⟨rfl, gr⟩) | (go_at_call 28; refine (HH.out _).mono ?_; rintro e w' ⟨rfl, gr⟩))
          have hk3 : Grown (wr.alloc (.cells #[.int .i64 x, .int .i64 y] 22)) _ := And.right (And.right (by assumption))
          have G4 := Lib.hid (grown_trans (grown_trans hgx.out ((Grown.refl wr).alloc #[.int .i64 x, .int .i64 y] 22)) hk3)
          clear hk3
          go_wp2
          go_roundw
          case rel => exact ⟨n + 1, by omega, by go_num, G4⟩
          case measure => simp [intOf]; omega
        · have r2 := Lib.hid (hrow2.out.grown hgx.out)
          have r1 := Lib.hid (hrow1.out.grown hgx.out)
          have GW := Lib.hid (grown_trans hgw.out hgx.out)
          have lt0 : w.heap.size < wo.heap.size := by have := hsz.out; omega
          have ya := (grown_cell hgx.out (p := ⟨w.heap.size, 0, none⟩) lt0).trans x1.out
          have hgx' : wo.heap.size ≤ wr.heap.size := hgx.out.2.2
          have hE2 := HE
          clear hrow1 hrow2 x1 x2 x3 x4 hgx HE
          have hB1 : w.heap.size + 1 + 1 < wr.heap.size := by
            have h1 := hsz.out
            have h2 := hgx'
            omega
          have hcells : ∀ j, j < (smalls zs k).length → wr.cell? ⟨w.heap.size + 1 + 1, j, none⟩ = some (.int .i64 ((smalls zs k).getD j 0)) := by
            intro j hj
            obtain ⟨b', o', e1, _, e3⟩ := r2.out.at_ j hj
            simp only [Option.some.injEq, Addr.mk.injEq, and_true] at e1
            obtain ⟨rfl, rfl⟩ := e1
            rw [Nat.zero_add] at e3
            exact e3
          have HC := Lib.hid hcells; clear hcells
          have HA1 : Hid ((⟨w.heap.size, 0, none⟩ : Addr).block < wr.heap.size) := by show w.heap.size < wr.heap.size; omega
          have HB1 : Hid (w.heap.size + 1 + 1 < wr.heap.size) := hB1
          have hlen := smalls_len zs k hm2
          clear hgx' hE2
          obtain ⟨i0, hi0, hz0, hz1, hz2⟩ := info_parts infoInt
          have k12 : k ≤ 12 := hm1
          go_upto_region 13 with fail
          go_region_held3 (fun w' => w'.cell? ⟨w.heap.size, 0, none⟩ = some (.int .i64 a) ∧ St wr (w.heap.size + 1 + 1) (smalls zs k) w')
            (first | exact st_first ya HC.out | assumption | (refine st_alloc ?_ HA1 HB1 _ _; assumption) | (refine st_grow ?_ HA1 HB1 hgr2 hrw2; assumption) | (refine st_grow ?_ HA1 HB1 hgr hrw; assumption))
            (first
              | (refine step_app ?_ (.tmp 84) (.tmp 85) 36 ?_ wr.heap.size 3 i0 (.int .i64 0) 8 Tryd.underlying36 hi0 hz0 hz1 hz2 rfl (.slice (some ⟨wr.heap.size, 0, none⟩) 0 0) 0 [] ?_ ?_ ⟨w.heap.size + 1 + 1, 0, none⟩ k k ((smalls zs k).map (Value.int .i64)) ?_ ?_ ?_ ?_ ?_ ?_ ?_ ?_;
                 (focus (rfl));
                 (focus (rfl));
                 (focus (rfl));
                 (focus ((first | exact own_empty wr _ _ (Nat.le_refl _) | exact (own_empty wr _ _ (Nat.le_refl _)).alloc _)));
                 (focus (rfl));
                 (focus ((simp [hlen])));
                 (focus ((have hh : _ ∧ St wr (w.heap.size + 1 + 1) (smalls zs k) _ := (by assumption); exact st_news hh.2)));
                 (focus (exact ints_oneCell _ _));
                 (focus ((unfold maxLen; omega)));
                 (focus (omega));
                 (focus ((simp; try omega)));
                 intro sv1 w1 hown1 hgr hrw;
                 rw [Nat.zero_add, List.nil_append] at hown1)
              | (refine step_app ?_ (.tmp 84) (.tmp 85) 36 ?_ wr.heap.size 3 i0 (.int .i64 0) 8 Tryd.underlying36 hi0 hz0 hz1 hz2 rfl (.slice (some ⟨wr.heap.size + 1, 0, none⟩) 0 0) 0 [] ?_ ?_ ⟨w.heap.size + 1 + 1, 0, none⟩ k k ((smalls zs k).map (Value.int .i64)) ?_ ?_ ?_ ?_ ?_ ?_ ?_ ?_;
                 (focus (rfl));
                 (focus (rfl));
                 (focus (rfl));
                 (focus (exact own_empty2 wr _ _));
                 (focus (rfl));
                 (focus ((simp [hlen])));
                 (focus ((have hh : _ ∧ St wr (w.heap.size + 1 + 1) (smalls zs k) _ := (by assumption); exact st_news hh.2)));
                 (focus (exact ints_oneCell _ _));
                 (focus ((unfold maxLen; omega)));
                 (focus (omega));
                 (focus ((simp; try omega)));
                 intro sv1 w1 hown1 hgr hrw;
                 rw [Nat.zero_add, List.nil_append] at hown1)
              | (refine step_app1 ?_ (.tmp 86) (.tmp 89) 36 ?_ wr.heap.size 3 i0 (.int .i64 0) 8 Tryd.underlying36 hi0 hz0 hz1 hz2 rfl sv1 k ((smalls zs k).map (Value.int .i64)) ?_ ?_ ⟨wr.heap.size, 0, none⟩ 1 1 [.int .i64 a] ?_ ?_ ?_ ?_ ?_ ?_ ?_ ?_ ?_;
                 (focus (rfl));
                 (focus (rfl));
                 (focus (rfl));
                 (focus ((first | exact hown1 | exact hown1.alloc _)));
                 (focus (rfl));
                 (focus (rfl));
                 (focus ((refine one_news ?_; refine (hgr.cell_far _ ?_ ?_).trans ?_; (focus (first | (simp; done) | (simp; omega))); (focus (simp [Value.ownBlock])); (simp [go_sem]))));
                 (focus ((simp [Value.oneCell'])));
                 (focus (omega));
                 (focus ((unfold maxLen; omega)));
                 (focus (omega));
                 (focus ((have := hgr.size; simp at this; first | omega | (simp; omega))));
                 intro g2 cap2 w2 hown2 hgr2 hrw2)
              | (refine step_app1 ?_ (.tmp 86) (.tmp 89) 36 ?_ wr.heap.size 3 i0 (.int .i64 0) 8 Tryd.underlying36 hi0 hz0 hz1 hz2 rfl sv1 k ((smalls zs k).map (Value.int .i64)) ?_ ?_ ⟨wr.heap.size + 1, 0, none⟩ 1 1 [.int .i64 a] ?_ ?_ ?_ ?_ ?_ ?_ ?_ ?_ ?_;
                 (focus (rfl));
                 (focus (rfl));
                 (focus (rfl));
                 (focus ((first | exact hown1 | exact hown1.alloc _)));
                 (focus (rfl));
                 (focus (rfl));
                 (focus ((refine one_news ?_; refine (hgr.cell_far _ ?_ ?_).trans ?_; (focus (first | (simp; done) | (simp; omega))); (focus (simp [Value.ownBlock])); (simp [go_sem]))));
                 (focus ((simp [Value.oneCell'])));
                 (focus (omega));
                 (focus ((unfold maxLen; omega)));
                 (focus (omega));
                 (focus ((have := hgr.size; simp at this; first | omega | (simp; omega))));
                 intro g2 cap2 w2 hown2 hgr2 hrw2)
              | (refine step_app1 ?_ (.tmp 86) (.tmp 89) 36 ?_ wr.heap.size 3 i0 (.int .i64 0) 8 Tryd.underlying36 hi0 hz0 hz1 hz2 rfl sv1 k ((smalls zs k).map (Value.int .i64)) ?_ ?_ ⟨w1.heap.size, 0, none⟩ 1 1 [.int .i64 a] ?_ ?_ ?_ ?_ ?_ ?_ ?_ ?_ ?_;
                 (focus (rfl));
                 (focus (rfl));
                 (focus (rfl));
                 (focus ((first | exact hown1 | exact hown1.alloc _)));
                 (focus (rfl));
                 (focus (rfl));
                 (focus ((refine one_news ?_; simp [go_sem])));
                 (focus ((simp [Value.oneCell'])));
                 (focus (omega));
                 (focus ((unfold maxLen; omega)));
                 (focus (omega));
                 (focus ((have := hgr.size; simp at this; first | omega | (simp; omega))));
                 intro g2 cap2 w2 hown2 hgr2 hrw2))
          all_goals
            have hk9 : _ ∧ St wr (w.heap.size + 1 + 1) (smalls zs k) _ := (by assumption)
            have G3 := Lib.hid hk9.2.2
            have row3 := Lib.hid (row_push hown2 hlen (by omega))
            have row1 := Lib.hid (r1.out.gr hk9.2.2)
            have row2 := Lib.hid (r2.out.gr hk9.2.2)
            have hEl := Lib.hid (nc_elem w2 _ _ _ k k (k + 1) cap k cap2 _ _ _ (by rw [List.length_take]; omega) hlen (by rw [List.length_append, hlen]; simp) row1.out row2.out row3.out)
            have GA := Lib.hid (gr_trans (gr_of_grown GW.out) G3.out)
            clear hk9 hgr hrw hgr2 hrw2 hown1 hown2 row1 row2 row3 r1 r2 G3 GW HC HA1 HB1 hB1 ya hcap hcm hm hm1 hm2 hlen k12 hw0 hw1 hneg
            obtain ⟨w3, rfl⟩ : ∃ w3 : World, w3 = w2 := ⟨_, rfl⟩
            go_wp2_with fail
            go_loopw [92] (fun i wx => ∃ j : Nat, j ≤ 3 ∧ i = .int .i64 j ∧ Hid (Gr w3 wx)) (fun i _ => 3 - (intOf i).toNat)
            case atStart => exact ⟨0, by omega, rfl, gr_refl _⟩
            case round =>
              obtain ⟨j, hj, rfl, hgj⟩ := hrel
              by_cases hlt3 : j < 3
              · obtain ⟨ad, cp, l, hrow, hidx⟩ := hEl.out j hlt3
                have GB := Lib.hid (gr_trans GA.out hgj.out)
                have hrl := Lib.hid (hrow.gr hgj.out)
                obtain ⟨vv, cc, hvc⟩ := ores_form (lcmO l)
                have L1 : Hid (∀ w : World, Tab w → Row w ad l → Calls Tryd.prog 29 #[.slice ad l.length cp] w fun e w' => e = .returned (.tuple #[.int .i64 vv, .bool cc]) ∧ Grown w w') := fun w hT hR => by
                  have := lcm_any l ad cp w hT hR
                  rw [hvc] at this; exact this
                have L2 : Hid (∀ w : World, Row w ad l → Calls Tryd.prog 30 #[.slice ad l.length cp] w fun e w' => e = .returned (.tuple #[.int .i64 vv, .bool cc]) ∧ Grown w w') := fun w hR => by
                  have := rlcm_any l ad cp w hR
                  rw [hvc] at this; exact this
                clear hvc hrow hEl
                go_wp2_with fail
                refine (L1.out _ (HT.out.gr GB.out) hrl.out).mono ?_
                rintro e w4 ⟨rfl, g⟩
                have hr4 := Lib.hid (hrl.out.gr (gr_of_grown g))
                have G4 := Lib.hid (gr_trans hgj.out (gr_of_grown g))
                clear g
                go_wp2_with fail
                refine (L2.out _ hr4.out).mono ?_
                rintro e w5 ⟨rfl, g⟩
                have G5 := Lib.hid (gr_trans G4.out (gr_of_grown g))
                clear g
                go_wp2
                go_roundw
                case rel => exact ⟨j + 1, by omega, by go_num, G5⟩
                case measure => simp [intOf]; omega
              · go_wp2_with fail
                refine (works_any _ (HT.out.gr (gr_trans GA.out hgj.out))).mono ?_
                rintro e w4 ⟨rfl, g⟩
                have G5 := Lib.hid (gr_trans (gr_trans GA.out hgj.out) (gr_of_grown g))
                clear g
                go_wp2
                go_ret
                exact ⟨rfl, G5.out⟩

end Go.Proofs.YtcfdinfnahkanaaDoor
