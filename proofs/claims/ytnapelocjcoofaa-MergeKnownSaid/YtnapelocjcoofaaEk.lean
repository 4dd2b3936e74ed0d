/-
  What slices.AppendSeq and slices.Collect return of the iterator of package merge.
-/
import Derived.Test.YtnapelocjcoofaaEj
import Derived.Test.YtnapelocjcoofaaUa
import Derived.Maps.AppendAt
namespace Go.Proofs.Ytnapelocjcoofaa
open Go.RowKit Go.Shelf Go.Proofs.Ytnapelocjcoofaa.Cr

attribute [local go_sem] Oper.semAt_some

theorem info_pc : (Try.prog.info? 45).map (fun i => (i.zero, i.size, i.bytes)) = some (some (.agg #[.bool false, .int .i64 0, .int .i64 0, .string ⟨#[]⟩]), 4, 40) := by kernel_rfl
/-- The cells of the pieces of a list. -/
def flP (ps : List Pc) : List Value := (ps.map Pc.l).flatten
theorem flP_snoc (ps : List Pc) (p : Pc) : flP (ps ++ [p]) = flP ps ++ p.l := by unfold flP; simp
theorem flP_nil : flP [] = [] := rfl
/-- A block of four cells. -/
def Box4 (W : World) (B : Nat) (p : Pc) : Prop := W.heap[B]? = some (.cells #[.bool p.start, .int .i64 p.num, .int .i64 p.cnt, .string p.data] 45 (0, 0))
theorem Box4.lt {W : World} {B : Nat} {p : Pc} (h : Box4 W B p) : B < W.heap.size := (Array.getElem?_eq_some_iff.1 h).1
theorem Box4.kept {W W' : World} {row : Option Nat} {B : Nat} {p : Pc} (h : Box4 W B p) (hg : W.grownBy W' row) (hne : some B ≠ row) : Box4 W' B p := (hg.block B h.lt hne).trans h
theorem box4_own {β : Type} (B : Nat) (f : β → Pc) : Own (fun s W => Box4 W B (f s)) := fun s X Y row hs hg hrow =>
  hs.kept hg (fun e' => by obtain ⟨o, ho, hc⟩ := hrow B e'.symm; rw [show X.heap[B]? = _ from hs] at ho; cases ho; cases hc)
theorem Box4.new (W : World) (p : Pc) : Box4 (W.alloc (.cells #[.bool p.start, .int .i64 p.num, .int .i64 p.cnt, .string p.data] 45)) W.heap.size p := World.alloc_heap_new W _
theorem Box4.cells {W : World} {B : Nat} {p : Pc} (h : Box4 W B p) : W.cell? ⟨B, 0, none⟩ = some (.bool p.start) ∧ W.cell? ⟨B, 1, none⟩ = some (.int .i64 p.num) ∧ W.cell? ⟨B, 2, none⟩ = some (.int .i64 p.cnt) ∧ W.cell? ⟨B, 3, none⟩ = some (.string p.data) := by
  refine ⟨?_, ?_, ?_, ?_⟩ <;> simp [World.cell?, show W.heap[B]? = _ from h]
theorem four_news (W : World) (p : Pc) (t : TypeId) : ∀ j u, p.l[j]? = some u → (W.alloc (.cells #[.bool p.start, .int .i64 p.num, .int .i64 p.cnt, .string p.data] t)).cell? ((⟨W.heap.size, 0, none⟩ : Addr).add j) = some u := by
  intro j u hj
  have hl : j < p.l.length := (List.getElem?_eq_some_iff.1 hj).1
  rw [addR, Nat.zero_add]
  have h1 := ((Pc.boxed W p t).2 j hl).1
  rw [h1]
  simpa [List.getD_eq_getElem?_getD] using congrArg (fun o => some (o.getD undef)) hj
theorem l_one (p : Pc) : ∀ u ∈ p.l, u.oneCell' = true := by
  intro u hu
  unfold Pc.l at hu
  simp at hu
  rcases hu with rfl | rfl | rfl | rfl <;> rfl

theorem pieces_stops (n : Nat) (hn : 1 ≤ n) (Bc Bn Bs n₀ : Nat) (A : Option Addr) (cap : Nat) (cs : List Int) (num : Int) (s : ByteArray) (h64 : 64 ≤ s.size) (hm : s.size ≤ 1522) (hc : okC s.size cs = true) (w : World) (hn₀ : n₀ ≤ w.heap.size)
    (hBc : w.cell? ⟨Bc, 0, none⟩ = some (.slice A cs.length cap)) (hBn : w.cell? ⟨Bn, 0, none⟩ = some (.int .i64 num)) (hBs : w.cell? ⟨Bs, 0, none⟩ = some (.string s)) (hb : Bc < n₀ ∧ Bn < n₀ ∧ Bs < n₀)
    (hI : ∀ k, k < cs.length → ∃ b off, A = some ⟨b, off, none⟩ ∧ b < n₀ ∧ w.cell? ⟨b, off + k, none⟩ = some (.int .i64 (cu cs k))) :
    SeqStopsK Fence.wide n Try.prog 62 #[.pointer (some ⟨Bc, 0, none⟩), .pointer (some ⟨Bn, 0, none⟩), .pointer (some ⟨Bs, 0, none⟩)] (fun x : Pc => #[x.v]) (Below n₀) (fun ys => ys = upto (pcI s num cs) (cs.length + 1)) (fun _ => True) (cs.length + 1) w := fun l J Jx W hW hJ _ hY h0 => by
  have hW' : Below n₀ w W := hW.mono hn₀
  exact pieces1_in n hn l Bc Bn Bs n₀ A cap cs num s h64 hm hc J Jx hY W
    (fun pre W1 W2 hj g => hJ pre W1 W2 none hj ⟨g.os, g.tape, g.output, g.size, fun i hi _ => g.block i hi⟩ (fun r e => by cases e))
    (Nat.le_trans hn₀ hW.size) ((hW'.cell (p := ⟨Bc, 0, none⟩) hb.1).trans hBc) ((hW'.cell (p := ⟨Bn, 0, none⟩) hb.2.1).trans hBn) ((hW'.cell (p := ⟨Bs, 0, none⟩) hb.2.2).trans hBs) hb
    (fun k hk => by
      obtain ⟨b, off, h1, h2, h3⟩ := hI k hk
      exact ⟨b, off, h1, h2, (hW'.cell (p := ⟨b, _, none⟩) h2).trans h3⟩) h0

set_option maxRecDepth 100000 in
set_option maxHeartbeats 4000000 in
theorem appendSeq_in (Bc Bn Bs : Nat) (A : Option Addr) (cap : Nat) (cs : List Int) (num : Int) (s : ByteArray) (h64 : 64 ≤ s.size) (hm : s.size ≤ 1522) (hc : okC s.size cs = true) (w : World)
    (hBc : w.cell? ⟨Bc, 0, none⟩ = some (.slice A cs.length cap)) (hBn : w.cell? ⟨Bn, 0, none⟩ = some (.int .i64 num)) (hBs : w.cell? ⟨Bs, 0, none⟩ = some (.string s)) (hb : Bc < w.heap.size ∧ Bn < w.heap.size ∧ Bs < w.heap.size)
    (hI : Iz w A cs) :
    CallsIn Fence.wide 3 Try.prog 61 #[.slice none 0 0, .func (.func 62) #[] #[.pointer (some ⟨Bc, 0, none⟩), .pointer (some ⟨Bn, 0, none⟩), .pointer (some ⟨Bs, 0, none⟩)]] w fun e W' =>
      ∃ v, e = .returned v ∧ W'.ownsRow w.heap.size 45 4 v (cs.length + 1) (flP (upto (pcI s num cs) (cs.length + 1))) ∧ Bl w W' := by
  obtain ⟨i0, hi, hz0, hz1, hz2⟩ := info_parts info_pc
  have hfew := few hc h64 hm
  refine callsIn_of_wp_marks Try.func61 rfl trivial ?_ rfl
  simp only [Try.ntmps61, List.size_toArray, List.length_cons, List.length_nil, Nat.reduceAdd, Nat.reduceSub, Array.replicate_succ, Array.replicate_zero, List.push_toArray, List.append_toArray, List.nil_append, List.cons_append]
  gi_wp2
  have bS := Boxed.new w 35 (.slice none 0 0)
  have hB0 : Below w.heap.size w (w.alloc (.cells #[.slice none 0 0] 35)) := (Below.refl _ w).alloc (Nat.le_refl _) _
  have hI2 : Iz (w.alloc (.cells #[.slice none 0 0] 35)) A cs := hI.go ((Bl.refl w).alloc _)
  have hsz : (w.alloc (.cells #[.slice none 0 0] 35)).heap.size = w.heap.size + 1 := by simp
  have k1 := (hB0.cell (p := ⟨Bc, 0, none⟩) hb.1).trans hBc
  have k2 := (hB0.cell (p := ⟨Bn, 0, none⟩) hb.2.1).trans hBn
  have k3 := (hB0.cell (p := ⟨Bs, 0, none⟩) hb.2.2).trans hBs
  have hIb : ∀ k, k < cs.length → ∃ b off, A = some ⟨b, off, none⟩ ∧ b < w.heap.size ∧ (w.alloc (.cells #[.slice none 0 0] 35)).cell? ⟨b, off + k, none⟩ = some (.int .i64 (cu cs k)) := fun k hk => by
    obtain ⟨b, off, h1, h2, h3⟩ := hI k hk
    exact ⟨b, off, h1, h2, (hB0.cell (p := ⟨b, _, none⟩) h2).trans h3⟩
  obtain ⟨W0, hW0⟩ : ∃ W0, w.alloc (.cells #[.slice none 0 0] 35) = W0 := ⟨_, rfl⟩
  rw [hW0] at bS hB0 hI2 hsz k1 k2 k3 hIb ⊢
  clear hW0
  refine wpIn_rangeFunc_ownH rfl (by decide) (gf := 62) (lb := #[.pointer (some ⟨Bc, 0, none⟩), .pointer (some ⟨Bn, 0, none⟩), .pointer (some ⟨Bs, 0, none⟩)]) rfl trivial (enters_of Try.func62 (by kernel_rfl) rfl)
    (pieces_stops 2 (by decide) Bc Bn Bs w.heap.size A cap cs num s h64 hm hc W0 (by omega) k1 k2 k3 hb hIb) belowK_t (belowK_b (by omega)) (Below.refl _ _) (fun _ => rfl)
    (fun pre W => (∃ v, Boxed W w.heap.size 35 v ∧ W.ownsRow w.heap.size 45 4 v pre.length (flP pre) ∧ True) ∧ Below w.heap.size w W)
    (fun _ _ _ => False)
    (OwnFrom.and (Own.from (holdsRow_own w.heap.size w.heap.size 35 45 4 (fun pre : List Pc => pre.length) (fun pre => flP pre) (fun _ _ => True)) _) (ownFrom_below (Nat.le_refl _) (by omega)))
    (fun _ _ _ _ _ hs _ _ => hs)
    ⟨⟨_, bS, World.ownsRow_nil _ _ _ _, trivial⟩, hB0⟩
    (fun x a' W => ∃ Bx, w.heap.size < Bx ∧ Box4 W Bx x ∧ a' = { tmps := #[.slice none 0 0, .func (.func 62) #[] #[.pointer (some ⟨Bc, 0, none⟩), .pointer (some ⟨Bn, 0, none⟩), .pointer (some ⟨Bs, 0, none⟩)], .pointer (some ⟨w.heap.size, 0, none⟩), undef, .slice none 0 0, .pointer (some ⟨Bx, 0, none⟩), .func (.func 62) #[] #[.pointer (some ⟨Bc, 0, none⟩), .pointer (some ⟨Bn, 0, none⟩), .pointer (some ⟨Bs, 0, none⟩)], x.v, undef, undef, undef, undef, undef], defers := [] })
    (fun x a' _ X Y row hs hg hr => by obtain ⟨Bx, h1, h2, h3⟩ := hs; exact ⟨Bx, h1, box4_own Bx (fun (_ : Unit) => x) () X Y row h2 hg (fun r e => (hr r e).2), h3⟩)
    ?assign ?body ?done ?stop
  case assign =>
    rintro l pre x W K ⟨⟨v, bv, hown, _⟩, hB1⟩ hK
    unfold Pc.v
    gi_wp2
    exact hK _ _ ((KeepsOthers.alloc _ _).from _) ((Below.refl _ W).alloc hB1.size _) ⟨⟨v, bv.alloc _, hown.alloc _, trivial⟩, hB1.alloc hB1.size _⟩ ⟨W.heap.size, bv.lt, Box4.new W x, rfl⟩
  case body =>
    rintro l pre x a' W hl ⟨r, hr⟩ ⟨⟨v, bv, hown, _⟩, hB1⟩ ⟨Bx, hBx, bX, rfl⟩ hlt
    have cv := bv.cell
    obtain ⟨c0, c1, c2, c3⟩ := bX.cells
    have hsW := hB1.size
    unfold Pc.v
    gi_wp2_with (gi_at_builtin; refine wpListIn_append_own _ rfl _ _ 35 rfl w.heap.size 45 i0 (.agg #[.bool false, .int .i64 0, .int .i64 0, .string ⟨#[]⟩]) 4 40 Try.underlying35 hi hz0 hz1 hz2 rfl (by decide) _ _ _ rfl (hown.alloc _) ⟨W.heap.size, 0, none⟩ 1 1 x.l rfl rfl (four_news _ _ _) (l_one x) (by unfold maxLen; omega) (by omega) (by simp; omega) ?_; intro v' w1 hown' hgrow _; obtain ⟨g', cap', rfl⟩ := ownsRow_succ hown'; obtain ⟨hv1, hv2, hr2, hk2, hb2⟩ := bv.appended (by decide) hown hB1.size (Nat.le_refl _) hown' hgrow; have hc1 := hv1.cell; have hf1 := hv1.frozen)
    exact ⟨hk2.from _, hb2, ⟨⟨_, hv2, by rw [flP_snoc, List.length_append]; exact hr2, trivial⟩, hB1.trans hb2⟩⟩
  case done =>
    rintro D zs W hD rfl ⟨⟨v, bv, hown, _⟩, hB1⟩ hK
    have cv := bv.cell
    gi_wp2
    refine ⟨by simp, .inl ⟨_, _, rfl, run_takeDeferred hK, ?_⟩⟩
    rw [upto_length] at hown
    exact ⟨_, results_tmp rfl _ _ _, v, rfl, ownsRow_putObj hown _ hK rfl, hB1.trans (belowK_b (w := w) (Nat.le_refl _) W D _ _ (by omega) hK rfl rfl)⟩
  case stop =>
    rintro D c pre W _ _ h _
    exact h.elim

/-- The pieces, in a slice of their own. -/
def PcRes (w : World) (ps : List Pc) (e : Ending) (w' : World) : Prop := ∃ v, e = .returned v ∧ w'.ownsRow w.heap.size 45 4 v ps.length (flP ps) ∧ Bl w w'
set_option maxHeartbeats 1000000 in
theorem collect_any (Bc Bn Bs : Nat) (A : Option Addr) (cap : Nat) (cs : List Int) (num : Int) (s : ByteArray) (h64 : 64 ≤ s.size) (hm : s.size ≤ 1522) (hc : okC s.size cs = true) (w : World)
    (hBc : w.cell? ⟨Bc, 0, none⟩ = some (.slice A cs.length cap)) (hBn : w.cell? ⟨Bn, 0, none⟩ = some (.int .i64 num)) (hBs : w.cell? ⟨Bs, 0, none⟩ = some (.string s)) (hb : Bc < w.heap.size ∧ Bn < w.heap.size ∧ Bs < w.heap.size)
    (hI : Iz w A cs) :
    Calls Try.prog 39 #[.func (.func 62) #[] #[.pointer (some ⟨Bc, 0, none⟩), .pointer (some ⟨Bn, 0, none⟩), .pointer (some ⟨Bs, 0, none⟩)]] w (PcRes w (upto (pcI s num cs) (cs.length + 1))) := by
  have KA := Lib.hid (callsIn_wide.1 (appendSeq_in Bc Bn Bs A cap cs num s h64 hm hc w hBc hBn hBs hb hI))
  have hl : (upto (pcI s num cs) (cs.length + 1)).length = cs.length + 1 := upto_length _ _
  unfold PcRes
  rw [hl]
  generalize flP (upto (pcI s num cs) (cs.length + 1)) = L at *
  clear hl hI hBc hBn hBs hb
  go_enter Try.func39, Try.ntmps39
  go_wp2_with fail
  refine KA.out.mono ?_; rintro e w1 ⟨v, rfl, hown, hbl⟩
  have HO := Lib.hid hown; have HB := Lib.hid hbl; clear hown hbl
  go_wp2_with fail
  go_ret
  exact ⟨v, rfl, HO.out, HB.out⟩

end Go.Proofs.Ytnapelocjcoofaa
