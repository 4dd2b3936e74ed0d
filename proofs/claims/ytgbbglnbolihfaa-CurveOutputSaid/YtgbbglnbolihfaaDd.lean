/-
  Frames that leave in order, each at most D after its arrival, conform to the bucket with q more. In plain numbers; and a block whose times are being overwritten.
-/
import Derived.Test.YtgbbglnbolihfaaCza
import Derived.Test.YtgbbglnbolihfaaBs
namespace Go.Proofs.Ytgbbglnbolihfaa
open Go.RowKit

/-- The time of the last frame behind the first i, each delayed by wv. -/
def nx (f wv : Nat → Int) : Nat → Int
  | 0 => 0
  | i + 1 => max (nx f wv i) (f i + wv i)
def delv (ys : List (Int × Int)) (wv : Nat → Int) : List (Int × Int) := (List.range ys.length).map fun k => (nx (fs ys) wv (k + 1), sn ys k)
theorem delv_len (ys : List (Int × Int)) (wv : Nat → Int) : (delv ys wv).length = ys.length := by simp [delv]
theorem delv_fs {ys : List (Int × Int)} {wv : Nat → Int} {k : Nat} (h : k < ys.length) : fs (delv ys wv) k = nx (fs ys) wv (k + 1) ∧ sn (delv ys wv) k = sn ys k := by
  obtain ⟨s0, hs0⟩ : ∃ f, (fun k => (nx (fs ys) wv (k + 1), sn ys k)) = f := ⟨_, rfl⟩
  have e : (delv ys wv)[k]? = some (nx (fs ys) wv (k + 1), sn ys k) := by
    unfold delv
    rw [hs0, List.getElem?_map, List.getElem?_range h]
    show some (s0 k) = _
    rw [← hs0]
  constructor
  · show ((delv ys wv).getD k (0, 0)).1 = _
    rw [List.getD_eq_getElem?_getD, e]; rfl
  · show ((delv ys wv).getD k (0, 0)).2 = _
    rw [List.getD_eq_getElem?_getD, e]; rfl
theorem nx_bd {ys : List (Int × Int)} {wv : Nat → Int} {D : Int} (ho : ∀ k, k < ys.length → okAt ys k) (hD : 0 ≤ D) (hw : ∀ k, 0 ≤ wv k ∧ wv k ≤ D) (i : Nat) (hi : i ≤ ys.length) : 0 ≤ nx (fs ys) wv i ∧ nx (fs ys) wv i ≤ prev ys i + D := by
  induction i with
  | zero => exact ⟨Int.le_refl _, by show (0 : Int) ≤ 0 + D; omega⟩
  | succ i ih =>
    have h1 := ih (by omega)
    have h2 := ho i (by omega)
    unfold okAt at h2
    have h3 := hw i
    have e : prev ys (i + 1) = fs ys i := rfl
    show 0 ≤ max (nx (fs ys) wv i) (fs ys i + wv i) ∧ max (nx (fs ys) wv i) (fs ys i + wv i) ≤ _
    rw [e]; omega
theorem nx_ge {ys : List (Int × Int)} {wv : Nat → Int} (hw : ∀ k, 0 ≤ wv k) (i : Nat) : fs ys i ≤ nx (fs ys) wv (i + 1) := by
  have := hw i
  show _ ≤ max (nx (fs ys) wv i) (fs ys i + wv i)
  omega
theorem delv_ok {ys : List (Int × Int)} {wv : Nat → Int} {D : Int} (ho : rtB ys = true) (hD : 0 ≤ D) (hw : ∀ k, 0 ≤ wv k ∧ wv k ≤ D) (hb : ∀ k, k < ys.length → fs ys k + D ≤ 1099511627776) : rtB (delv ys wv) = true := by
  obtain ⟨h1, h2⟩ := rtB_iff.1 ho
  refine rtB_iff.2 ⟨by rw [delv_len]; exact h1, fun k hk => ?_⟩
  rw [delv_len] at hk
  have hk2 := h2 k hk
  unfold okAt at hk2 ⊢
  rw [(delv_fs hk).1, (delv_fs hk).2]
  have b1 := nx_bd h2 hD hw (k + 1) (by omega)
  have e : prev ys (k + 1) = fs ys k := rfl
  rw [e] at b1
  have b2 := hb k hk
  refine ⟨⟨?_, by omega⟩, hk2.2⟩
  cases k with
  | zero => exact b1.1
  | succ k =>
    show fs (delv ys wv) k ≤ _
    rw [(delv_fs (by omega)).1]
    show _ ≤ max (nx (fs ys) wv (k + 1)) _
    omega
theorem delv_fit {ys : List (Int × Int)} {wv : Nat → Int} {u R q D : Int} (ho : ∀ k, k < ys.length → okAt ys k) (hD : 0 ≤ D) (hw : ∀ k, 0 ≤ wv k ∧ wv k ≤ D) (hR : 0 ≤ R) (hq : R * D ≤ q * 1048576) (hf : fitB ys u R = true) : fitB (delv ys wv) (u + q) R = true := by
  refine decide_eq_true (fi_neg.2 (fun i m him => ?_))
  rw [delv_len] at him
  have h1 := fi_neg.1 (of_decide_eq_true hf) i m him
  unfold inI Bk.exc at h1 ⊢
  have e : Bk.sumF (sn (delv ys wv)) i m = Bk.sumF (sn ys) i m := by
    have : ∀ n, n ≤ m → Bk.sumF (sn (delv ys wv)) i n = Bk.sumF (sn ys) i n := by
      intro n
      induction n with
      | zero => exact fun _ => (delv_fs (by omega)).2
      | succ n ih =>
        intro hn
        show Bk.sumF (sn (delv ys wv)) i n + sn (delv ys wv) (i + n + 1) = Bk.sumF (sn ys) i n + sn ys (i + n + 1)
        rw [ih (by omega), (delv_fs (by omega)).2]
    exact this m (Nat.le_refl _)
  rw [e, (delv_fs (show i + m < ys.length by omega)).1, (delv_fs (show i < ys.length by omega)).1]
  have b1 := nx_bd ho hD hw (i + 1) (by omega)
  have ep : prev ys (i + 1) = fs ys i := rfl
  rw [ep] at b1
  have b2 := nx_ge (ys := ys) (fun k => (hw k).1) (i + m)
  have h2 : R * (fs ys (i + m) - fs ys i) ≤ R * ((nx (fs ys) wv (i + m + 1) - nx (fs ys) wv (i + 1)) + D) := Int.mul_le_mul_of_nonneg_left (by omega) hR
  rw [Int.mul_add] at h2
  omega

/-- A block of pairs of one's own. -/
structure Wr (g n : Nat) (f s : Nat → Int) (w : World) : Prop where
  lt : g < w.heap.size
  at0 : ∀ k, k < n → w.cell? ⟨g, k * 2, none⟩ = some (.int .i64 (f k))
  at1 : ∀ k, k < n → w.cell? ⟨g, k * 2 + 1, none⟩ = some (.int .i64 (s k))
  fr : ∀ k, k < n → w.frozen? ⟨g, k * 2, none⟩ = false
theorem Wr.go {g n : Nat} {f s : Nat → Int} {w w' : World} (h : Wr g n f s w) (k : Bl w w') : Wr g n f s w' :=
  ⟨Nat.lt_of_lt_of_le h.lt k.size, fun j hj => (k.cell (p := ⟨g, _, none⟩) h.lt).trans (h.at0 j hj), fun j hj => (k.cell (p := ⟨g, _, none⟩) h.lt).trans (h.at1 j hj), fun j hj => (k.frozen (p := ⟨g, _, none⟩) h.lt).trans (h.fr j hj)⟩
theorem Wr.put {g n : Nat} {f s : Nat → Int} {w : World} (h : Wr g n f s w) {i : Nat} (hi : i < n) (v : Int) : Wr g n (fun k => if k = i then v else f k) s (w.setCell ⟨g, i * 2, none⟩ (.int .i64 v)) := by
  have hs : (w.cell? ⟨g, i * 2, none⟩).isSome = true := by rw [h.at0 i hi]; rfl
  refine ⟨by simpa [World.setCell] using h.lt, fun k hk => ?_, fun k hk => ?_, fun k hk => ?_⟩
  · by_cases e : k = i
    · subst e
      simp only [if_true]
      exact World.cell?_setCell_same' _ _ _ hs
    · have hv := h.at0 k hk
      rw [if_neg e]
      simp [go_sem, hv]
      try omega
  · have hv := h.at1 k hk
    simp [go_sem, hv]
    try omega
  · have := h.fr k hk
    simp [go_sem, this]
theorem Wr.congr {g n : Nat} {f f' s : Nat → Int} {w : World} (h : Wr g n f s w) (e : ∀ k, k < n → f k = f' k) : Wr g n f' s w :=
  ⟨h.lt, fun k hk => by rw [← e k hk]; exact h.at0 k hk, h.at1, h.fr⟩

end Go.Proofs.Ytgbbglnbolihfaa
