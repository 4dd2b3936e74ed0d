/-
  Traces by time: what arrives between two times; two conforming traces merged by time conform to the sum of their buckets; a part of a conforming trace conforms.
-/
import Derived.Test.YtajlcagbfebbjaaBp
namespace Go.Proofs.Ytajlcagbfebbjaa

def inW (t1 t2 x y : Int) : Int := if t1 ≤ x ∧ x ≤ t2 then y else 0
theorem inW_yes {t1 t2 x y : Int} (h : t1 ≤ x ∧ x ≤ t2) : inW t1 t2 x y = y := if_pos h
theorem inW_no {t1 t2 x y : Int} (h : ¬ (t1 ≤ x ∧ x ≤ t2)) : inW t1 t2 x y = 0 := if_neg h
theorem inW_nn {t1 t2 x y : Int} (h : 0 ≤ y) : 0 ≤ inW t1 t2 x y := by
  by_cases c : t1 ≤ x ∧ x ≤ t2
  · rw [inW_yes c]; exact h
  · rw [inW_no c]; exact Int.le_refl _
/-- What the first n arrivals bring from t1 to t2. -/
def wN (f g : Nat → Int) (t1 t2 : Int) : Nat → Int
  | 0 => 0
  | n + 1 => wN f g t1 t2 n + inW t1 t2 (f n) (g n)
theorem wN_nn {f g : Nat → Int} {t1 t2 : Int} {n : Nat} (h : ∀ j, j < n → 0 ≤ g j) : 0 ≤ wN f g t1 t2 n := by
  induction n with
  | zero => exact Int.le_refl _
  | succ n ih =>
    have h1 := ih (fun j hj => h j (by omega))
    have h2 := inW_nn (t1 := t1) (t2 := t2) (x := f n) (h n (by omega))
    show 0 ≤ wN f g t1 t2 n + inW t1 t2 (f n) (g n)
    omega
theorem wN_mono {f g : Nat → Int} {t1 t2 : Int} {n : Nat} (r : Nat) (h : ∀ j, j < n + r → 0 ≤ g j) : wN f g t1 t2 n ≤ wN f g t1 t2 (n + r) := by
  induction r with
  | zero => exact Int.le_refl _
  | succ r ih =>
    have h1 := ih (fun j hj => h j (by omega))
    have h2 := inW_nn (t1 := t1) (t2 := t2) (x := f (n + r)) (h (n + r) (by omega))
    show wN f g t1 t2 n ≤ wN f g t1 t2 (n + r) + inW t1 t2 (f (n + r)) (g (n + r))
    omega
theorem wN_congr {f g f' g' : Nat → Int} {t1 t2 : Int} {n : Nat} (h : ∀ j, j < n → f j = f' j ∧ g j = g' j) : wN f g t1 t2 n = wN f' g' t1 t2 n := by
  induction n with
  | zero => rfl
  | succ n ih =>
    show wN f g t1 t2 n + inW t1 t2 (f n) (g n) = wN f' g' t1 t2 n + inW t1 t2 (f' n) (g' n)
    rw [ih (fun j hj => h j (by omega)), (h n (by omega)).1, (h n (by omega)).2]
theorem sumF_le_wN {f g : Nat → Int} {t1 t2 : Int} (i m : Nat) (hg : ∀ j, j ≤ i + m → 0 ≤ g j) (hr : ∀ j, i ≤ j → j ≤ i + m → t1 ≤ f j ∧ f j ≤ t2) : Bk.sumF g i m ≤ wN f g t1 t2 (i + m + 1) := by
  induction m with
  | zero =>
    have h1 := wN_nn (f := f) (g := g) (t1 := t1) (t2 := t2) (n := i) (fun j hj => hg j (by omega))
    show g i ≤ wN f g t1 t2 i + inW t1 t2 (f i) (g i)
    rw [inW_yes (hr i (by omega) (by omega))]
    omega
  | succ m ih =>
    have h1 := ih (fun j hj => hg j (by omega)) (fun j h h' => hr j h (by omega))
    show Bk.sumF g i m + g (i + m + 1) ≤ wN f g t1 t2 (i + m + 1) + inW t1 t2 (f (i + m + 1)) (g (i + m + 1))
    rw [inW_yes (hr (i + m + 1) (by omega) (by omega))]
    omega
theorem sumF_mono {g : Nat → Int} (i m r : Nat) (hg : ∀ j, j ≤ i + (m + r) → 0 ≤ g j) : Bk.sumF g i m ≤ Bk.sumF g i (m + r) := by
  induction r with
  | zero => exact Int.le_refl _
  | succ r ih =>
    have h1 := ih (fun j hj => hg j (by omega))
    have h2 := hg (i + (m + r) + 1) (by omega)
    show Bk.sumF g i m ≤ Bk.sumF g i (m + r) + g (i + (m + r) + 1)
    omega
theorem wN_le_sumF {f g : Nat → Int} {t1 t2 : Int} (n : Nat) (hg : ∀ j, j < n → 0 ≤ g j) (hs : ∀ j k, j ≤ k → k < n → f j ≤ f k) :
    wN f g t1 t2 n = 0 ∨ ∃ i m, i + m < n ∧ t1 ≤ f i ∧ f (i + m) ≤ t2 ∧ wN f g t1 t2 n ≤ Bk.sumF g i m := by
  induction n with
  | zero => exact .inl rfl
  | succ n ih =>
    have hi := ih (fun j hj => hg j (by omega)) (fun j k h h' => hs j k h (by omega))
    have e : wN f g t1 t2 (n + 1) = wN f g t1 t2 n + inW t1 t2 (f n) (g n) := rfl
    by_cases c : t1 ≤ f n ∧ f n ≤ t2
    · rw [inW_yes c] at e
      right
      rcases hi with h0 | ⟨i, m, h1, h2, h3, h4⟩
      · exact ⟨n, 0, by omega, c.1, c.2, by rw [e, h0]; show 0 + g n ≤ g n; omega⟩
      · obtain ⟨r, hr⟩ : ∃ r, n = i + (m + r) + 1 := ⟨n - i - m - 1, by omega⟩
        refine ⟨i, m + r + 1, by omega, h2, by rw [show i + (m + r + 1) = n by omega]; exact c.2, ?_⟩
        have h5 := sumF_mono (g := g) i m r (fun j hj => hg j (by omega))
        rw [e]
        show wN f g t1 t2 n + g n ≤ Bk.sumF g i (m + r) + g (i + (m + r) + 1)
        rw [← hr]
        omega
    · rw [inW_no c, Int.add_zero] at e
      rw [e]
      rcases hi with h0 | ⟨i, m, h1, h2, h3, h4⟩
      · exact .inl h0
      · exact .inr ⟨i, m, by omega, h2, h3, h4⟩

/-- What a trace brings from t1 to t2. -/
def wt (xs : List (Int × Int)) (t1 t2 : Int) : Int := wN (fs xs) (sn xs) t1 t2 xs.length
theorem wt_nil (t1 t2 : Int) : wt [] t1 t2 = 0 := rfl
theorem fs_snoc_lt {xs : List (Int × Int)} {p : Int × Int} {k : Nat} (h : k < xs.length) : fs (xs ++ [p]) k = fs xs k := by
  unfold fs; simp [List.getD_eq_getElem?_getD, List.getElem?_append_left h]
theorem sn_snoc_lt {xs : List (Int × Int)} {p : Int × Int} {k : Nat} (h : k < xs.length) : sn (xs ++ [p]) k = sn xs k := by
  unfold sn; simp [List.getD_eq_getElem?_getD, List.getElem?_append_left h]
theorem fs_snoc_eq (xs : List (Int × Int)) (p : Int × Int) : fs (xs ++ [p]) xs.length = p.1 := by
  unfold fs; simp [List.getD_eq_getElem?_getD]
theorem sn_snoc_eq (xs : List (Int × Int)) (p : Int × Int) : sn (xs ++ [p]) xs.length = p.2 := by
  unfold sn; simp [List.getD_eq_getElem?_getD]
theorem wt_snoc (xs : List (Int × Int)) (x y t1 t2 : Int) : wt (xs ++ [(x, y)]) t1 t2 = wt xs t1 t2 + inW t1 t2 x y := by
  unfold wt
  rw [List.length_append]
  show wN _ _ t1 t2 xs.length + inW t1 t2 (fs (xs ++ [(x, y)]) xs.length) (sn (xs ++ [(x, y)]) xs.length) = _
  rw [fs_snoc_eq, sn_snoc_eq, wN_congr (fun j hj => ⟨fs_snoc_lt hj, sn_snoc_lt hj⟩)]
theorem wt_take (xs : List (Int × Int)) (k : Nat) (h : k < xs.length) (t1 t2 : Int) : wt (xs.take (k + 1)) t1 t2 = wt (xs.take k) t1 t2 + inW t1 t2 (fs xs k) (sn xs k) := by
  rw [take_snoc xs k h, wt_snoc]
/-- All arrivals are as they should be (without the limit on their number). -/
def Ok (xs : List (Int × Int)) : Prop := ∀ k, k < xs.length → okAt xs k
theorem Ok.sizes {xs : List (Int × Int)} (h : Ok xs) : ∀ j, j < xs.length → 0 ≤ sn xs j := fun j hj => by have := (h j hj).2.1; omega
theorem Ok.sorted {xs : List (Int × Int)} (h : Ok xs) : ∀ j k, j ≤ k → k < xs.length → fs xs j ≤ fs xs k := fun j k h1 h2 => by
  have := fs_mono h j (k - j) (by omega)
  rw [show j + (k - j) = k by omega] at this
  exact this
theorem prev_snoc {xs : List (Int × Int)} {p : Int × Int} {k : Nat} (h : k ≤ xs.length) : prev (xs ++ [p]) k = prev xs k := by
  cases k with
  | zero => rfl
  | succ k => exact fs_snoc_lt h
theorem Ok.snoc {xs : List (Int × Int)} {x y : Int} (h : Ok xs) (hp : prev xs xs.length ≤ x) (hx : x ≤ 1099511627776) (hy : 1 ≤ y ∧ y ≤ 1048576) : Ok (xs ++ [(x, y)]) := fun k hk => by
  rw [List.length_append, List.length_singleton] at hk
  rcases Nat.lt_or_ge k xs.length with h1 | h1
  · have := h k h1
    unfold okAt at this ⊢
    rw [prev_snoc (by omega), fs_snoc_lt h1, sn_snoc_lt h1]
    exact this
  · obtain rfl : k = xs.length := by omega
    unfold okAt
    rw [prev_snoc (Nat.le_refl _), fs_snoc_eq, sn_snoc_eq]
    exact ⟨⟨hp, hx⟩, hy⟩
theorem prev_snoc_last (xs : List (Int × Int)) (x y : Int) : prev (xs ++ [(x, y)]) (xs ++ [(x, y)]).length = x := by
  rw [List.length_append]
  exact fs_snoc_eq xs (x, y)
/-- Conforming, by times. -/
def Cf (xs : List (Int × Int)) (u R : Int) : Prop := ∀ t1 t2, t1 ≤ t2 → wt xs t1 t2 * 1048576 ≤ u * 1048576 + R * (t2 - t1)
theorem cf_of_fit {xs : List (Int × Int)} {u R : Int} (ho : Ok xs) (hu : 0 ≤ u) (hR : 0 ≤ R) (h : fitB xs u R = true) : Cf xs u R := fun t1 t2 ht => by
  have hp : 0 ≤ R * (t2 - t1) := Int.mul_nonneg hR (by omega)
  rcases wN_le_sumF (t1 := t1) (t2 := t2) xs.length ho.sizes ho.sorted with h0 | ⟨i, m, h1, h2, h3, h4⟩
  · unfold wt; rw [h0]; omega
  · have h5 := fitB_iff.1 h i m h1
    unfold inI Bk.exc at h5
    have h6 : R * (fs xs (i + m) - fs xs i) ≤ R * (t2 - t1) := Int.mul_le_mul_of_nonneg_left (by omega) hR
    unfold wt
    omega
theorem fit_of_cf {xs : List (Int × Int)} {u R : Int} (ho : Ok xs) (h : Cf xs u R) : fitB xs u R = true := fitB_iff.2 fun i m him => by
  have hm := ho.sorted i (i + m) (by omega) him
  have h1 := h (fs xs i) (fs xs (i + m)) hm
  have h2 := sumF_le_wN (f := fs xs) (g := sn xs) (t1 := fs xs i) (t2 := fs xs (i + m)) i m (fun j hj => ho.sizes j (by omega)) (fun j h5 h6 => ⟨ho.sorted i j h5 (by omega), ho.sorted j (i + m) h6 him⟩)
  obtain ⟨r, hr⟩ : ∃ r, xs.length = i + m + 1 + r := ⟨xs.length - (i + m + 1), by omega⟩
  have h3 := wN_mono (f := fs xs) (g := sn xs) (t1 := fs xs i) (t2 := fs xs (i + m)) (n := i + m + 1) r (fun j hj => ho.sizes j (by omega))
  rw [← hr] at h3
  unfold inI Bk.exc
  unfold wt at h1
  omega

/-- The merging of l and m, i and j of them taken. -/
structure Mg (l m both : List (Int × Int)) (i j : Nat) : Prop where
  len : both.length = i + j
  ok : Ok both
  wt : ∀ t1 t2, wt both t1 t2 = wt (l.take i) t1 t2 + wt (m.take j) t1 t2
  l : i < l.length → prev both both.length ≤ fs l i
  m : j < m.length → prev both both.length ≤ fs m j
theorem Ok.prev0 {xs : List (Int × Int)} (h : Ok xs) (k : Nat) (hk : k < xs.length) : 0 ≤ fs xs k := by
  have h1 := (prev_bd (xs := xs) (k := k) (fun j hj => h j (by omega))).1
  have h2 := (h k hk).1.1
  omega
theorem Mg.start {l m : List (Int × Int)} (hl : Ok l) (hm : Ok m) : Mg l m [] 0 0 :=
  ⟨rfl, fun k hk => absurd hk (by simp), fun t1 t2 => by simp [Go.Proofs.Ytajlcagbfebbjaa.wt, wN], fun h => hl.prev0 0 h, fun h => hm.prev0 0 h⟩
theorem Mg.left {l m both : List (Int × Int)} {i j : Nat} (hl : Ok l) (h : Mg l m both i j) (hi : i < l.length) (hj : j < m.length → fs l i ≤ fs m j) : Mg l m (both ++ [(fs l i, sn l i)]) (i + 1) j :=
  ⟨by rw [List.length_append, h.len, List.length_singleton]; omega, h.ok.snoc (h.l hi) (hl i hi).1.2 (hl i hi).2,
   fun t1 t2 => by rw [wt_snoc, wt_take l i hi, h.wt]; omega,
   fun h' => by rw [prev_snoc_last]; exact hl.sorted i (i + 1) (by omega) h', fun h' => by rw [prev_snoc_last]; exact hj h'⟩
theorem Mg.right {l m both : List (Int × Int)} {i j : Nat} (hm : Ok m) (h : Mg l m both i j) (hj : j < m.length) (hi : i < l.length → fs m j ≤ fs l i) : Mg l m (both ++ [(fs m j, sn m j)]) i (j + 1) :=
  ⟨by rw [List.length_append, h.len, List.length_singleton]; omega, h.ok.snoc (h.m hj) (hm j hj).1.2 (hm j hj).2,
   fun t1 t2 => by rw [wt_snoc, wt_take m j hj, h.wt]; omega,
   fun h' => by rw [prev_snoc_last]; exact hi h', fun h' => by rw [prev_snoc_last]; exact hm.sorted j (j + 1) (by omega) h'⟩
theorem Mg.fit {l m both : List (Int × Int)} {u1 R1 u2 R2 : Int} (h : Mg l m both l.length m.length) (h1 : Cf l u1 R1) (h2 : Cf m u2 R2) : fitB both (u1 + u2) (R1 + R2) = true := by
  refine fit_of_cf h.ok fun t1 t2 ht => ?_
  have e := h.wt t1 t2
  rw [List.take_length, List.take_length] at e
  have a := h1 t1 t2 ht
  have b := h2 t1 t2 ht
  rw [e, Int.add_mul R1 R2]
  omega
/-- A part of l, k of them looked at. -/
structure Pt (l part : List (Int × Int)) (k : Nat) : Prop where
  len : part.length ≤ k
  ok : Ok part
  wt : ∀ t1 t2, wt part t1 t2 ≤ wt (l.take k) t1 t2
  last : k < l.length → prev part part.length ≤ fs l k
theorem Pt.start {l : List (Int × Int)} (hl : Ok l) : Pt l [] 0 :=
  ⟨Nat.le_refl _, fun k hk => absurd hk (by simp), fun t1 t2 => by simp [Go.Proofs.Ytajlcagbfebbjaa.wt, wN], fun h => hl.prev0 0 h⟩
theorem Pt.keep {l part : List (Int × Int)} {k : Nat} (hl : Ok l) (h : Pt l part k) (hk : k < l.length) : Pt l (part ++ [(fs l k, sn l k)]) (k + 1) :=
  ⟨by rw [List.length_append, List.length_singleton]; have := h.len; omega, h.ok.snoc (h.last hk) (hl k hk).1.2 (hl k hk).2,
   fun t1 t2 => by rw [wt_snoc, wt_take l k hk]; have := h.wt t1 t2; omega,
   fun h' => by rw [prev_snoc_last]; exact hl.sorted k (k + 1) (by omega) h'⟩
theorem Pt.skip {l part : List (Int × Int)} {k : Nat} (hl : Ok l) (h : Pt l part k) (hk : k < l.length) : Pt l part (k + 1) :=
  ⟨by have := h.len; omega, h.ok, fun t1 t2 => by rw [wt_take l k hk]; have := h.wt t1 t2; have := inW_nn (t1 := t1) (t2 := t2) (x := fs l k) (hl.sizes k hk); omega,
   fun h' => Int.le_trans (h.last hk) (hl.sorted k (k + 1) (by omega) h')⟩
theorem Pt.fit {l part : List (Int × Int)} {u R : Int} (h : Pt l part l.length) (h1 : Cf l u R) : fitB part u R = true := by
  refine fit_of_cf h.ok fun t1 t2 ht => ?_
  have e := h.wt t1 t2
  rw [List.take_length] at e
  have a := h1 t1 t2 ht
  omega

end Go.Proofs.Ytajlcagbfebbjaa
