/-
  Pieces in any order, pieces of other frames, pieces with changed bits: mathematics.
-/
import Derived.Test.YtnapelocjcoofaaVa
namespace Go.Proofs.Ytnapelocjcoofaa
open Go.RowKit Go.Proofs.Ytnapelocjcoofaa.Cr

/-- Good, by the register. -/
theorem chk_good {s : ByteArray} (h : 4 ≤ s.size) : chk s 0 = decide (cr 4294967295 s.data.toList = kS) := by
  have hl : s.data.toList.length = s.size := by simp
  have hi := good_iff (s := s.data.toList) (by rw [hl]; exact h)
  have e : sealB (bef s) 0 = s ↔ cr 4294967295 s.data.toList = kS := by
    rw [← hi]
    have hb : (bef s).data.toList = s.data.toList.take (s.data.toList.length - 4) := by
      unfold bef
      rw [ByteArray.data_extract, Array.toList_extract, List.extract_eq_take_drop, List.drop_zero, Nat.sub_zero, hl]
    constructor
    · intro hh
      have h1 := congrArg (fun b => b.data.toList) hh
      unfold sealB at h1
      simp only [ByteArray.data_append, Array.toList_append, bstr_list, Nat.xor_zero] at h1
      rw [hb] at h1
      exact h1
    · intro hh
      apply ByteArray.ext
      apply Array.toList_inj.1
      unfold sealB
      simp only [ByteArray.data_append, Array.toList_append, bstr_list, Nat.xor_zero]
      rw [hb]
      exact hh
  unfold chk
  by_cases h2 : sealB (bef s) 0 = s
  · rw [decide_eq_true ⟨h, h2⟩, decide_eq_true (e.1 h2)]
  · rw [decide_eq_false (fun hh => h2 hh.2), decide_eq_false (fun hh => h2 (e.2 hh))]
/-- A string with some of its bits changed. -/
def fp (t : ByteArray) (k p : Nat) : ByteArray := bstr (Cr.flip t.data.toList k p 32)
theorem fp_size (t : ByteArray) (k p : Nat) : (fp t k p).size = t.size := by unfold fp; rw [bstr_size, flip_length]; simp
theorem fp_list (t : ByteArray) (k p : Nat) : (fp t k p).data.toList = Cr.flip t.data.toList k p 32 := by unfold fp; rw [bstr_list]
theorem fp_ne {t : ByteArray} {k p : Nat} (hk : k < 8 * t.size) (hp : p < 4294967296) (h : cr 4294967295 (fp t k p).data.toList = cr 4294967295 t.data.toList) : fp t k p = t := by
  rw [fp_list] at h
  have e := cr_flip_ne (l := t.data.toList) (k := k) (p := p) (c := 4294967295) (by have : t.data.toList.length = t.size := by simp
                                                                                    omega) hp h
  apply ByteArray.ext
  apply Array.toList_inj.1
  rw [fp_list, e]
theorem burst_good {t : ByteArray} {k p : Nat} (h4 : 4 ≤ t.size) (hk : k < 8 * t.size) (hp : p < 4294967296) (hne : fp t k p ≠ t) (hg : chk t 0 = true) : chk (fp t k p) 0 = false := by
  rw [chk_good h4, decide_eq_true_eq] at hg
  rw [chk_good (by rw [fp_size]; exact h4)]
  exact decide_eq_false fun h => hne (fp_ne hk hp (h.trans hg.symm))


/-- Four frames, by their numbers. -/
structure Frs (S : Int → ByteArray) (C : Int → List Int) : Prop where
  lo : ∀ q, 0 ≤ q ∧ q ≤ 3 → 64 ≤ (S q).size
  hi : ∀ q, 0 ≤ q ∧ q ≤ 3 → (S q).size ≤ 1522
  good : ∀ q, 0 ≤ q ∧ q ≤ 3 → chk (S q) 0 = true
  cuts : ∀ q, 0 ≤ q ∧ q ≤ 3 → okC (S q).size (C q) = true
  few : ∀ q, 0 ≤ q ∧ q ≤ 3 → (C q).length ≤ 4
/-- The state is zero, or that behind some pieces of one of the frames. -/
def Inv (S : Int → ByteArray) (C : Int → List Int) (m : Ms) : Prop :=
  m = zM ∨ ∃ q i, (0 ≤ q ∧ q ≤ 3) ∧ 0 < i ∧ i ≤ (C q).length ∧ m = st (S q) q (C q) i
theorem Inv.ok {S : Int → ByteArray} {C : Int → List Int} {m : Ms} (F : Frs S C) (h : Inv S C m) : okM m = true := by
  rcases h with rfl | ⟨q, i, hq, h0, hi, rfl⟩
  · exact okM_zero
  · exact st_ok (F.lo q hq) (F.hi q hq) (F.cuts q hq) hq h0 hi
theorem mixed_step {S : Int → ByteArray} {C : Int → List Int} {m : Ms} (F : Frs S C) (h : Inv S C m) {q : Int} (hq : 0 ≤ q ∧ q ≤ 3) {j : Nat} (hj : j ≤ (C q).length) :
    Inv S C (jnR m (pcI (S q) q (C q) j)).1 ∧ ((jnR m (pcI (S q) q (C q) j)).2 = ⟨#[]⟩ ∨ (jnR m (pcI (S q) q (C q) j)).2 = S q) ∧ ((jnR m (pcI (S q) q (C q) j)).1.on = true → (jnR m (pcI (S q) q (C q) j)).1.num = q) := by
  have key : ∀ r : Ms × ByteArray, ∀ k, r = (if k < (C q).length then (st (S q) q (C q) (k + 1), ⟨#[]⟩) else (zM, S q)) → Inv S C r.1 ∧ (r.2 = ⟨#[]⟩ ∨ r.2 = S q) ∧ (r.1.on = true → r.1.num = q) := by
    intro r k e
    subst e
    split
    · exact ⟨.inr ⟨q, k + 1, hq, by omega, by omega, rfl⟩, .inl rfl, fun _ => rfl⟩
    · exact ⟨.inl rfl, .inr rfl, fun h => by cases h⟩
  rcases Nat.eq_zero_or_pos j with rfl | h0
  · exact key _ 0 (jn_first (F.lo q hq) (F.hi q hq) (F.good q hq) (F.cuts q hq) m)
  · have off : ¬ (m.on = true ∧ m.num = (pcI (S q) q (C q) j).num ∧ m.next = (pcI (S q) q (C q) j).cnt) → Inv S C (jnR m (pcI (S q) q (C q) j)).1 ∧ ((jnR m (pcI (S q) q (C q) j)).2 = ⟨#[]⟩ ∨ (jnR m (pcI (S q) q (C q) j)).2 = S q) ∧ ((jnR m (pcI (S q) q (C q) j)).1.on = true → (jnR m (pcI (S q) q (C q) j)).1.num = q) := fun hn => by
      rw [jn_off (decide_eq_false (by omega)) hn]
      exact ⟨.inl rfl, .inl rfl, fun h => by cases h⟩
    rcases h with rfl | ⟨q', i, hq', hi0, hi, rfl⟩
    · exact off (fun h => by cases h.1)
    · by_cases e : q' = q
      · subst e
        by_cases e2 : i = j
        · subst e2
          exact key _ i (jn_next (F.lo q' hq) (F.hi q' hq) (F.good q' hq) (F.cuts q' hq) hi0 hi)
        · refine off (fun h => e2 ?_)
          have h1 : cn i = cn j := h.2.2
          have h2 := F.few q' hq
          unfold cn at h1
          omega
      · exact off (fun h => e h.2.1)

/-- A frame that is returned for a valid state and a valid piece. -/
theorem jnR_frame {m : Ms} {p : Pc} (hp : okP p = true) (h : (jnR m p).2 ≠ ⟨#[]⟩) : chk (jnR m p).2 0 = true ∧ 64 ≤ (jnR m p).2.size ∧ (jnR m p).2.size ≤ 1522 ∧ ∃ a, (jnR m p).2 = a ++ p.data := by
  obtain ⟨_, _, _, h4, _⟩ := okP_iff.1 hp
  unfold jnR at *
  split at h
  · rename_i hs
    rw [if_pos hs]
    obtain ⟨e, h1, h2, _⟩ := jnD_frame h4 h
    rw [e]
    exact ⟨h1, h4, h2, ⟨#[]⟩, by apply ByteArray.ext; rw [ByteArray.data_append]; simp⟩
  · rename_i hs
    split at h
    · rename_i hc
      rw [if_neg hs, if_pos hc]
      have h5 : 64 ≤ (m.data ++ p.data).size := by rw [ByteArray.size_append]; omega
      obtain ⟨e, h1, h2, _⟩ := jnD_frame h5 h
      rw [e]
      exact ⟨h1, h5, h2, m.data, rfl⟩
    · exact absurd rfl h
theorem jnR_start {m : Ms} {p : Pc} (h : p.start = true) : jnR m p = jnR zM p := by unfold jnR; rw [if_pos h, if_pos h]

theorem modify_app (A B : List UInt8) (i : Nat) (f : UInt8 → UInt8) : (A ++ B).modify (A.length + i) f = A ++ B.modify i f := by
  induction A with
  | nil => simp
  | cons a A ih =>
    rw [List.cons_append, List.length_cons, show A.length + 1 + i = (A.length + i) + 1 by omega, List.modify_succ_cons, ih]
    rfl
theorem flip_app (A B : List UInt8) (k p : Nat) : ∀ n, Cr.flip (A ++ B) (8 * A.length + k) p n = A ++ Cr.flip B k p n
  | 0 => rfl
  | n + 1 => by
    rw [Cr.flip, Cr.flip, flip_app A B k p n]
    have e : (8 * A.length + k + n < 8 * (A ++ B).length) = (k + n < 8 * B.length) := by rw [List.length_append]; apply propext; omega
    simp only [e]
    split
    · unfold Cr.fl1
      rw [show (8 * A.length + k + n) / 8 = A.length + (k + n) / 8 by omega, show (8 * A.length + k + n) % 8 = (k + n) % 8 by omega, modify_app]
    · rfl
theorem fp_app (a b : ByteArray) (k p : Nat) : fp (a ++ b) (8 * a.size + k) p = a ++ fp b k p := by
  apply ByteArray.ext
  apply Array.toList_inj.1
  rw [fp_list, ByteArray.data_append, Array.toList_append, ByteArray.data_append, Array.toList_append, fp_list]
  have e : a.size = a.data.toList.length := by simp
  rw [e, flip_app]
/-- The last piece with some of its bits changed. -/
def bad (c : Pc) (k p : Nat) : Pc := { c with data := fp c.data k p }
theorem bad_ok {c : Pc} {k p : Nat} (h : okP c = true) : okP (bad c k p) = true := by
  obtain ⟨h1, h2, h3, h4, h5⟩ := okP_iff.1 h
  have e : (bad c k p).data.size = c.data.size := fp_size _ _ _
  exact okP_iff.2 ⟨h1, h2, h3, by omega, by omega⟩
theorem damage {s : ByteArray} {num : Int} {cs : List Int} (h64 : 64 ≤ s.size) (hg : chk s 0 = true) (hc : okC s.size cs = true) {m : Ms} (hm : m = st s num cs cs.length ∨ cs.length = 0) {k p : Nat} (hk : k < 8 * (pcD s cs cs.length).size) (hp : p < 4294967296)
    (h : (jnR m (bad (pcI s num cs cs.length) k p)).2 ≠ ⟨#[]⟩) : fp (pcD s cs cs.length) k p = pcD s cs cs.length := by
  have h1 := pre_pc h64 hc (Nat.le_refl cs.length)
  rw [if_neg (Nat.lt_irrefl _)] at h1
  have hz := pcD_size h64 hc (Nat.le_refl cs.length)
  rw [if_neg (Nat.lt_irrefl _)] at hz
  have hl := la_le hc h64 (Nat.le_refl cs.length)
  have hl0 := la_nonneg hc (Nat.le_refl cs.length)
  have hfs : (fp (pcD s cs cs.length) k p).size = (pcD s cs cs.length).size := fp_size _ _ _
  have done : chk (s.extract 0 (la cs cs.length).toNat ++ fp (pcD s cs cs.length) k p) 0 = true → fp (pcD s cs cs.length) k p = pcD s cs cs.length := fun hh => by
    rw [← fp_app, h1] at hh
    have hsz : (s.extract 0 (la cs cs.length).toNat).size = (la cs cs.length).toNat := by rw [ByteArray.size_extract]; omega
    rw [hsz] at hh
    by_cases hne : fp s (8 * (la cs cs.length).toNat + k) p = s
    · have h2 := fp_app (s.extract 0 (la cs cs.length).toNat) (pcD s cs cs.length) k p
      rw [h1, hsz, hne] at h2
      have h3 : s.extract 0 (la cs cs.length).toNat ++ pcD s cs cs.length = s.extract 0 (la cs cs.length).toNat ++ fp (pcD s cs cs.length) k p := h1.trans h2
      have h4 := congrArg (fun b => b.data.toList) h3
      simp only [ByteArray.data_append, Array.toList_append] at h4
      exact (ByteArray.ext (Array.toList_inj.1 (List.append_cancel_left h4))).symm
    · rw [burst_good (by omega) (by omega) hp hne hg] at hh
      cases hh
  by_cases hs : cs.length = 0
  · have e0 : s.extract 0 (la cs cs.length).toNat = ⟨#[]⟩ := size_nil (by rw [ByteArray.size_extract, hs]; show min (0 : Int).toNat _ - 0 = 0; simp)
    have hst : (bad (pcI s num cs cs.length) k p).start = true := decide_eq_true hs
    unfold jnR at h
    rw [if_pos hst] at h
    have h5 := (jnD_frame (show 64 ≤ (fp (pcD s cs cs.length) k p).size by rw [hfs]; omega) h).2.1
    refine done ?_
    rw [e0]
    have e1 : (⟨#[]⟩ : ByteArray) ++ fp (pcD s cs cs.length) k p = fp (pcD s cs cs.length) k p := by apply ByteArray.ext; rw [ByteArray.data_append]; simp
    rw [e1]
    exact h5
  · have hm' := hm.resolve_right hs
    subst hm'
    have hst : ¬ (bad (pcI s num cs cs.length) k p).start = true := by
      show ¬ decide (cs.length = 0) = true
      simp [hs]
    unfold jnR at h
    rw [if_neg hst, if_pos ⟨rfl, rfl, rfl⟩] at h
    refine done ((jnD_frame ?_ h).2.1)
    show 64 ≤ (s.extract 0 (la cs cs.length).toNat ++ fp (pcD s cs cs.length) k p).size
    rw [ByteArray.size_append, hfs]
    omega

end Go.Proofs.Ytnapelocjcoofaa
