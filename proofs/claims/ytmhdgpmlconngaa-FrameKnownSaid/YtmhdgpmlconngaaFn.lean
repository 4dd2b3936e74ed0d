/-
  Decode's frame is the one frame, with the longest Data, whose encoding the string is.
-/
import Derived.Test.YtmhdgpmlconngaaFm
namespace Go.Proofs.Ytmhdgpmlconngaa
open Go.RowKit Go.Proofs.Ytmhdgpmlconngaa.Cr

theorem fr_eta (f : Fr) {d s p v q y : Int} {t r : Bool} {x : ByteArray} (h1 : f.dst = d) (h2 : f.src = s) (h3 : f.tag = t) (h4 : f.prio = p) (h5 : f.vid = v) (h6 : f.red = r) (h7 : f.seq = q) (h8 : f.typ = y) (h9 : f.data = x) : (⟨d, s, t, p, v, r, q, y, x⟩ : Fr) = f := by
  subst h1 h2 h3 h4 h5 h6 h7 h8 h9; rfl
theorem nil_app {l : List UInt8} : l = l ++ [] := (List.append_nil l).symm

theorem fr3_ok {f : Fr} (hf : Ok f) (hu : full f) {a : Nat} (ha : a = tyA f) : fr3 (bod f) f.tag f.red f.dst f.src f.prio f.vid f.seq a = some f := by
  subst ha
  have h1 := rd_typ hf (s := bod f) nil_app
  have h2 := ex_data (f := f) (s := bod f) nil_app
  have h3 := bod_size f
  have h4 := tyA_hdr f
  have h5 := hf.size
  unfold fr3
  rw [h1]
  unfold tl
  by_cases hy : f.typ = 0
  · rw [if_pos hy, if_pos (by omega), if_pos (by omega), h4, Int.toNat_natCast, h2]
    exact congrArg some (fr_eta f rfl rfl rfl rfl rfl rfl rfl hy rfl)
  · have h6 := hf.typ
    have h7 : hdr f + f.data.size = (bod f).size := by
      rcases hu with h | h
      · exact absurd h hy
      · omega
    rw [if_neg hy, if_neg (by omega), h4, ← h7, h2]
theorem prs_bod {f : Fr} (hf : Ok f) (hu : full f) : prs (bod f) = some f := by
  have hd := rd_dst hf (s := bod f) nil_app
  have hs := rd_src hf (s := bod f) nil_app
  have hy := rd_typ hf (s := bod f) nil_app
  have ht := hf.tl
  have hz := bod_size f
  unfold prs
  rw [if_neg (by omega), hd, hs]
  cases htag : f.tag
  · have hp := hf.prio
    have hv := hf.vid
    have hp0 : f.prio = 0 := by rw [htag] at hp; simp [ifs] at hp; omega
    have hv0 : f.vid = 0 := by rw [htag] at hv; simp [ifs] at hv; omega
    cases hred : f.red
    · have hA : tyA f = 12 := by unfold tyA; rw [htag, hred]; rfl
      have hq := hf.seq
      have hq0 : f.seq = 0 := by rw [hred] at hq; simp [ifs] at hq; omega
      have e := fr3_ok hf hu hA.symm
      rw [hA] at hy
      rw [htag, hred, hp0, hv0, hq0] at e
      rw [if_neg (by omega)]
      unfold fr2
      rw [if_neg (by omega), if_neg (by omega)]
      exact e
    · have hA : tyA f = 18 := by unfold tyA; rw [htag, hred]; rfl
      have hr := rd_red (s := bod f) hred nil_app
      have hq := rd_seq hf (s := bod f) hred nil_app
      rw [htag] at hr hq
      replace hr : rd (bod f) 12 2 = 61889 := hr
      replace hq : rd (bod f) 14 4 = f.seq := hq
      have e := fr3_ok hf hu hA.symm
      rw [htag, hred, hp0, hv0] at e
      rw [if_neg (by omega)]
      unfold fr2
      rw [if_neg (by omega), if_pos hr, if_neg (by omega), hq]
      exact e
  · have hp := hf.prio
    have hv := hf.vid
    rw [htag] at hp hv
    replace hp : 0 ≤ f.prio ∧ f.prio ≤ 7 := hp
    replace hv : 0 ≤ f.vid ∧ f.vid ≤ 4094 := hv
    have h12 := rd_tag (s := bod f) htag nil_app
    have h14 := rd_ctl hf htag (s := bod f) nil_app
    rw [if_pos h12, if_neg (by omega), h14, show (f.prio * 8192 + f.vid) / 8192 = f.prio by omega, show (f.prio * 8192 + f.vid) % 8192 = f.vid by omega]
    cases hred : f.red
    · have hA : tyA f = 16 := by unfold tyA; rw [htag, hred]; rfl
      have hq := hf.seq
      have hq0 : f.seq = 0 := by rw [hred] at hq; simp [ifs] at hq; omega
      have e := fr3_ok hf hu hA.symm
      rw [hA] at hy
      rw [htag, hred, hq0] at e
      unfold fr2
      rw [if_neg (by omega), if_neg (by omega)]
      exact e
    · have hA : tyA f = 22 := by unfold tyA; rw [htag, hred]; rfl
      have hr := rd_red (s := bod f) hred nil_app
      have hq := rd_seq hf (s := bod f) hred nil_app
      rw [htag] at hr hq
      replace hr : rd (bod f) 16 2 = 61889 := hr
      replace hq : rd (bod f) 18 4 = f.seq := hq
      have e := fr3_ok hf hu hA.symm
      rw [htag, hred] at e
      unfold fr2
      rw [if_neg (by omega), if_pos hr, if_neg (by omega), hq]
      exact e

theorem fr3_shape {b : ByteArray} {t r : Bool} {d s p v q : Int} {a : Nat} {f : Fr} (h : fr3 b t r d s p v q a = some f) (ha : a + 2 ≤ b.size) : f.tag = t ∧ f.red = r ∧ (f.typ = 0 ∨ a + 2 + f.data.size = b.size) := by
  unfold fr3 at h
  split at h
  · split at h
    · obtain rfl := Option.some.inj h
      exact ⟨rfl, rfl, .inl rfl⟩
    · cases h
  · obtain rfl := Option.some.inj h
    refine ⟨rfl, rfl, .inr ?_⟩
    show a + 2 + (b.extract (a + 2) b.size).size = b.size
    rw [ByteArray.size_extract]
    omega
theorem fr2_shape {b : ByteArray} {t : Bool} {d s p v : Int} {a : Nat} {f : Fr} (h : fr2 b t d s p v a = some f) : f.tag = t ∧ (f.typ = 0 ∨ a + (if f.red then 6 else 0) + 2 + f.data.size = b.size) := by
  unfold fr2 at h
  split at h
  · cases h
  · split at h
    · split at h
      · cases h
      · obtain ⟨h1, h2, h3⟩ := fr3_shape h (by omega)
        rw [h2]
        exact ⟨h1, h3⟩
    · obtain ⟨h1, h2, h3⟩ := fr3_shape h (by omega)
      rw [h2]
      exact ⟨h1, h3⟩
theorem prs_shape {b : ByteArray} {f : Fr} (h : prs b = some f) : f.typ = 0 ∨ hdr f + f.data.size = b.size := by
  unfold prs at h
  split at h
  · cases h
  · split at h
    · split at h
      · cases h
      · obtain ⟨h1, h2⟩ := fr2_shape h
        unfold hdr
        rw [h1]
        rcases h2 with h2 | h2
        · exact .inl h2
        · right; rw [if_pos rfl]; omega
    · obtain ⟨h1, h2⟩ := fr2_shape h
      unfold hdr
      rw [h1]
      rcases h2 with h2 | h2
      · exact .inl h2
      · right; rw [if_neg (by decide)]; omega

/-- s is the encoding of the valid frame f, and of no frame with longer Data. -/
def Dec (s : ByteArray) (f : Fr) : Prop := Ok f ∧ full f ∧ enc f = s
theorem dec_iff {s : ByteArray} {f : Fr} : dec s = some f ↔ Dec s f := by
  unfold dec
  constructor
  · intro h
    split at h
    · rename_i hc
      rw [Option.filter_eq_some_iff] at h
      obtain ⟨h1, h2⟩ := h
      rw [Bool.and_eq_true, decide_eq_true_eq] at h2
      refine ⟨ok_iff.1 h2.1, ?_, by unfold enc; rw [h2.2]; exact chk_eq hc⟩
      rcases prs_shape h1 with h3 | h3
      · exact .inl h3
      · right
        rw [h3, ← h2.2, bod_size]
        omega
    · cases h
  · rintro ⟨h1, h2, rfl⟩
    unfold enc
    rw [if_pos (chk_seal' _ _), bef_seal', Option.filter_eq_some_iff]
    exact ⟨prs_bod h1 h2, by rw [ok_iff.2 h1, decide_eq_true rfl]; rfl⟩
theorem dec_one {s : ByteArray} {f g : Fr} (hf : Dec s f) (hg : Dec s g) : f = g :=
  Option.some.inj ((dec_iff.2 hf).symm.trans (dec_iff.2 hg))

/-- The reference's candidate, from the octets behind the addresses on. -/
def cn3 (z : ByteArray) (t r : Bool) (d s p v q : Int) : Fr :=
  if 1536 ≤ vl 0 (z.extract 0 2).data.toList then ⟨d, s, t, p, v, r, q, vl 0 (z.extract 0 2).data.toList, z.extract 2 z.size⟩
  else ⟨d, s, t, p, v, r, q, 0, (z.extract 2 z.size).extract 0 (min (vl 0 (z.extract 0 2).data.toList).toNat (z.extract 2 z.size).size)⟩
def cn2 (z : ByteArray) (t : Bool) (d s p v : Int) : Fr :=
  if z.extract 0 4 = ⟨#[241, 193, 0, 0]⟩ then cn3 (z.extract 6 z.size) t true d s p v (vl 0 (z.extract 4 6).data.toList) else cn3 z t false d s p v 0
def cn1 (z : ByteArray) (d s : Int) : Fr :=
  if z.extract 0 2 = ⟨#[129, 0]⟩ then cn2 (z.extract 4 z.size) true d s (vl 0 (z.extract 2 4).data.toList / 8192) (vl 0 (z.extract 2 4).data.toList % 8192) else cn2 z false d s 0 0
/-- The reference's candidate. -/
def cnd (s : ByteArray) : Fr := cn1 (s.extract 12 (s.size - 4)) (vl 0 (s.extract 0 6).data.toList) (vl 0 (s.extract 6 12).data.toList)

theorem vl_beL {n : Int} {k : Nat} (h0 : 0 ≤ n) (h1 : n < pw k) : vl 0 (be n k).data.toList = n := by rw [vl_be, mod_small h0 h1]; omega
theorem ex_head {z : ByteArray} {A C : List UInt8} {k : Nat} (h : z.data.toList = A ++ C) (hk : A.length = k) : (z.extract 0 k).data.toList = A := by
  rw [extract_list, h, List.drop_zero, Nat.sub_zero, ← hk, List.take_left]
theorem ex_mid {z : ByteArray} {A B C : List UInt8} {a k : Nat} (h : z.data.toList = A ++ (B ++ C)) (ha : A.length = a) (hk : A.length + B.length = k) : (z.extract a k).data.toList = B := by
  rw [extract_list, h, ← ha, List.drop_left, show k - A.length = B.length by omega, List.take_left]
theorem ex_tail {z : ByteArray} {A C : List UInt8} {a : Nat} (h : z.data.toList = A ++ C) (ha : A.length = a) : (z.extract a z.size).data.toList = C := by
  have hs := list_size z
  rw [h, List.length_append] at hs
  rw [extract_list, h, ← ha, List.drop_left, List.take_of_length_le (by omega)]

theorem cn3_ok {f : Fr} (hf : Ok f) (hu : full f) {z : ByteArray} (hz : z.data.toList = (be (tl f) 2).data.toList ++ (f.data.data.toList ++ pdL f)) : cn3 z f.tag f.red f.dst f.src f.prio f.vid f.seq = f := by
  have h1 := hf.tl
  have h2 := hf.size
  have e1 : vl 0 (z.extract 0 2).data.toList = tl f := by rw [ex_head hz (be_len _ _), vl_beL h1.1 (by rw [show pw 2 = 65536 by decide]; omega)]
  have e2 := ex_tail hz (be_len _ _)
  unfold cn3
  rw [e1]
  by_cases hy : f.typ = 0
  · have ht : tl f = (f.data.size : Int) := by unfold tl; rw [if_pos hy]
    rw [if_neg (by omega), ht, Int.toNat_natCast]
    refine fr_eta f rfl rfl rfl rfl rfl rfl rfl hy (bytes_ext ?_)
    have hle : f.data.size ≤ (z.extract 2 z.size).size := by rw [← list_size, ← list_size (z.extract 2 z.size), e2, List.length_append]; omega
    rw [Nat.min_eq_left hle, ex_head e2 (list_size _)]
  · have h6 := hf.typ
    have ht : tl f = f.typ := by unfold tl; rw [if_neg hy]
    rw [if_pos (by omega), ht]
    refine fr_eta f rfl rfl rfl rfl rfl rfl rfl rfl (bytes_ext ?_)
    have hp : pdL f = [] := by
      unfold pdL
      rw [b3_size]
      rcases hu with h | h
      · exact absurd h hy
      · rw [show 60 - (hdr f + f.data.size) = 0 by omega]; rfl
    rw [e2, hp, List.append_nil]
theorem be_lit1 : be 33024 2 = ⟨#[129, 0]⟩ := by decide
theorem be_lit2 : be 61889 2 = ⟨#[241, 193]⟩ := by decide
theorem be_seq {n : Int} (h0 : 0 ≤ n) (h1 : n ≤ 65535) : (be n 4).data.toList = [0, 0] ++ (be n 2).data.toList := by
  rw [be_list, be_list]
  show [UInt8.ofNat _, UInt8.ofNat _, UInt8.ofNat _, UInt8.ofNat _] = [0, 0, UInt8.ofNat _, UInt8.ofNat _]
  rw [show n / pw 3 % 256 = 0 by rw [show pw 3 = 16777216 by decide]; omega, show n / pw 2 % 256 = 0 by rw [show pw 2 = 65536 by decide]; omega]
  rfl
theorem cn2_ok {f : Fr} (hf : Ok f) (hu : full f) {z : ByteArray} (hz : z.data.toList = rdL f ++ ((be (tl f) 2).data.toList ++ (f.data.data.toList ++ pdL f))) : cn2 z f.tag f.dst f.src f.prio f.vid = f := by
  unfold cn2
  have hq := hf.seq
  cases hr : f.red
  · rw [hr] at hq
    have hq0 : f.seq = 0 := by simp [ifs] at hq; omega
    rw [show rdL f = [] by unfold rdL; rw [hr]; rfl, List.nil_append] at hz
    have hne : ¬ z.extract 0 4 = ⟨#[241, 193, 0, 0]⟩ := by
      intro h
      have h1 : (z.extract 0 2).data.toList = (be (tl f) 2).data.toList := ex_head hz (be_len _ _)
      have h2 : (z.extract 0 2).data.toList = [241, 193] := by
        have h3 : (z.extract 0 2).data.toList = (z.extract 0 4).data.toList.take 2 := by
          rw [extract_list, extract_list, List.drop_zero, Nat.sub_zero, Nat.sub_zero, List.take_take]; rfl
        rw [h3, h]
        rfl
      have ht := hf.tl
      have h4 := vl_beL ht.1 (show tl f < pw 2 by rw [show pw 2 = 65536 by decide]; omega)
      rw [← h1, h2] at h4
      have h5 : vl 0 [241, 193] = 61889 := by decide
      omega
    rw [if_neg hne]
    have e := cn3_ok hf hu hz
    rw [hr, hq0] at e
    exact e
  · rw [hr] at hq
    replace hq : 0 ≤ f.seq ∧ f.seq ≤ 65535 := hq
    have e0 : rdL f = [241, 193, 0, 0] ++ (be f.seq 2).data.toList := by
      unfold rdL
      rw [hr, if_pos rfl, be_lit2, be_seq hq.1 hq.2]
      rfl
    rw [e0, List.append_assoc] at hz
    have h1 : z.extract 0 4 = ⟨#[241, 193, 0, 0]⟩ := bytes_ext (ex_head hz rfl)
    have h2 : (z.extract 4 6).data.toList = (be f.seq 2).data.toList := ex_mid hz rfl (by rw [be_len]; rfl)
    have h3 : (z.extract 6 z.size).data.toList = (be (tl f) 2).data.toList ++ (f.data.data.toList ++ pdL f) := ex_tail (A := [241, 193, 0, 0] ++ (be f.seq 2).data.toList) (by rw [hz]; simp only [List.append_assoc]) (by rw [List.length_append, be_len]; rfl)
    rw [if_pos h1, h2, vl_beL hq.1 (by rw [show pw 2 = 65536 by decide]; omega)]
    have e := cn3_ok hf hu h3
    rw [hr] at e
    exact e
theorem head2_ne {z : ByteArray} {f : Fr} (hf : Ok f) (hz : z.data.toList = rdL f ++ ((be (tl f) 2).data.toList ++ (f.data.data.toList ++ pdL f))) : ¬ z.extract 0 2 = ⟨#[129, 0]⟩ := by
  intro h
  have h2 : (z.extract 0 2).data.toList = [129, 0] := by rw [h]; 
  have h5 : vl 0 [129, 0] = 33024 := by decide
  cases hr : f.red
  · rw [show rdL f = [] by unfold rdL; rw [hr]; rfl, List.nil_append] at hz
    have h1 : (z.extract 0 2).data.toList = (be (tl f) 2).data.toList := ex_head hz (be_len _ _)
    have ht := hf.tl
    have h4 := vl_beL ht.1 (show tl f < pw 2 by rw [show pw 2 = 65536 by decide]; omega)
    rw [← h1, h2] at h4
    omega
  · rw [show rdL f = (be 61889 2).data.toList ++ (be f.seq 4).data.toList by unfold rdL; rw [hr]; rfl, List.append_assoc] at hz
    have h1 : (z.extract 0 2).data.toList = (be 61889 2).data.toList := ex_head hz (be_len _ _)
    rw [h2, be_lit2] at h1
    exact absurd h1 (by decide)
theorem cn1_ok {f : Fr} (hf : Ok f) (hu : full f) {z : ByteArray} (hz : z.data.toList = tgL f ++ (rdL f ++ ((be (tl f) 2).data.toList ++ (f.data.data.toList ++ pdL f)))) : cn1 z f.dst f.src = f := by
  unfold cn1
  have hp := hf.prio
  have hv := hf.vid
  cases ht : f.tag
  · rw [ht] at hp hv
    have hp0 : f.prio = 0 := by simp [ifs] at hp; omega
    have hv0 : f.vid = 0 := by simp [ifs] at hv; omega
    rw [show tgL f = [] by unfold tgL; rw [ht]; rfl, List.nil_append] at hz
    rw [if_neg (head2_ne hf hz)]
    have e := cn2_ok hf hu hz
    rw [ht, hp0, hv0] at e
    exact e
  · rw [ht] at hp hv
    replace hp : 0 ≤ f.prio ∧ f.prio ≤ 7 := hp
    replace hv : 0 ≤ f.vid ∧ f.vid ≤ 4094 := hv
    have e0 : tgL f = [129, 0] ++ (be (f.prio * 8192 + f.vid) 2).data.toList := by
      unfold tgL
      rw [ht, if_pos rfl, be_lit1]
    rw [e0, List.append_assoc] at hz
    have h1 : z.extract 0 2 = ⟨#[129, 0]⟩ := bytes_ext (ex_head hz rfl)
    have h2 : (z.extract 2 4).data.toList = (be (f.prio * 8192 + f.vid) 2).data.toList := ex_mid hz rfl (by rw [be_len]; rfl)
    have h3 : (z.extract 4 z.size).data.toList = rdL f ++ ((be (tl f) 2).data.toList ++ (f.data.data.toList ++ pdL f)) := ex_tail (A := [129, 0] ++ (be (f.prio * 8192 + f.vid) 2).data.toList) (by rw [hz]; simp only [List.append_assoc]) (by rw [List.length_append, be_len]; rfl)
    rw [if_pos h1, h2, vl_beL (by omega) (by rw [show pw 2 = 65536 by decide]; omega), show (f.prio * 8192 + f.vid) / 8192 = f.prio by omega, show (f.prio * 8192 + f.vid) % 8192 = f.vid by omega]
    have e := cn2_ok hf hu h3
    rw [ht] at e
    exact e
theorem cnd_enc {f : Fr} (hf : Ok f) (hu : full f) : cnd (enc f) = f := by
  have hl : (enc f).data.toList = (bod f).data.toList ++ (le4 (ofN (bod f).data.toList ^^^ 0)) := by
    unfold enc sealB
    rw [app_list, bstr_list]
  have hsz := enc_size f
  have hb := bod_list f
  have h12 : ((enc f).extract 12 ((enc f).size - 4)).data.toList = tgL f ++ (rdL f ++ ((be (tl f) 2).data.toList ++ (f.data.data.toList ++ pdL f))) := by
    have hz := list_size (bod f)
    refine ex_mid (A := (be f.dst 6).data.toList ++ (be f.src 6).data.toList) (C := le4 (ofN (bod f).data.toList ^^^ 0)) (by rw [hl, hb]; simp only [List.append_assoc]) (by rw [List.length_append, be_len, be_len]) ?_
    rw [hsz, Nat.add_sub_cancel, ← hz, hb]
    simp only [List.length_append]
    omega
  unfold cnd
  have e1 : vl 0 ((enc f).extract 0 6).data.toList = f.dst := by
    rw [ex_head (A := (be f.dst 6).data.toList) (by rw [hl, hb]; simp only [List.append_assoc]; rfl) (be_len _ _), vl_beL hf.dst.1 (by rw [show pw 6 = 281474976710656 by decide]; have := hf.dst.2; omega)]
  have e2 : vl 0 ((enc f).extract 6 12).data.toList = f.src := by
    rw [ex_mid (A := (be f.dst 6).data.toList) (B := (be f.src 6).data.toList) (by rw [hl, hb]; simp only [List.append_assoc]; rfl) (be_len _ _) (by rw [be_len, be_len]), vl_beL hf.src.1 (by rw [show pw 6 = 281474976710656 by decide]; have := hf.src.2; omega)]
  rw [e1, e2]
  exact cn1_ok hf hu h12

theorem cn3_shape {z : ByteArray} {t r : Bool} {d s p v q : Int} (hz : 2 ≤ z.size) : (cn3 z t r d s p v q).tag = t ∧ (cn3 z t r d s p v q).red = r ∧ ((cn3 z t r d s p v q).typ = 0 ∨ 2 + (cn3 z t r d s p v q).data.size = z.size) := by
  unfold cn3
  split
  · refine ⟨rfl, rfl, .inr ?_⟩
    show 2 + (z.extract 2 z.size).size = z.size
    rw [ByteArray.size_extract]; omega
  · exact ⟨rfl, rfl, .inl rfl⟩
theorem cn2_shape {z : ByteArray} {t : Bool} {d s p v : Int} (hz : 8 ≤ z.size) : (cn2 z t d s p v).tag = t ∧ ((cn2 z t d s p v).typ = 0 ∨ (if (cn2 z t d s p v).red then 6 else 0) + 2 + (cn2 z t d s p v).data.size = z.size) := by
  unfold cn2
  split
  · have hs : (z.extract 6 z.size).size = z.size - 6 := by rw [ByteArray.size_extract]; omega
    obtain ⟨h1, h2, h3⟩ := cn3_shape (z := z.extract 6 z.size) (t := t) (r := true) (d := d) (s := s) (p := p) (v := v) (q := vl 0 (z.extract 4 6).data.toList) (by omega)
    refine ⟨h1, ?_⟩
    rw [h2]
    rcases h3 with h3 | h3
    · exact .inl h3
    · right; rw [if_pos rfl]; omega
  · obtain ⟨h1, h2, h3⟩ := cn3_shape (z := z) (t := t) (r := false) (d := d) (s := s) (p := p) (v := v) (q := 0) (by omega)
    refine ⟨h1, ?_⟩
    rw [h2]
    rcases h3 with h3 | h3
    · exact .inl h3
    · right; rw [if_neg (by decide)]; omega
theorem cn1_shape {z : ByteArray} {d s : Int} (hz : 12 ≤ z.size) : (cn1 z d s).typ = 0 ∨ hdr (cn1 z d s) + (cn1 z d s).data.size = 12 + z.size := by
  unfold hdr cn1
  split
  · have hs : (z.extract 4 z.size).size = z.size - 4 := by rw [ByteArray.size_extract]; omega
    obtain ⟨h1, h3⟩ := cn2_shape (z := z.extract 4 z.size) (t := true) (d := d) (s := s) (p := vl 0 (z.extract 2 4).data.toList / 8192) (v := vl 0 (z.extract 2 4).data.toList % 8192) (by omega)
    rw [h1]
    rcases h3 with h3 | h3
    · exact .inl h3
    · right; rw [if_pos rfl]; omega
  · obtain ⟨h1, h3⟩ := cn2_shape (z := z) (t := false) (d := d) (s := s) (p := 0) (v := 0) (by omega)
    rw [h1]
    rcases h3 with h3 | h3
    · exact .inl h3
    · right; rw [if_neg (by decide)]; omega

/-- What the reference's Decode gives is what Decode gives. -/
theorem dec_ref {s : ByteArray} (h : 64 ≤ s.size) (h1 : okB (cnd s) = true) (h2 : enc (cnd s) = s) : dec s = some (cnd s) := by
  refine dec_iff.2 ⟨ok_iff.1 h1, ?_, h2⟩
  have hz : (s.extract 12 (s.size - 4)).size = s.size - 16 := by rw [ByteArray.size_extract]; omega
  rcases cn1_shape (z := s.extract 12 (s.size - 4)) (d := vl 0 (s.extract 0 6).data.toList) (s := vl 0 (s.extract 6 12).data.toList) (by omega) with h3 | h3
  · exact .inl h3
  · exact .inr (by show 60 ≤ hdr (cn1 _ _ _) + (cn1 _ _ _).data.size; omega)
theorem dec_none {s : ByteArray} (h : ∀ f, ¬ Dec s f) : dec s = none := by
  cases hd : dec s with
  | none => rfl
  | some f => exact absurd (dec_iff.1 hd) (h f)
theorem dec_small {s : ByteArray} (h : s.size < 64) : dec s = none := dec_none fun f hf => by
  have h1 := enc_size f
  have h2 := bod_size f
  rw [hf.2.2] at h1
  omega
theorem dec_cnd {s : ByteArray} (h : ¬ (okB (cnd s) = true ∧ enc (cnd s) = s)) : dec s = none := dec_none fun f hf => by
  have e := cnd_enc hf.1 hf.2.1
  rw [hf.2.2] at e
  exact h ⟨by rw [e]; exact ok_iff.2 hf.1, by rw [e]; exact hf.2.2⟩

end Go.Proofs.Ytmhdgpmlconngaa
