/-
  FrameCanon: a string that is decoded is the encoding of the result, whose Data cannot be longer.
-/
import Derived.Test.YtmhdgpmlconngaaGb
import Derived.Test.YtmhdgpmlconngaaPq
import Derived.Deep.RegionHeld3
namespace Go.Proofs.Ytmhdgpmlconngaa
open Go.RowKit Go.Proofs.Ytmhdgpmlconngaa.Cr

/-- A frame with one more octet 00. -/
def lng (f : Fr) : Fr := { f with data := f.data ++ ⟨#[0]⟩ }
theorem lng_size (f : Fr) : (lng f).data.size = f.data.size + 1 := by
  show (f.data ++ (⟨#[0]⟩ : ByteArray)).size = _
  rw [ByteArray.size_append]; rfl
theorem lng_ne {z : ByteArray} {f : Fr} (h : dec z = some f) (hg : okB (lng f) = true) : enc (lng f) ≠ z := fun he => by
  have hf := dec_iff.1 h
  have hu : full (lng f) := by
    rcases hf.2.1 with h1 | h1
    · exact .inl h1
    · refine .inr ?_
      rw [lng_size, show hdr (lng f) = hdr f from rfl]
      omega
  have e := dec_one hf ⟨ok_iff.1 hg, hu, he⟩
  have e2 : f.data.size = (lng f).data.size := congrArg (fun f => f.data.size) e
  have e3 := lng_size f
  omega
theorem four_strings {a b c d : ByteArray} {n : Nat} (ha : a.size ≤ n) (hb : b.size ≤ n) (hc : c.size ≤ n) (hd : d.size ≤ n) (k : Nat) (hk : k < 4) :
    ∃ z : ByteArray, z.size ≤ n ∧ ∀ w, (Instr.index 49 (.agg #[.string a, .string b, .string c, .string d]) (.int .i64 k)).run Try.prog w = .ok (.string z) w := by
  match k, hk with
  | 0, _ => exact ⟨a, ha, fun _ => by kernel_rfl⟩
  | 1, _ => exact ⟨b, hb, fun _ => by kernel_rfl⟩
  | 2, _ => exact ⟨c, hc, fun _ => by kernel_rfl⟩
  | 3, _ => exact ⟨d, hd, fun _ => by kernel_rfl⟩
theorem mod_pos (a n : Nat) (hn : 0 < n) : ∃ A : Nat, (a : Int).tmod (n : Int) = (A : Int) ∧ A < n :=
  ⟨a % n, by rw [Int.tmod_eq_emod_of_nonneg (by omega), Int.natCast_emod], Nat.mod_lt _ hn⟩
def canV (s ze o : ByteArray) (p A M c : Nat) : Nat → Value
  | 0 => .string s
  | 1 => .string s
  | 2 => .int .i64 (s.size : Int)
  | 3 => .int .i64 (p : Int)
  | 4 => .string (s.extract 0 p)
  | 5 => .string s
  | 6 => .string s
  | 7 => .int .i64 (s.size : Int)
  | 8 => .int .i64 (p : Int)
  | 9 => .string (s.extract 0 p)
  | 10 => .string (sealB (s.extract 0 p) 0)
  | 11 => .string ze
  | 12 => .string ze
  | 13 => .int .i64 (A : Int)
  | 14 => .string (ze.extract 0 A)
  | 15 => .int .u8 (c : Int)
  | 17 => .string (bstr [UInt8.ofNat c])
  | 18 => .string (ze.extract 0 A ++ bstr [UInt8.ofNat c])
  | 19 => .string ze
  | 20 => .int .i64 (A : Int)
  | 21 => .int .i64 ((A : Int) + 1)
  | 22 => .string ze
  | 23 => .int .i64 ((M : Int) + 4)
  | 24 => .int .i64 (M : Int)
  | 25 => .string (ze.extract (A + 1) M)
  | 26 => .string o
  | 27 => .string (sealB o 0)
  | 28 => .agg #[.string (s.extract 0 p), .string (sealB (s.extract 0 p) 0), .string ze, .string (sealB o 0)]
  | 29 => .int .i64 0
  | _ => undef
set_option maxRecDepth 20000 in
set_option maxHeartbeats 4000000 in
theorem canon_law (s : ByteArray) (a b l g k q : Nat) (x : ByteArray) (n c : Nat) (hs : s.size ≤ maxLen) (ha : a < 65536) (hb : b < 65536) (hl : l < 65536) (hg : g < 256) (hk : k < 256) (hq : q < 65536) (hx : x.size ≤ maxLen) (hn : n < 65536) (hc : c < 256) (w : World) :
    Calls Try.prog 6 #[.string s, dfV a b l g k q x, .int .u16 (n : Int), .int .u8 (c : Int)] w fun e w' => e = .returned (.bool true) ∧ Bl w w' := by
  have KW := Lib.hid (fun w => works_any w)
  have KF := Lib.hid (fun w => draft_any a b l g k q x ha hb hl hg hk hq hx w)
  have HB := Lib.hid (fun (w w' : World) (g2 : Bl (w.alloc (.cells #[.int .u16 (a : Int), .int .u16 (b : Int), .int .u16 (l : Int), .int .u8 (g : Int), .int .u8 (k : Int), .int .u16 (q : Int), .string x] 26)) w') => box_keep w w' a b l g k q x 26 g2)
  clear hx
  unfold dfV at *
  unfold maxLen at hs
  go_enter Try.func6, Try.ntmps6
  go_wp2_with fail
  refine (KW.out _).mono ?_; rintro e wn ⟨rfl, hgr⟩
  obtain ⟨hG, x0, x1, x2, x3, x4, x5, x6⟩ := HB.out _ _ hgr
  have G := Lib.hid hG
  clear hgr hG HB KW
  go_wp2_with fail
  refine (KF.out _).mono ?_; rintro e wn ⟨⟨f, hf, rfl⟩, hgr⟩
  replace G := Lib.hid (Bl.trans G.out hgr)
  clear hgr x0 x1 x2 x3 x4 x5 x6 KF ha hb hl hg hk hq
  have hbo := hf.bod_le
  have hb2 := bod_size f
  have hes := enc_size f
  have hok := ok_iff.2 hf
  obtain ⟨M, hM, hM1, hM2⟩ : ∃ M : Nat, (enc f).size = M + 4 ∧ 60 ≤ M ∧ M ≤ 1518 := ⟨(bod f).size, by omega, by omega, by omega⟩
  have KE := Lib.hid (fun w => (enR_s hok) ▸ encode_any f w)
  clear hbo hb2 hes hok
  go_wp2_with fail
  refine (KE.out _).mono ?_; rintro e wn ⟨rfl, hgr⟩
  replace G := Lib.hid (Bl.trans G.out hgr)
  clear hgr KE hf
  generalize enc f = ze at *
  generalize f.v = fv at *
  have hz2 : (ze.size : Int) = (M : Int) + 4 := by omega
  have hw4 : IntKind.i64.wrap ((ze.size : Int) - 4) = (M : Int) := by rw [IntWalk.i64_in _ (by omega)]; omega
  have hz4 : (ze.size : Int) - 4 = (M : Int) := by omega
  have hd0 : ¬ (M : Int) = 0 := by omega
  obtain ⟨A, hA, hA1⟩ := mod_pos n M (by omega)
  have hMI : (M : Int) ≤ 1518 := by omega
  have hAI : (A : Int) < (M : Int) := by omega
  go_upto_region 7 with fail
  obtain ⟨p, hp1, hp2, hp3⟩ : ∃ p : Nat, (if (200 : Int) < s.size then 200 else (s.size : Int)) = (p : Int) ∧ p ≤ s.size ∧ p ≤ 200 := ⟨min s.size 200, by split <;> omega, by omega, by omega⟩
  have hp4 : min (s.size : Int) 200 = (p : Int) := by omega
  have hps : (p : Int) ≤ (s.size : Int) := by omega
  have hsz : (s.extract 0 p).size = p := by rw [ByteArray.size_extract]; omega
  have K1 := Lib.hid (fun w => seal_any (s.extract 0 p) (by omega) w)
  obtain ⟨o, ho⟩ : ∃ o : ByteArray, ze.extract 0 A ++ bstr [UInt8.ofNat c] ++ ze.extract (A + 1) M = o := ⟨_, rfl⟩
  have hos : o.size = M := by rw [← ho, ByteArray.size_append, ByteArray.size_append, ByteArray.size_extract, ByteArray.size_extract, bstr_size]; simp; omega
  have K2 := Lib.hid (fun w => seal_any o (by omega) w)
  have ha1 : ∀ W : World, (Op.stringOp .add (ze.extract 0 A) (bstr [UInt8.ofNat c])).run Try.prog W = .ok (.string (ze.extract 0 A ++ bstr [UInt8.ofNat c])) W := fun W => run_string_add W _ _ (by rw [ByteArray.size_extract]; omega) (by rw [bstr_size]; simp)
  have ha2 : ∀ W : World, (Op.stringOp .add (ze.extract 0 A ++ bstr [UInt8.ofNat c]) (ze.extract (A + 1) M)).run Try.prog W = .ok (.string o) W := fun W => by rw [← ho]; exact run_string_add W _ _ (by rw [ByteArray.size_append, ByteArray.size_extract, bstr_size]; simp; omega) (by rw [ByteArray.size_extract]; omega)
  have FS := Lib.hid (four_strings (a := s.extract 0 p) (b := sealB (s.extract 0 p) 0) (c := ze) (d := sealB o 0) (n := 2000) (by omega) (by rw [sealB_size]; omega) (by omega) (by rw [sealB_size]; omega))
  generalize (Value.agg #[.int .u16 (a : Int), .int .u16 (b : Int), .int .u16 (l : Int), .int .u8 (g : Int), .int .u8 (k : Int), .int .u16 (q : Int), .string x]) = dv
  go_cut [65, 66] from 21 to 66 (fun s65 s66 wx => s65 = .agg #[.string (s.extract 0 p), .string (sealB (s.extract 0 p) 0), .string ze, .string (sealB o 0)] ∧ s66 = .int .i64 0 ∧ Hid (Bl wn wx))
  case first =>
    have hf1 : (A : Int) ≤ (M : Int) + 4 := by omega
    have hf2 : (M : Int) ≤ (M : Int) + 4 := by omega
    have hf3 : 0 ≤ (A : Int) + 1 := by omega
    have hf4 : (A : Int) + 1 ≤ (M : Int) := by omega
    have hf5 : IntKind.i64.wrap ((A : Int) + 1) = (A : Int) + 1 := IntWalk.i64_in _ (by omega)
    have hf6 : IntKind.i64.wrap (M : Int) = (M : Int) := IntWalk.i64_in _ (by omega)
    refine wp_region_pool (by kernel_rfl) Bl (poolR (fun i => if i = 16 then some [UInt8.ofNat c] else none) (canV s ze o p A M c)) (slo 37) Bl.trans Bl.refl ?hinj ?hsz (okAfter_spec (by kernel_rfl)) poolR.go ?hstep ?hend
    case hinj => intro i j _ _ h; have h' : 37 + i = 37 + j := h; omega
    case hsz => intro i hi; have h' : i < 30 := hi; show 37 + i < 111; omega
    case hstep =>
      intro i o ho K a' w' hsa hg hrest hdeps hk
      clear hsa
      rcases i with _ | _ | _ | _ | _ | _ | _ | _ | _ | _ | _ | _ | _ | _ | _ | _ | _ | _ | _ | _ | _ | _ | _ | _ | _ | _ | _ | _ | _ | _ | i
      · obtain rfl := Option.some.inj ho
        have y0 : a'.eval (.tmp 0) = .string s := (hrest 0 (fun j _ h => by have h' : 37 + j = 0 := h; omega)).trans rfl
        simp only [Act.eval, Array.getD_eq_getD_getElem?] at y0
        clear hrest hdeps
        refine wpOp_step (o := _) rfl (fun K' hK => ?_)
        go_simp
        exact hK _ _ (hk _ _ (Bl.refl _) rfl)
      · obtain rfl := Option.some.inj ho
        have y0 : a'.eval (.tmp 0) = .string s := (hrest 0 (fun j _ h => by have h' : 37 + j = 0 := h; omega)).trans rfl
        simp only [Act.eval, Array.getD_eq_getD_getElem?] at y0
        clear hrest hdeps
        refine wpOp_step (o := _) rfl (fun K' hK => ?_)
        go_simp
        exact hK _ _ (hk _ _ (Bl.refl _) rfl)
      · obtain rfl := Option.some.inj ho
        have y38 : a'.eval (.tmp 38) = .string s := hdeps ⟨1, .data⟩ (by simp) rfl
        simp only [Act.eval, Array.getD_eq_getD_getElem?] at y38
        clear hrest hdeps
        refine wpOp_step (o := _) rfl (fun K' hK => ?_)
        go_simp
        exact hK _ _ (hk _ _ (Bl.refl _) rfl)
      · obtain rfl := Option.some.inj ho
        have y39 : a'.eval (.tmp 39) = .int .i64 (s.size : Int) := hdeps ⟨2, .data⟩ (by simp) rfl
        simp only [Act.eval, Array.getD_eq_getD_getElem?] at y39
        clear hrest hdeps
        refine wpOp_step (o := _) rfl (fun K' hK => ?_)
        go_simp
        exact hK _ _ (hk _ _ (Bl.refl _) rfl)
      · obtain rfl := Option.some.inj ho
        have y37 : a'.eval (.tmp 37) = .string s := hdeps ⟨0, .data⟩ (by simp) rfl
        have y40 : a'.eval (.tmp 40) = .int .i64 (p : Int) := hdeps ⟨3, .data⟩ (by simp) rfl
        simp only [Act.eval, Array.getD_eq_getD_getElem?] at y37 y40
        clear hrest hdeps
        refine wpOp_step (o := _) rfl (fun K' hK => ?_)
        go_simp
        exact hK _ _ (hk _ _ (Bl.refl _) rfl)
      · obtain rfl := Option.some.inj ho
        have y0 : a'.eval (.tmp 0) = .string s := (hrest 0 (fun j _ h => by have h' : 37 + j = 0 := h; omega)).trans rfl
        simp only [Act.eval, Array.getD_eq_getD_getElem?] at y0
        clear hrest hdeps
        refine wpOp_step (o := _) rfl (fun K' hK => ?_)
        go_simp
        exact hK _ _ (hk _ _ (Bl.refl _) rfl)
      · obtain rfl := Option.some.inj ho
        have y0 : a'.eval (.tmp 0) = .string s := (hrest 0 (fun j _ h => by have h' : 37 + j = 0 := h; omega)).trans rfl
        simp only [Act.eval, Array.getD_eq_getD_getElem?] at y0
        clear hrest hdeps
        refine wpOp_step (o := _) rfl (fun K' hK => ?_)
        go_simp
        exact hK _ _ (hk _ _ (Bl.refl _) rfl)
      · obtain rfl := Option.some.inj ho
        have y43 : a'.eval (.tmp 43) = .string s := hdeps ⟨6, .data⟩ (by simp) rfl
        simp only [Act.eval, Array.getD_eq_getD_getElem?] at y43
        clear hrest hdeps
        refine wpOp_step (o := _) rfl (fun K' hK => ?_)
        go_simp
        exact hK _ _ (hk _ _ (Bl.refl _) rfl)
      · obtain rfl := Option.some.inj ho
        have y44 : a'.eval (.tmp 44) = .int .i64 (s.size : Int) := hdeps ⟨7, .data⟩ (by simp) rfl
        simp only [Act.eval, Array.getD_eq_getD_getElem?] at y44
        clear hrest hdeps
        refine wpOp_step (o := _) rfl (fun K' hK => ?_)
        go_simp
        exact hK _ _ (hk _ _ (Bl.refl _) rfl)
      · obtain rfl := Option.some.inj ho
        have y42 : a'.eval (.tmp 42) = .string s := hdeps ⟨5, .data⟩ (by simp) rfl
        have y45 : a'.eval (.tmp 45) = .int .i64 (p : Int) := hdeps ⟨8, .data⟩ (by simp) rfl
        simp only [Act.eval, Array.getD_eq_getD_getElem?] at y42 y45
        clear hrest hdeps
        refine wpOp_step (o := _) rfl (fun K' hK => ?_)
        go_simp
        exact hK _ _ (hk _ _ (Bl.refl _) rfl)
      · obtain rfl := Option.some.inj ho
        have y46 : a'.eval (.tmp 46) = .string (s.extract 0 p) := hdeps ⟨9, .data⟩ (by simp) rfl
        simp only [Act.eval, Array.getD_eq_getD_getElem?] at y46
        clear hrest hdeps
        refine wpOp_step (o := _) rfl (fun K' hK => ?_)
        go_simp
        go_at_call 24
        (with_reducible refine (K1.out _).mono ?_)
        rintro e w9 ⟨rfl, hgr⟩
        exact hK _ _ (hk _ _ hgr rfl)
      · obtain rfl := Option.some.inj ho
        have y9 : a'.eval (.tmp 9) = .string ze := (hrest 9 (fun j _ h => by have h' : 37 + j = 9 := h; omega)).trans rfl
        simp only [Act.eval, Array.getD_eq_getD_getElem?] at y9
        clear hrest hdeps
        refine wpOp_step (o := _) rfl (fun K' hK => ?_)
        go_simp
        exact hK _ _ (hk _ _ (Bl.refl _) rfl)
      · obtain rfl := Option.some.inj ho
        have y9 : a'.eval (.tmp 9) = .string ze := (hrest 9 (fun j _ h => by have h' : 37 + j = 9 := h; omega)).trans rfl
        simp only [Act.eval, Array.getD_eq_getD_getElem?] at y9
        clear hrest hdeps
        refine wpOp_step (o := _) rfl (fun K' hK => ?_)
        go_simp
        exact hK _ _ (hk _ _ (Bl.refl _) rfl)
      · obtain rfl := Option.some.inj ho
        have y11 : a'.eval (.tmp 11) = .int .i64 (A : Int) := (hrest 11 (fun j _ h => by have h' : 37 + j = 11 := h; omega)).trans rfl
        simp only [Act.eval, Array.getD_eq_getD_getElem?] at y11
        clear hrest hdeps
        refine wpOp_step (o := _) rfl (fun K' hK => ?_)
        go_simp
        exact hK _ _ (hk _ _ (Bl.refl _) rfl)
      · obtain rfl := Option.some.inj ho
        have y49 : a'.eval (.tmp 49) = .string ze := hdeps ⟨12, .data⟩ (by simp) rfl
        have y50 : a'.eval (.tmp 50) = .int .i64 (A : Int) := hdeps ⟨13, .data⟩ (by simp) rfl
        simp only [Act.eval, Array.getD_eq_getD_getElem?] at y49 y50
        clear hrest hdeps
        refine wpOp_step (o := _) rfl (fun K' hK => ?_)
        go_simp
        exact hK _ _ (hk _ _ (Bl.refl _) rfl)
      · obtain rfl := Option.some.inj ho
        have y3 : a'.eval (.tmp 3) = .int .u8 (c : Int) := (hrest 3 (fun j _ h => by have h' : 37 + j = 3 := h; omega)).trans rfl
        simp only [Act.eval, Array.getD_eq_getD_getElem?] at y3
        clear hrest hdeps
        refine wpOp_step (o := _) rfl (fun K' hK => ?_)
        go_simp
        exact hK _ _ (hk _ _ (Bl.refl _) rfl)
      · obtain rfl := Option.some.inj ho
        have y52 : a'.eval (.tmp 52) = .int .u8 (c : Int) := hdeps ⟨15, .data⟩ (by simp) rfl
        simp only [Act.eval, Array.getD_eq_getD_getElem?] at y52
        clear hrest hdeps
        refine wpOp_step (o := _) rfl (fun K' hK => ?_)
        go_simp
        exact hK _ _ (hk _ _ ((Bl.refl _).alloc _) ⟨w'.heap.size, rfl, one_in w' c hc _⟩)
      · obtain rfl := Option.some.inj ho
        obtain ⟨b53, y53, hB53⟩ : ∃ b, a'.eval (.tmp 53) = .slice (some ⟨b, 0, none⟩) 1 1 ∧ Bs w' b [UInt8.ofNat c] := hdeps ⟨16, .data⟩ (by simp) rfl
        simp only [Act.eval, Array.getD_eq_getD_getElem?] at y53
        clear hrest hdeps
        have hcv : (convert 28 9 (.slice (some ⟨b53, 0, none⟩) 1 1)).run Try.prog w' = .ok (.string (bstr [UInt8.ofNat c])) w' := back w' b53 1 [UInt8.ofNat c] hB53
        refine wpOp_step (o := _) rfl (fun K' hK => ?_)
        go_simp
        exact hK _ _ (hk _ _ (Bl.refl _) rfl)
      · obtain rfl := Option.some.inj ho
        have y51 : a'.eval (.tmp 51) = .string (ze.extract 0 A) := hdeps ⟨14, .data⟩ (by simp) rfl
        have y54 : a'.eval (.tmp 54) = .string (bstr [UInt8.ofNat c]) := hdeps ⟨17, .data⟩ (by simp) rfl
        simp only [Act.eval, Array.getD_eq_getD_getElem?] at y51 y54
        clear hrest hdeps
        refine wpOp_step (o := _) rfl (fun K' hK => ?_)
        go_simp
        exact hK _ _ (hk _ _ (Bl.refl _) rfl)
      · obtain rfl := Option.some.inj ho
        have y9 : a'.eval (.tmp 9) = .string ze := (hrest 9 (fun j _ h => by have h' : 37 + j = 9 := h; omega)).trans rfl
        simp only [Act.eval, Array.getD_eq_getD_getElem?] at y9
        clear hrest hdeps
        refine wpOp_step (o := _) rfl (fun K' hK => ?_)
        go_simp
        exact hK _ _ (hk _ _ (Bl.refl _) rfl)
      · obtain rfl := Option.some.inj ho
        have y11 : a'.eval (.tmp 11) = .int .i64 (A : Int) := (hrest 11 (fun j _ h => by have h' : 37 + j = 11 := h; omega)).trans rfl
        simp only [Act.eval, Array.getD_eq_getD_getElem?] at y11
        clear hrest hdeps
        refine wpOp_step (o := _) rfl (fun K' hK => ?_)
        go_simp
        exact hK _ _ (hk _ _ (Bl.refl _) rfl)
      · obtain rfl := Option.some.inj ho
        have y57 : a'.eval (.tmp 57) = .int .i64 (A : Int) := hdeps ⟨20, .data⟩ (by simp) rfl
        simp only [Act.eval, Array.getD_eq_getD_getElem?] at y57
        clear hrest hdeps
        refine wpOp_step (o := _) rfl (fun K' hK => ?_)
        go_simp
        exact hK _ _ (hk _ _ (Bl.refl _) rfl)
      · obtain rfl := Option.some.inj ho
        have y9 : a'.eval (.tmp 9) = .string ze := (hrest 9 (fun j _ h => by have h' : 37 + j = 9 := h; omega)).trans rfl
        simp only [Act.eval, Array.getD_eq_getD_getElem?] at y9
        clear hrest hdeps
        refine wpOp_step (o := _) rfl (fun K' hK => ?_)
        go_simp
        exact hK _ _ (hk _ _ (Bl.refl _) rfl)
      · obtain rfl := Option.some.inj ho
        have y59 : a'.eval (.tmp 59) = .string ze := hdeps ⟨22, .data⟩ (by simp) rfl
        simp only [Act.eval, Array.getD_eq_getD_getElem?] at y59
        clear hrest hdeps
        refine wpOp_step (o := _) rfl (fun K' hK => ?_)
        go_simp
        exact hK _ _ (hk _ _ (Bl.refl _) rfl)
      · obtain rfl := Option.some.inj ho
        have y60 : a'.eval (.tmp 60) = .int .i64 ((M : Int) + 4) := hdeps ⟨23, .data⟩ (by simp) rfl
        simp only [Act.eval, Array.getD_eq_getD_getElem?] at y60
        clear hrest hdeps
        refine wpOp_step (o := _) rfl (fun K' hK => ?_)
        go_simp
        exact hK _ _ (hk _ _ (Bl.refl _) rfl)
      · obtain rfl := Option.some.inj ho
        have y56 : a'.eval (.tmp 56) = .string ze := hdeps ⟨19, .data⟩ (by simp) rfl
        have y58 : a'.eval (.tmp 58) = .int .i64 ((A : Int) + 1) := hdeps ⟨21, .data⟩ (by simp) rfl
        have y61 : a'.eval (.tmp 61) = .int .i64 (M : Int) := hdeps ⟨24, .data⟩ (by simp) rfl
        simp only [Act.eval, Array.getD_eq_getD_getElem?] at y56 y58 y61
        clear hrest hdeps
        refine wpOp_step (o := _) rfl (fun K' hK => ?_)
        go_simp
        exact hK _ _ (hk _ _ (Bl.refl _) rfl)
      · obtain rfl := Option.some.inj ho
        have y55 : a'.eval (.tmp 55) = .string (ze.extract 0 A ++ bstr [UInt8.ofNat c]) := hdeps ⟨18, .data⟩ (by simp) rfl
        have y62 : a'.eval (.tmp 62) = .string (ze.extract (A + 1) M) := hdeps ⟨25, .data⟩ (by simp) rfl
        simp only [Act.eval, Array.getD_eq_getD_getElem?] at y55 y62
        clear hrest hdeps
        refine wpOp_step (o := _) rfl (fun K' hK => ?_)
        go_simp
        exact hK _ _ (hk _ _ (Bl.refl _) rfl)
      · obtain rfl := Option.some.inj ho
        have y63 : a'.eval (.tmp 63) = .string o := hdeps ⟨26, .data⟩ (by simp) rfl
        simp only [Act.eval, Array.getD_eq_getD_getElem?] at y63
        clear hrest hdeps
        refine wpOp_step (o := _) rfl (fun K' hK => ?_)
        go_simp
        go_at_call 24
        (with_reducible refine (K2.out _).mono ?_)
        rintro e w9 ⟨rfl, hgr⟩
        exact hK _ _ (hk _ _ hgr rfl)
      · obtain rfl := Option.some.inj ho
        have y41 : a'.eval (.tmp 41) = .string (s.extract 0 p) := hdeps ⟨4, .data⟩ (by simp) rfl
        have y47 : a'.eval (.tmp 47) = .string (sealB (s.extract 0 p) 0) := hdeps ⟨10, .data⟩ (by simp) rfl
        have y48 : a'.eval (.tmp 48) = .string ze := hdeps ⟨11, .data⟩ (by simp) rfl
        have y64 : a'.eval (.tmp 64) = .string (sealB o 0) := hdeps ⟨27, .data⟩ (by simp) rfl
        simp only [Act.eval, Array.getD_eq_getD_getElem?] at y41 y47 y48 y64
        clear hrest hdeps
        refine wpOp_step (o := _) rfl (fun K' hK => ?_)
        go_simp
        exact hK _ _ (hk _ _ (Bl.refl _) rfl)
      · obtain rfl := Option.some.inj ho
        clear hrest hdeps
        refine wpOp_step (o := _) rfl (fun K' hK => ?_)
        go_simp
        exact hK _ _ (hk _ _ (Bl.refl _) rfl)
      · have h1 := ho; simp at h1
    case hend =>
      intro a' w' hd hs hg hrest hdone
      obtain ⟨f, hf⟩ : ∃ f : Nat → Value, ∀ i, f i = a'.eval (.tmp (slo 37 i)) := ⟨_, fun _ => rfl⟩
      have e65 : f 28 = .agg #[.string (s.extract 0 p), .string (sealB (s.extract 0 p) 0), .string ze, .string (sealB o 0)] := by rw [hf]; exact hdone 28 (by simp)
      have e66 : f 29 = .int .i64 0 := by rw [hf]; exact hdone 29 (by simp)
      have ha := act_puts (n := 30) (ds := slo 37) hd hs (fun i hi => by show 37 + i < 111; omega) (fun t ht => hrest t ht)
      simp only [← hf] at ha
      clear hd hs hrest hdone hf
      subst ha
      simp only [show List.range 30 = [0, 1, 2, 3, 4, 5, 6, 7, 8, 9, 10, 11, 12, 13, 14, 15, 16, 17, 18, 19, 20, 21, 22, 23, 24, 25, 26, 27, 28, 29] from rfl, List.foldl_cons, List.foldl_nil, Act.put, List.setIfInBounds_toArray, slo, Nat.reduceAdd, List.set_cons_zero, List.set_cons_succ, e65, e66]
      go_wp2_with fail
      go_meet
      exact ⟨rfl, rfl, Lib.hid (Bl.trans (Bl.drew (Bl.refl _)) hg)⟩
  obtain ⟨rfl, rfl, hbl⟩ := hcut
  replace G := Lib.hid (Bl.trans G.out hbl.out)
  clear hbl K1 K2 ha1 ha2
  clear ho hos
  generalize s.extract 0 p = u1 at *
  generalize sealB u1 0 = y1 at *
  generalize sealB o 0 = y2 at *
  clear hsz hps hp4 hp1 hp2 hp3 hs hz2 hw4 hz4 hd0 hMI hAI hA hA1 hM hM1 hM2 hn hc
  rename World => wz
  go_wp2_with fail
  go_loopw [66] (fun i wr => ∃ j : Nat, j ≤ 4 ∧ i = .int .i64 (j : Int) ∧ Hid (Bl w wr)) (fun i _ => 4 - (intOf i).toNat)
  case atStart => exact ⟨0, by omega, rfl, G⟩
  case round =>
    clear G
    obtain ⟨j, hj, rfl, G⟩ := hrel
    by_cases hlt : j < 4
    · obtain ⟨z, hz, hrun⟩ := FS.out j hlt
      clear FS
      cases hd : dec z with
      | none =>
        have K1 := Lib.hid (fun w => deR_no hd ▸ fdecode_any z (by omega) w)
        have K2 := Lib.hid (fun w => malformed_t z (by omega) hd w)
        clear hd
        go_wp2_with fail
        refine (K1.out _).mono ?_; rintro e wn ⟨rfl, gr⟩
        replace G := Lib.hid (Bl.trans G.out gr); clear gr
        go_wp2_with fail
        refine (K2.out _).mono ?_; rintro e wm ⟨rfl, gr⟩
        replace G := Lib.hid (Bl.trans (Bl.alloc G.out _) gr); clear gr
        go_wp2_with fail
        go_roundw
        case rel => exact ⟨j + 1, by omega, by go_num, G⟩
        case measure => simp [intOf]; omega
      | some f =>
        have D := dec_iff.1 hd
        have K1 := Lib.hid (fun w => deR_ok hd ▸ fdecode_any z (by omega) w)
        have K2 := Lib.hid (fun w => (enR_s (ok_iff.2 D.1)) ▸ encode_any f w)
        rw [D.2.2] at K2
        have hds := D.1.size
        have hL := Lib.hid (lng_ne hd)
        have K3 := Lib.hid (fun w => encode_any (lng f) w)
        clear D hd
        by_cases hg : okB (lng f) = true
        · have hne := hL.out hg
          rw [← enR_ok hg] at K3
          generalize enc (lng f) = y at *
          have hbq := beq_bytes y z
          rw [decide_eq_false hne] at hbq
          clear hne hL hg
          obtain ⟨d, s, t, p, v, r, m, h, x'⟩ := f
          unfold lng at K3
          unfold Fr.v at *
          dsimp only at *
          have hadd : ∀ W : World, (Op.stringOp .add x' ⟨#[0]⟩).run Try.prog W = .ok (.string (x' ++ ⟨#[0]⟩)) W := fun W => run_string_add W _ _ (by omega) (by decide)
          generalize x' ++ (⟨#[0]⟩ : ByteArray) = zz at *
          have hsz := G.out.size
          go_wp2_with fail
          refine (K1.out _).mono ?_; rintro e wn ⟨rfl, gr⟩
          have hs2 := gr.size
          replace G := Lib.hid (Bl.trans G.out gr)
          clear gr
          go_upto_region 11 with fail
          have F := Lib.hid (Fb.new wn 23 { dst := d, src := s, tag := t, prio := p, vid := v, red := r, seq := m, typ := h, data := x' })
          replace G := Lib.hid (Bl.alloc G.out (.cells #[.int .i64 d, .int .i64 s, .bool t, .int .i64 p, .int .i64 v, .bool r, .int .i64 m, .int .i64 h, .string x'] 23))
          dsimp only at F
          have hbw : w.heap.size ≤ wn.heap.size := Nat.le_trans hsz hs2
          clear hs2 hsz
          generalize wn.heap.size = c3 at *
          generalize wn.alloc (.cells #[.int .i64 d, .int .i64 s, .bool t, .int .i64 p, .int .i64 v, .bool r, .int .i64 m, .int .i64 h, .string x'] 23) = wn at *
          obtain ⟨q0, q1, q2, q3, q4, q5, q6, q7, q8⟩ := F.out.cells
          go_wp2_with fail
          refine (K2.out _).mono ?_; rintro e wn ⟨rfl, gr⟩
          replace F := Lib.hid (F.out.bl gr)
          replace G := Lib.hid (Bl.trans G.out gr)
          clear gr
          clear q0 q1 q2 q3 q4 q5 q6 q7 q8
          obtain ⟨q0, q1, q2, q3, q4, q5, q6, q7, q8⟩ := F.out.cells
          go_upto_region 16 with fail
          clear q0 q1 q2 q3 q4 q5 q6 q7 q8
          have hFW := Fb.new wn 23 { dst := d, src := s, tag := t, prio := p, vid := v, red := r, seq := m, typ := h, data := x' }
          have hne2 : c3 ≠ wn.heap.size := by have := F.out.1; omega
          have hle : w.heap.size ≤ wn.heap.size := by have := F.out.1; omega
          replace F := Lib.hid (F.out.alloc (.cells #[.int .i64 d, .int .i64 s, .bool t, .int .i64 p, .int .i64 v, .bool r, .int .i64 m, .int .i64 h, .string x'] 23))
          replace G := Lib.hid (Bl.alloc G.out (.cells #[.int .i64 d, .int .i64 s, .bool t, .int .i64 p, .int .i64 v, .bool r, .int .i64 m, .int .i64 h, .string x'] 23))
          have FW := Lib.hid hFW
          clear hFW
          dsimp only at FW
          generalize wn.heap.size = c8 at *
          generalize wn.alloc (.cells #[.int .i64 d, .int .i64 s, .bool t, .int .i64 p, .int .i64 v, .bool r, .int .i64 m, .int .i64 h, .string x'] 23) = wn at *
          obtain ⟨q0, q1, q2, q3, q4, q5, q6, q7, q8⟩ := F.out.cells
          obtain ⟨e0, e1, e2, e3, e4, e5, e6, e7, e8⟩ := FW.out.cells
          obtain ⟨ef0, ef1, ef2, ef3, ef4, ef5, ef6, ef7, ef8⟩ := FW.out.frozen
          go_upto_region 17 with fail
          clear q0 q1 q2 q3 q4 q5 q6 q7 q8
          clear e0 e1 e2 e3 e4 e5 e6 e7 e8
          clear ef0 ef1 ef2 ef3 ef4 ef5 ef6 ef7 ef8
          have FX := Lib.hid (FW.out.put (g := { dst := d, src := s, tag := t, prio := p, vid := v, red := r, seq := m, typ := h, data := zz }) (i := 8) (by decide) (.string zz) (nine_cases rfl rfl rfl rfl rfl rfl rfl rfl rfl))
          replace G := Lib.hid (G.out.setCell (p := ⟨c8, 8, none⟩) hle (.string zz))
          clear F FW
          generalize wn.setCell ⟨c8, 8, none⟩ (.string zz) = wn at *
          obtain ⟨q0, q1, q2, q3, q4, q5, q6, q7, q8⟩ := FX.out.cells
          go_wp2_with fail
          refine (K3.out _).mono ?_; rintro e wn ⟨rfl, gr⟩
          replace G := Lib.hid (Bl.trans G.out gr)
          clear gr
          clear q0 q1 q2 q3 q4 q5 q6 q7 q8
          clear FX
          go_wp2_with fail
          go_roundw
          case rel => exact ⟨j + 1, by omega, by go_num, G⟩
          case measure => simp [intOf]; omega
        · rw [← enR_no (by simpa using hg)] at K3
          clear hL hg
          obtain ⟨d, s, t, p, v, r, m, h, x'⟩ := f
          unfold lng at K3
          unfold Fr.v at *
          dsimp only at *
          have hadd : ∀ W : World, (Op.stringOp .add x' ⟨#[0]⟩).run Try.prog W = .ok (.string (x' ++ ⟨#[0]⟩)) W := fun W => run_string_add W _ _ (by omega) (by decide)
          generalize x' ++ (⟨#[0]⟩ : ByteArray) = zz at *
          have hsz := G.out.size
          go_wp2_with fail
          refine (K1.out _).mono ?_; rintro e wn ⟨rfl, gr⟩
          have hs2 := gr.size
          replace G := Lib.hid (Bl.trans G.out gr)
          clear gr
          go_upto_region 11 with fail
          have F := Lib.hid (Fb.new wn 23 { dst := d, src := s, tag := t, prio := p, vid := v, red := r, seq := m, typ := h, data := x' })
          replace G := Lib.hid (Bl.alloc G.out (.cells #[.int .i64 d, .int .i64 s, .bool t, .int .i64 p, .int .i64 v, .bool r, .int .i64 m, .int .i64 h, .string x'] 23))
          dsimp only at F
          have hbw : w.heap.size ≤ wn.heap.size := Nat.le_trans hsz hs2
          clear hs2 hsz
          generalize wn.heap.size = c3 at *
          generalize wn.alloc (.cells #[.int .i64 d, .int .i64 s, .bool t, .int .i64 p, .int .i64 v, .bool r, .int .i64 m, .int .i64 h, .string x'] 23) = wn at *
          obtain ⟨q0, q1, q2, q3, q4, q5, q6, q7, q8⟩ := F.out.cells
          go_wp2_with fail
          refine (K2.out _).mono ?_; rintro e wn ⟨rfl, gr⟩
          replace F := Lib.hid (F.out.bl gr)
          replace G := Lib.hid (Bl.trans G.out gr)
          clear gr
          clear q0 q1 q2 q3 q4 q5 q6 q7 q8
          obtain ⟨q0, q1, q2, q3, q4, q5, q6, q7, q8⟩ := F.out.cells
          go_upto_region 16 with fail
          clear q0 q1 q2 q3 q4 q5 q6 q7 q8
          have hFW := Fb.new wn 23 { dst := d, src := s, tag := t, prio := p, vid := v, red := r, seq := m, typ := h, data := x' }
          have hne2 : c3 ≠ wn.heap.size := by have := F.out.1; omega
          have hle : w.heap.size ≤ wn.heap.size := by have := F.out.1; omega
          replace F := Lib.hid (F.out.alloc (.cells #[.int .i64 d, .int .i64 s, .bool t, .int .i64 p, .int .i64 v, .bool r, .int .i64 m, .int .i64 h, .string x'] 23))
          replace G := Lib.hid (Bl.alloc G.out (.cells #[.int .i64 d, .int .i64 s, .bool t, .int .i64 p, .int .i64 v, .bool r, .int .i64 m, .int .i64 h, .string x'] 23))
          have FW := Lib.hid hFW
          clear hFW
          dsimp only at FW
          generalize wn.heap.size = c8 at *
          generalize wn.alloc (.cells #[.int .i64 d, .int .i64 s, .bool t, .int .i64 p, .int .i64 v, .bool r, .int .i64 m, .int .i64 h, .string x'] 23) = wn at *
          obtain ⟨q0, q1, q2, q3, q4, q5, q6, q7, q8⟩ := F.out.cells
          obtain ⟨e0, e1, e2, e3, e4, e5, e6, e7, e8⟩ := FW.out.cells
          obtain ⟨ef0, ef1, ef2, ef3, ef4, ef5, ef6, ef7, ef8⟩ := FW.out.frozen
          go_upto_region 17 with fail
          clear q0 q1 q2 q3 q4 q5 q6 q7 q8
          clear e0 e1 e2 e3 e4 e5 e6 e7 e8
          clear ef0 ef1 ef2 ef3 ef4 ef5 ef6 ef7 ef8
          have FX := Lib.hid (FW.out.put (g := { dst := d, src := s, tag := t, prio := p, vid := v, red := r, seq := m, typ := h, data := zz }) (i := 8) (by decide) (.string zz) (nine_cases rfl rfl rfl rfl rfl rfl rfl rfl rfl))
          replace G := Lib.hid (G.out.setCell (p := ⟨c8, 8, none⟩) hle (.string zz))
          clear F FW
          generalize wn.setCell ⟨c8, 8, none⟩ (.string zz) = wn at *
          obtain ⟨q0, q1, q2, q3, q4, q5, q6, q7, q8⟩ := FX.out.cells
          go_wp2_with fail
          refine (K3.out _).mono ?_; rintro e wn ⟨rfl, gr⟩
          replace G := Lib.hid (Bl.trans G.out gr)
          clear gr
          clear q0 q1 q2 q3 q4 q5 q6 q7 q8
          clear FX
          go_wp2_with fail
          go_roundw
          case rel => exact ⟨j + 1, by omega, by go_num, G⟩
          case measure => simp [intOf]; omega
    · go_wp2_with fail
      go_ret
      exact ⟨rfl, G.out⟩
end Go.Proofs.Ytmhdgpmlconngaa
