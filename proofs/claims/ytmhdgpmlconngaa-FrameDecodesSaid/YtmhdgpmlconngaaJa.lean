/-
  FrameDecodes: Decode returns what the chapter specifies.
-/
import Derived.Test.YtmhdgpmlconngaaGb
import Derived.Test.YtmhdgpmlconngaaPq
import Derived.Test.YtmhdgpmlconngaaIb
import Derived.Test.YtmhdgpmlconngaaKi
import Derived.Test.YtmhdgpmlconngaaKn
import Derived.Deep.RegionHeld3
namespace Go.Proofs.Ytmhdgpmlconngaa
open Go.RowKit Go.Proofs.Ytmhdgpmlconngaa.Cr

theorem deR_form (z : ByteArray) : ∃ (f : Fr) (c : Int), deR z = .returned (.tuple #[f.v, .int .i64 c]) := by
  cases h : dec z with
  | none => exact ⟨zoF, 5, deR_no h⟩
  | some f => exact ⟨f, 0, deR_ok h⟩
theorem nine_strings {a b c d e f g h i : ByteArray} {n : Nat} (ha : a.size ≤ n) (hb : b.size ≤ n) (hc : c.size ≤ n) (hd : d.size ≤ n) (he : e.size ≤ n) (hf : f.size ≤ n) (hg : g.size ≤ n) (hh : h.size ≤ n) (hi : i.size ≤ n) (k : Nat) (hk : k < 9) :
    ∃ z : ByteArray, z.size ≤ n ∧ ∀ w, (Instr.index 41 (.agg #[.string a, .string b, .string c, .string d, .string e, .string f, .string g, .string h, .string i]) (.int .i64 k)).run Try.prog w = .ok (.string z) w := by
  match k, hk with
  | 0, _ => exact ⟨a, ha, fun _ => by kernel_rfl⟩
  | 1, _ => exact ⟨b, hb, fun _ => by kernel_rfl⟩
  | 2, _ => exact ⟨c, hc, fun _ => by kernel_rfl⟩
  | 3, _ => exact ⟨d, hd, fun _ => by kernel_rfl⟩
  | 4, _ => exact ⟨e, he, fun _ => by kernel_rfl⟩
  | 5, _ => exact ⟨f, hf, fun _ => by kernel_rfl⟩
  | 6, _ => exact ⟨g, hg, fun _ => by kernel_rfl⟩
  | 7, _ => exact ⟨h, hh, fun _ => by kernel_rfl⟩
  | 8, _ => exact ⟨i, hi, fun _ => by kernel_rfl⟩
theorem mod_pos2 (a n : Nat) (hn : 0 < n) : ∃ A : Nat, (a : Int).tmod (n : Int) = (A : Int) ∧ A < n :=
  ⟨a % n, by rw [Int.tmod_eq_emod_of_nonneg (by omega), Int.natCast_emod], Nat.mod_lt _ hn⟩
/-- string([]byte{c}). -/
theorem one_str (w w' : World) (c : Nat) (hc : c < 256) (t : TypeId) (g : Bl (w.alloc (.cells #[.int .u8 (c : Int)] t)) w') : (convert 28 9 (.slice (some ⟨w.heap.size, 0, none⟩) 1 1)).run Try.prog w' = .ok (.string (bstr [UInt8.ofNat c])) w' :=
  back w' w.heap.size 1 [UInt8.ofNat c] ((one_in w c hc t).keep g)
def fdeV (u1 ze o1 o2 o3 bd : ByteArray) (A M : Nat) : Nat → Value
  | 0 => .string u1
  | 1 => .string u1
  | 2 => .string (sealB u1 0)
  | 3 => .string ze
  | 4 => .string o1
  | 5 => .string (sealB o1 0)
  | 6 => .string o2
  | 7 => .string (sealB o2 0)
  | 8 => .string o3
  | 9 => .string (sealB o3 0)
  | 10 => .string bd
  | 11 => .int .i64 (A : Int)
  | 12 => .string (bd.extract 0 A)
  | 13 => .string (sealB (bd.extract 0 A) 0)
  | 14 => .string ze
  | 15 => .int .i64 (A : Int)
  | 16 => .string (ze.extract 0 A)
  | 17 => .string bd
  | 18 => .string (bd.extract 0 12)
  | 19 => .string (bd.extract 0 12 ++ ⟨#[129, 0, 15, 255]⟩)
  | 20 => .string bd
  | 21 => .string (bd.extract 12 M)
  | 22 => .string (bd.extract 0 12 ++ ⟨#[129, 0, 15, 255]⟩ ++ bd.extract 12 M)
  | 23 => .string ze
  | 24 => .string bd
  | 25 => .int .i64 (M : Int)
  | 26 => .string (ze.extract M (M + 4))
  | 27 => .string (bd.extract 0 12 ++ ⟨#[129, 0, 15, 255]⟩ ++ bd.extract 12 M ++ ze.extract M (M + 4))
  | 28 => .agg #[.string u1, .string (sealB u1 0), .string ze, .string (sealB o1 0), .string (sealB o2 0), .string (sealB o3 0), .string (sealB (bd.extract 0 A) 0), .string (ze.extract 0 A), .string (bd.extract 0 12 ++ ⟨#[129, 0, 15, 255]⟩ ++ bd.extract 12 M ++ ze.extract M (M + 4))]
  | 29 => .int .i64 0
  | _ => undef
set_option maxRecDepth 20000 in
set_option maxHeartbeats 4000000 in
theorem decodes_law (s : ByteArray) (a b l g k q : Nat) (x : ByteArray) (n c m : Nat) (hs : s.size ≤ maxLen) (ha : a < 65536) (hb : b < 65536) (hl : l < 65536) (hg : g < 256) (hk : k < 256) (hq : q < 65536) (hx : x.size ≤ maxLen) (hn : n < 65536) (hc : c < 256) (hm : m < 256) (w : World) :
    Calls Try.prog 4 #[.string s, dfV a b l g k q x, .int .u16 (n : Int), .int .u8 (c : Int), .int .u8 (m : Int)] w fun e w' => e = .returned (.bool true) ∧ Bl w w' := by
  have KW := Lib.hid (fun w => works_any w)
  have KF := Lib.hid (fun w => draft_any a b l g k q x ha hb hl hg hk hq hx w)
  have HB := Lib.hid (fun (w w' : World) (g2 : Bl (w.alloc (.cells #[.int .u16 (a : Int), .int .u16 (b : Int), .int .u16 (l : Int), .int .u8 (g : Int), .int .u8 (k : Int), .int .u16 (q : Int), .string x] 26)) w') => box_keep w w' a b l g k q x 26 g2)
  clear hx
  unfold dfV at *
  unfold maxLen at hs
  obtain ⟨p, hp1, hp2, hp3⟩ : ∃ p : Nat, (if (200 : Int) < s.size then 200 else (s.size : Int)) = (p : Int) ∧ p ≤ s.size ∧ p ≤ 200 := ⟨min s.size 200, by split <;> omega, by omega, by omega⟩
  have hp4 : min (s.size : Int) 200 = (p : Int) := by omega
  have hps : (p : Int) ≤ (s.size : Int) := by omega
  have hsz : (s.extract 0 p).size = p := by rw [ByteArray.size_extract]; omega
  go_enter Try.func4, Try.ntmps4
  go_upto_region 2 with fail
  obtain ⟨hG, x0, x1, x2, x3, x4, x5, x6⟩ := HB.out _ _ (Bl.refl _)
  have G := Lib.hid hG
  generalize w.alloc (.cells #[.int .u16 (a : Int), .int .u16 (b : Int), .int .u16 (l : Int), .int .u8 (g : Int), .int .u8 (k : Int), .int .u16 (q : Int), .string x] 26) = wb at *
  clear hG HB
  go_wp2_with fail
  refine (KF.out _).mono ?_; rintro e wn ⟨⟨f, hf, rfl⟩, hgr⟩
  replace G := Lib.hid (Bl.trans G.out hgr)
  clear hgr x0 x1 x2 x3 x4 x5 x6 KF ha hb hl hg hk hq
  have hbo := hf.bod_le
  have hb2 := bod_size f
  have hes := enc_size f
  have hok := ok_iff.2 hf
  obtain ⟨M, hM, hM1, hM2⟩ : ∃ M : Nat, (enc f).size = M + 4 ∧ 60 ≤ M ∧ M ≤ 1518 := ⟨(bod f).size, by omega, by omega, by omega⟩
  have KE := Lib.hid (fun w => (enR_s hok) ▸ rencode_any f w)
  clear hbo hb2 hes hok
  go_wp2_with fail
  refine (KE.out _).mono ?_; rintro e wn ⟨rfl, hgr⟩
  replace G := Lib.hid (Bl.trans G.out hgr)
  clear hgr KE hf hp1 hp4
  generalize enc f = ze at *
  generalize f.v = fv at *
  generalize s.extract 0 p = u1 at *
  have hz2 : (ze.size : Int) = (M : Int) + 4 := by omega
  have hz3 : (M : Int) ≤ (ze.size : Int) := by omega
  have hw4 : IntKind.i64.wrap ((ze.size : Int) - 4) = (M : Int) := by rw [IntWalk.i64_in _ (by omega)]; omega
  have hw5 : IntKind.i64.wrap (M : Int) = (M : Int) := IntWalk.i64_in _ (by omega)
  have hd0 : ¬ (M : Int) = 0 := by omega
  have hbs : (ze.extract 0 M).size = M := by rw [ByteArray.size_extract]; omega
  obtain ⟨A, hA, hA1⟩ := mod_pos2 n M (by omega)
  have hMI : (M : Int) ≤ 1518 := by omega
  have hAI : (A : Int) < (M : Int) := by omega
  go_upto_region 4 with fail
  generalize ze.extract 0 M = bd at *
  have hbi : (bd.size : Int) = (M : Int) := by omega
  go_upto_region 5 with fail
  generalize (Value.agg #[.int .u16 (a : Int), .int .u16 (b : Int), .int .u16 (l : Int), .int .u8 (g : Int), .int .u8 (k : Int), .int .u16 (q : Int), .string x]) = dv
  go_cut [15] from 24 to 56 (fun s15 wx => ∃ o : ByteArray, s15 = .string o ∧ Hid (o.size = M) ∧ Hid (Bl wn wx))
  case first =>
    have hf1 : (A : Int) ≤ (M : Int) := by omega
    have hf3 : 0 ≤ (A : Int) + 1 := by omega
    have hf4 : (A : Int) + 1 ≤ (M : Int) := by omega
    have hf5 : IntKind.i64.wrap ((A : Int) + 1) = (A : Int) + 1 := IntWalk.i64_in _ (by omega)
    have ha1 : ∀ W : World, (Op.stringOp .add (bd.extract 0 A) (bstr [UInt8.ofNat c])).run Try.prog W = .ok (.string (bd.extract 0 A ++ bstr [UInt8.ofNat c])) W := fun W => run_string_add W _ _ (by rw [ByteArray.size_extract]; omega) (by rw [bstr_size]; simp)
    have ha2 : ∀ W : World, (Op.stringOp .add (bd.extract 0 A ++ bstr [UInt8.ofNat c]) (bd.extract (A + 1) M)).run Try.prog W = .ok (.string (bd.extract 0 A ++ bstr [UInt8.ofNat c] ++ bd.extract (A + 1) M)) W := fun W => run_string_add W _ _ (by rw [ByteArray.size_append, ByteArray.size_extract, bstr_size]; simp; omega) (by rw [ByteArray.size_extract]; omega)
    have ho : Hid ((bd.extract 0 A ++ bstr [UInt8.ofNat c] ++ bd.extract (A + 1) M).size = M) := Lib.hid (by rw [ByteArray.size_append, ByteArray.size_append, ByteArray.size_extract, ByteArray.size_extract, bstr_size]; simp; omega)
    have hE1 : (convert 28 9 (.slice (some ⟨wn.heap.size, 0, none⟩) 1 1)).run Try.prog (wn.drew.alloc (.cells #[.int .u8 (c : Int)] 5)) = .ok (.string (bstr [UInt8.ofNat c])) (wn.drew.alloc (.cells #[.int .u8 (c : Int)] 5)) := one_str wn.drew _ c hc 5 (Bl.refl _)
    have hE2 : (convert 28 9 (.slice (some ⟨wn.heap.size, 0, none⟩) 1 1)).run Try.prog (wn.alloc (.cells #[.int .u8 (c : Int)] 5)).drew = .ok (.string (bstr [UInt8.ofNat c])) (wn.alloc (.cells #[.int .u8 (c : Int)] 5)).drew := one_str wn _ c hc 5 ((Bl.refl _).drew)
    go_region
    go_wp2_with fail
    go_meet
    exact ⟨_, rfl, ho, Lib.hid ((Bl.refl _).alloc _).drew⟩
  obtain ⟨o1, rfl, ho1, hbl⟩ := hcut
  rename World => wn
  replace G := Lib.hid (Bl.trans G.out hbl.out)
  clear hbl
  obtain ⟨B, hB, hB1⟩ := mod_pos2 A 14 (by decide)
  go_upto_region 6 with fail
  go_cut [16] from 24 to 71 (fun s16 wx => ∃ o : ByteArray, s16 = .string o ∧ Hid (o.size = M) ∧ Hid (Bl wn wx))
  case first =>
    have hB3 : (A : Int).tmod 14 = (B : Int) := by simpa using hB
    have hB2 : (A : Int) % 14 = (B : Int) := by rw [← hB3, Int.tmod_eq_emod_of_nonneg (by omega)]
    have hBI : (B : Int) < 14 := by omega
    have hf0 : IntKind.i64.wrap (12 + (B : Int)) = 12 + (B : Int) := IntWalk.i64_in _ (by omega)
    have hf1 : 12 + (B : Int) ≤ (M : Int) := by omega
    have hf2 : 0 ≤ 12 + (B : Int) := by omega
    have hf3 : 0 ≤ 13 + (B : Int) := by omega
    have hf4 : 13 + (B : Int) ≤ (M : Int) := by omega
    have hf5 : IntKind.i64.wrap (13 + (B : Int)) = 13 + (B : Int) := IntWalk.i64_in _ (by omega)
    have ha1 : ∀ W : World, (Op.stringOp .add (bd.extract 0 (12 + B)) (bstr [UInt8.ofNat c])).run Try.prog W = .ok (.string (bd.extract 0 (12 + B) ++ bstr [UInt8.ofNat c])) W := fun W => run_string_add W _ _ (by rw [ByteArray.size_extract]; omega) (by rw [bstr_size]; simp)
    have ha2 : ∀ W : World, (Op.stringOp .add (bd.extract 0 (12 + B) ++ bstr [UInt8.ofNat c]) (bd.extract (13 + B) M)).run Try.prog W = .ok (.string (bd.extract 0 (12 + B) ++ bstr [UInt8.ofNat c] ++ bd.extract (13 + B) M)) W := fun W => run_string_add W _ _ (by rw [ByteArray.size_append, ByteArray.size_extract, bstr_size]; simp; omega) (by rw [ByteArray.size_extract]; omega)
    have ho : Hid ((bd.extract 0 (12 + B) ++ bstr [UInt8.ofNat c] ++ bd.extract (13 + B) M).size = M) := Lib.hid (by rw [ByteArray.size_append, ByteArray.size_append, ByteArray.size_extract, ByteArray.size_extract, bstr_size]; simp; omega)
    have hE1 : (convert 28 9 (.slice (some ⟨wn.heap.size, 0, none⟩) 1 1)).run Try.prog (wn.drew.alloc (.cells #[.int .u8 (c : Int)] 5)) = .ok (.string (bstr [UInt8.ofNat c])) (wn.drew.alloc (.cells #[.int .u8 (c : Int)] 5)) := one_str wn.drew _ c hc 5 (Bl.refl _)
    have hE2 : (convert 28 9 (.slice (some ⟨wn.heap.size, 0, none⟩) 1 1)).run Try.prog (wn.alloc (.cells #[.int .u8 (c : Int)] 5)).drew = .ok (.string (bstr [UInt8.ofNat c])) (wn.alloc (.cells #[.int .u8 (c : Int)] 5)).drew := one_str wn _ c hc 5 ((Bl.refl _).drew)
    go_region
    go_wp2_with fail
    go_meet
    exact ⟨_, rfl, ho, Lib.hid ((Bl.refl _).alloc _).drew⟩
  obtain ⟨o2, rfl, ho2, hbl⟩ := hcut
  rename World => wn
  replace G := Lib.hid (Bl.trans G.out hbl.out)
  clear hbl hB hB1
  have hmk := fun W => make_u8 m (by omega) W
  have HZ := Lib.hid (fun w' (g : Bl (wn.alloc (.cells (Array.replicate m (.int .u8 0)) 5)) w') => back w' wn.heap.size m (List.replicate m 0) ((zeros_in wn m 5).keep g))
  have hz1 := HZ.out _ (Bl.refl _)
  rw [List.length_replicate] at hz1
  have hmI : (m : Int) < 256 := by omega
  have ha3 : ∀ W : World, (Op.stringOp .add bd (bstr (List.replicate m 0))).run Try.prog W = .ok (.string (bd ++ bstr (List.replicate m 0))) W := fun W => run_string_add W _ _ (by omega) (by rw [bstr_size, List.length_replicate]; omega)
  have ho3 : Hid ((bd ++ bstr (List.replicate m 0)).size ≤ 1800) := Lib.hid (by rw [ByteArray.size_append, bstr_size, List.length_replicate]; omega)
  go_upto_region 8 with fail
  replace G := Lib.hid (Bl.alloc G.out (.cells (Array.replicate m (.int .u8 0)) 5))
  clear HZ hz1 ha3 hmk
  generalize bd ++ bstr (List.replicate m 0) = o3 at *
  generalize wn.alloc (.cells (Array.replicate m (.int .u8 0)) 5) = wn at *
  have K1 := Lib.hid (fun w => rseal_any u1 (by omega) w)
  have K2 := Lib.hid (fun w => rseal_any o1 (by have := ho1.out; omega) w)
  have K3 := Lib.hid (fun w => rseal_any o2 (by have := ho2.out; omega) w)
  have K4 := Lib.hid (fun w => rseal_any o3 (by have := ho3.out; omega) w)
  have K5 := Lib.hid (fun w => rseal_any (bd.extract 0 A) (by rw [ByteArray.size_extract]; omega) w)
  have hg0 : (bd.extract 0 12).size = 12 := by rw [ByteArray.size_extract]; omega
  have ha1 : ∀ W : World, (Op.stringOp .add (bd.extract 0 12) ⟨#[129, 0, 15, 255]⟩).run Try.prog W = .ok (.string (bd.extract 0 12 ++ ⟨#[129, 0, 15, 255]⟩)) W := fun W => run_string_add W _ _ (by rw [ByteArray.size_extract]; omega) (by decide)
  have hg1 : (bd.extract 0 12 ++ (⟨#[129, 0, 15, 255]⟩ : ByteArray)).size = 16 := by rw [ByteArray.size_append, hg0]; rfl
  have ha2 : ∀ W : World, (Op.stringOp .add (bd.extract 0 12 ++ (⟨#[129, 0, 15, 255]⟩ : ByteArray)) (bd.extract 12 M)).run Try.prog W = .ok (.string (bd.extract 0 12 ++ ⟨#[129, 0, 15, 255]⟩ ++ bd.extract 12 M)) W := fun W => run_string_add W _ _ (by rw [hg1]; decide) (by rw [ByteArray.size_extract]; omega)
  have hg2 : (bd.extract 0 12 ++ (⟨#[129, 0, 15, 255]⟩ : ByteArray) ++ bd.extract 12 M).size = M + 4 := by rw [ByteArray.size_append, hg1, ByteArray.size_extract]; omega
  have ha3 : ∀ W : World, (Op.stringOp .add (bd.extract 0 12 ++ (⟨#[129, 0, 15, 255]⟩ : ByteArray) ++ bd.extract 12 M) (ze.extract M (M + 4))).run Try.prog W = .ok (.string (bd.extract 0 12 ++ ⟨#[129, 0, 15, 255]⟩ ++ bd.extract 12 M ++ ze.extract M (M + 4))) W := fun W => run_string_add W _ _ (by rw [hg2]; omega) (by rw [ByteArray.size_extract]; omega)
  have hg3 : (bd.extract 0 12 ++ (⟨#[129, 0, 15, 255]⟩ : ByteArray) ++ bd.extract 12 M ++ ze.extract M (M + 4)).size = M + 8 := by rw [ByteArray.size_append, hg2, ByteArray.size_extract]; omega
  have FS := Lib.hid (nine_strings (a := u1) (b := sealB u1 0) (c := ze) (d := sealB o1 0) (e := sealB o2 0) (f := sealB o3 0) (g := sealB (bd.extract 0 A) 0) (h := ze.extract 0 A) (i := bd.extract 0 12 ++ ⟨#[129, 0, 15, 255]⟩ ++ bd.extract 12 M ++ ze.extract M (M + 4)) (n := 2000) (by omega) (by rw [sealB_size]; omega) (by omega) (by rw [sealB_size]; have := ho1.out; omega) (by rw [sealB_size]; have := ho2.out; omega) (by rw [sealB_size]; have := ho3.out; omega) (by rw [sealB_size, ByteArray.size_extract]; omega) (by rw [ByteArray.size_extract]; omega) (by omega))
  clear hg0 hg1 hg2 hg3 ho1 ho2 ho3
  go_cut [106, 107] from 24 to 107 (fun s106 s107 wx => s106 = .agg #[.string u1, .string (sealB u1 0), .string ze, .string (sealB o1 0), .string (sealB o2 0), .string (sealB o3 0), .string (sealB (bd.extract 0 A) 0), .string (ze.extract 0 A), .string (bd.extract 0 12 ++ ⟨#[129, 0, 15, 255]⟩ ++ bd.extract 12 M ++ ze.extract M (M + 4))] ∧ s107 = .int .i64 0 ∧ Hid (Bl wn wx))
  case first =>
    have hf1 : (A : Int) ≤ (M : Int) := by omega
    have hf2 : (A : Int) ≤ (M : Int) + 4 := by omega
    have hf3 : (12 : Int) ≤ (M : Int) := by omega
    have hf4 : (M : Int) ≤ (M : Int) + 4 := by omega
    refine wp_region_pool (by kernel_rfl) Bl (poolR (fun _ => none) (fdeV u1 ze o1 o2 o3 bd A M)) (slo 78) Bl.trans Bl.refl ?hinj ?hsz (okAfter_spec (by kernel_rfl)) poolR.go ?hstep ?hend
    case hinj => intro i j _ _ h; have h' : 78 + i = 78 + j := h; omega
    case hsz => intro i hi; have h' : i < 30 := hi; show 78 + i < 130; omega
    case hstep =>
      intro i o ho K a' w' hsa hg hrest hdeps hk
      clear hsa
      rcases i with _ | _ | _ | _ | _ | _ | _ | _ | _ | _ | _ | _ | _ | _ | _ | _ | _ | _ | _ | _ | _ | _ | _ | _ | _ | _ | _ | _ | _ | _ | i
      · obtain rfl := Option.some.inj ho
        have y0 : a'.eval (.tmp 0) = .string u1 := (hrest 0 (fun j _ h => by have h' : 78 + j = 0 := h; omega)).trans rfl
        simp only [Act.eval, Array.getD_eq_getD_getElem?] at y0
        clear hrest hdeps
        refine wpOp_step (o := _) rfl (fun K' hK => ?_)
        go_simp
        exact hK _ _ (hk _ _ (Bl.refl _) rfl)
      · obtain rfl := Option.some.inj ho
        have y0 : a'.eval (.tmp 0) = .string u1 := (hrest 0 (fun j _ h => by have h' : 78 + j = 0 := h; omega)).trans rfl
        simp only [Act.eval, Array.getD_eq_getD_getElem?] at y0
        clear hrest hdeps
        refine wpOp_step (o := _) rfl (fun K' hK => ?_)
        go_simp
        exact hK _ _ (hk _ _ (Bl.refl _) rfl)
      · obtain rfl := Option.some.inj ho
        have y79 : a'.eval (.tmp 79) = .string u1 := hdeps ⟨1, .data⟩ (by simp) rfl
        simp only [Act.eval, Array.getD_eq_getD_getElem?] at y79
        clear hrest hdeps
        refine wpOp_step (o := _) rfl (fun K' hK => ?_)
        go_simp
        go_at_call 18
        (with_reducible refine (K1.out _).mono ?_)
        rintro e w9 ⟨rfl, hgr⟩
        exact hK _ _ (hk _ _ hgr rfl)
      · obtain rfl := Option.some.inj ho
        have y11 : a'.eval (.tmp 11) = .string ze := (hrest 11 (fun j _ h => by have h' : 78 + j = 11 := h; omega)).trans rfl
        simp only [Act.eval, Array.getD_eq_getD_getElem?] at y11
        clear hrest hdeps
        refine wpOp_step (o := _) rfl (fun K' hK => ?_)
        go_simp
        exact hK _ _ (hk _ _ (Bl.refl _) rfl)
      · obtain rfl := Option.some.inj ho
        have y15 : a'.eval (.tmp 15) = .string o1 := (hrest 15 (fun j _ h => by have h' : 78 + j = 15 := h; omega)).trans rfl
        simp only [Act.eval, Array.getD_eq_getD_getElem?] at y15
        clear hrest hdeps
        refine wpOp_step (o := _) rfl (fun K' hK => ?_)
        go_simp
        exact hK _ _ (hk _ _ (Bl.refl _) rfl)
      · obtain rfl := Option.some.inj ho
        have y82 : a'.eval (.tmp 82) = .string o1 := hdeps ⟨4, .data⟩ (by simp) rfl
        simp only [Act.eval, Array.getD_eq_getD_getElem?] at y82
        clear hrest hdeps
        refine wpOp_step (o := _) rfl (fun K' hK => ?_)
        go_simp
        go_at_call 18
        (with_reducible refine (K2.out _).mono ?_)
        rintro e w9 ⟨rfl, hgr⟩
        exact hK _ _ (hk _ _ hgr rfl)
      · obtain rfl := Option.some.inj ho
        have y16 : a'.eval (.tmp 16) = .string o2 := (hrest 16 (fun j _ h => by have h' : 78 + j = 16 := h; omega)).trans rfl
        simp only [Act.eval, Array.getD_eq_getD_getElem?] at y16
        clear hrest hdeps
        refine wpOp_step (o := _) rfl (fun K' hK => ?_)
        go_simp
        exact hK _ _ (hk _ _ (Bl.refl _) rfl)
      · obtain rfl := Option.some.inj ho
        have y84 : a'.eval (.tmp 84) = .string o2 := hdeps ⟨6, .data⟩ (by simp) rfl
        simp only [Act.eval, Array.getD_eq_getD_getElem?] at y84
        clear hrest hdeps
        refine wpOp_step (o := _) rfl (fun K' hK => ?_)
        go_simp
        go_at_call 18
        (with_reducible refine (K3.out _).mono ?_)
        rintro e w9 ⟨rfl, hgr⟩
        exact hK _ _ (hk _ _ hgr rfl)
      · obtain rfl := Option.some.inj ho
        have y17 : a'.eval (.tmp 17) = .string o3 := (hrest 17 (fun j _ h => by have h' : 78 + j = 17 := h; omega)).trans rfl
        simp only [Act.eval, Array.getD_eq_getD_getElem?] at y17
        clear hrest hdeps
        refine wpOp_step (o := _) rfl (fun K' hK => ?_)
        go_simp
        exact hK _ _ (hk _ _ (Bl.refl _) rfl)
      · obtain rfl := Option.some.inj ho
        have y86 : a'.eval (.tmp 86) = .string o3 := hdeps ⟨8, .data⟩ (by simp) rfl
        simp only [Act.eval, Array.getD_eq_getD_getElem?] at y86
        clear hrest hdeps
        refine wpOp_step (o := _) rfl (fun K' hK => ?_)
        go_simp
        go_at_call 18
        (with_reducible refine (K4.out _).mono ?_)
        rintro e w9 ⟨rfl, hgr⟩
        exact hK _ _ (hk _ _ hgr rfl)
      · obtain rfl := Option.some.inj ho
        have y13 : a'.eval (.tmp 13) = .string bd := (hrest 13 (fun j _ h => by have h' : 78 + j = 13 := h; omega)).trans rfl
        simp only [Act.eval, Array.getD_eq_getD_getElem?] at y13
        clear hrest hdeps
        refine wpOp_step (o := _) rfl (fun K' hK => ?_)
        go_simp
        exact hK _ _ (hk _ _ (Bl.refl _) rfl)
      · obtain rfl := Option.some.inj ho
        have y14 : a'.eval (.tmp 14) = .int .i64 (A : Int) := (hrest 14 (fun j _ h => by have h' : 78 + j = 14 := h; omega)).trans rfl
        simp only [Act.eval, Array.getD_eq_getD_getElem?] at y14
        clear hrest hdeps
        refine wpOp_step (o := _) rfl (fun K' hK => ?_)
        go_simp
        exact hK _ _ (hk _ _ (Bl.refl _) rfl)
      · obtain rfl := Option.some.inj ho
        have y88 : a'.eval (.tmp 88) = .string bd := hdeps ⟨10, .data⟩ (by simp) rfl
        have y89 : a'.eval (.tmp 89) = .int .i64 (A : Int) := hdeps ⟨11, .data⟩ (by simp) rfl
        simp only [Act.eval, Array.getD_eq_getD_getElem?] at y88 y89
        clear hrest hdeps
        refine wpOp_step (o := _) rfl (fun K' hK => ?_)
        go_simp
        exact hK _ _ (hk _ _ (Bl.refl _) rfl)
      · obtain rfl := Option.some.inj ho
        have y90 : a'.eval (.tmp 90) = .string (bd.extract 0 A) := hdeps ⟨12, .data⟩ (by simp) rfl
        simp only [Act.eval, Array.getD_eq_getD_getElem?] at y90
        clear hrest hdeps
        refine wpOp_step (o := _) rfl (fun K' hK => ?_)
        go_simp
        go_at_call 18
        (with_reducible refine (K5.out _).mono ?_)
        rintro e w9 ⟨rfl, hgr⟩
        exact hK _ _ (hk _ _ hgr rfl)
      · obtain rfl := Option.some.inj ho
        have y11 : a'.eval (.tmp 11) = .string ze := (hrest 11 (fun j _ h => by have h' : 78 + j = 11 := h; omega)).trans rfl
        simp only [Act.eval, Array.getD_eq_getD_getElem?] at y11
        clear hrest hdeps
        refine wpOp_step (o := _) rfl (fun K' hK => ?_)
        go_simp
        exact hK _ _ (hk _ _ (Bl.refl _) rfl)
      · obtain rfl := Option.some.inj ho
        have y14 : a'.eval (.tmp 14) = .int .i64 (A : Int) := (hrest 14 (fun j _ h => by have h' : 78 + j = 14 := h; omega)).trans rfl
        simp only [Act.eval, Array.getD_eq_getD_getElem?] at y14
        clear hrest hdeps
        refine wpOp_step (o := _) rfl (fun K' hK => ?_)
        go_simp
        exact hK _ _ (hk _ _ (Bl.refl _) rfl)
      · obtain rfl := Option.some.inj ho
        have y92 : a'.eval (.tmp 92) = .string ze := hdeps ⟨14, .data⟩ (by simp) rfl
        have y93 : a'.eval (.tmp 93) = .int .i64 (A : Int) := hdeps ⟨15, .data⟩ (by simp) rfl
        simp only [Act.eval, Array.getD_eq_getD_getElem?] at y92 y93
        clear hrest hdeps
        refine wpOp_step (o := _) rfl (fun K' hK => ?_)
        go_simp
        exact hK _ _ (hk _ _ (Bl.refl _) rfl)
      · obtain rfl := Option.some.inj ho
        have y13 : a'.eval (.tmp 13) = .string bd := (hrest 13 (fun j _ h => by have h' : 78 + j = 13 := h; omega)).trans rfl
        simp only [Act.eval, Array.getD_eq_getD_getElem?] at y13
        clear hrest hdeps
        refine wpOp_step (o := _) rfl (fun K' hK => ?_)
        go_simp
        exact hK _ _ (hk _ _ (Bl.refl _) rfl)
      · obtain rfl := Option.some.inj ho
        have y95 : a'.eval (.tmp 95) = .string bd := hdeps ⟨17, .data⟩ (by simp) rfl
        simp only [Act.eval, Array.getD_eq_getD_getElem?] at y95
        clear hrest hdeps
        refine wpOp_step (o := _) rfl (fun K' hK => ?_)
        go_simp
        exact hK _ _ (hk _ _ (Bl.refl _) rfl)
      · obtain rfl := Option.some.inj ho
        have y96 : a'.eval (.tmp 96) = .string (bd.extract 0 12) := hdeps ⟨18, .data⟩ (by simp) rfl
        simp only [Act.eval, Array.getD_eq_getD_getElem?] at y96
        clear hrest hdeps
        refine wpOp_step (o := _) rfl (fun K' hK => ?_)
        go_simp
        exact hK _ _ (hk _ _ (Bl.refl _) rfl)
      · obtain rfl := Option.some.inj ho
        have y13 : a'.eval (.tmp 13) = .string bd := (hrest 13 (fun j _ h => by have h' : 78 + j = 13 := h; omega)).trans rfl
        simp only [Act.eval, Array.getD_eq_getD_getElem?] at y13
        clear hrest hdeps
        refine wpOp_step (o := _) rfl (fun K' hK => ?_)
        go_simp
        exact hK _ _ (hk _ _ (Bl.refl _) rfl)
      · obtain rfl := Option.some.inj ho
        have y98 : a'.eval (.tmp 98) = .string bd := hdeps ⟨20, .data⟩ (by simp) rfl
        simp only [Act.eval, Array.getD_eq_getD_getElem?] at y98
        clear hrest hdeps
        refine wpOp_step (o := _) rfl (fun K' hK => ?_)
        go_simp
        exact hK _ _ (hk _ _ (Bl.refl _) rfl)
      · obtain rfl := Option.some.inj ho
        have y97 : a'.eval (.tmp 97) = .string (bd.extract 0 12 ++ ⟨#[129, 0, 15, 255]⟩) := hdeps ⟨19, .data⟩ (by simp) rfl
        have y99 : a'.eval (.tmp 99) = .string (bd.extract 12 M) := hdeps ⟨21, .data⟩ (by simp) rfl
        simp only [Act.eval, Array.getD_eq_getD_getElem?] at y97 y99
        clear hrest hdeps
        refine wpOp_step (o := _) rfl (fun K' hK => ?_)
        go_simp
        exact hK _ _ (hk _ _ (Bl.refl _) rfl)
      · obtain rfl := Option.some.inj ho
        have y11 : a'.eval (.tmp 11) = .string ze := (hrest 11 (fun j _ h => by have h' : 78 + j = 11 := h; omega)).trans rfl
        simp only [Act.eval, Array.getD_eq_getD_getElem?] at y11
        clear hrest hdeps
        refine wpOp_step (o := _) rfl (fun K' hK => ?_)
        go_simp
        exact hK _ _ (hk _ _ (Bl.refl _) rfl)
      · obtain rfl := Option.some.inj ho
        have y13 : a'.eval (.tmp 13) = .string bd := (hrest 13 (fun j _ h => by have h' : 78 + j = 13 := h; omega)).trans rfl
        simp only [Act.eval, Array.getD_eq_getD_getElem?] at y13
        clear hrest hdeps
        refine wpOp_step (o := _) rfl (fun K' hK => ?_)
        go_simp
        exact hK _ _ (hk _ _ (Bl.refl _) rfl)
      · obtain rfl := Option.some.inj ho
        have y102 : a'.eval (.tmp 102) = .string bd := hdeps ⟨24, .data⟩ (by simp) rfl
        simp only [Act.eval, Array.getD_eq_getD_getElem?] at y102
        clear hrest hdeps
        refine wpOp_step (o := _) rfl (fun K' hK => ?_)
        go_simp
        exact hK _ _ (hk _ _ (Bl.refl _) rfl)
      · obtain rfl := Option.some.inj ho
        have y101 : a'.eval (.tmp 101) = .string ze := hdeps ⟨23, .data⟩ (by simp) rfl
        have y103 : a'.eval (.tmp 103) = .int .i64 (M : Int) := hdeps ⟨25, .data⟩ (by simp) rfl
        simp only [Act.eval, Array.getD_eq_getD_getElem?] at y101 y103
        clear hrest hdeps
        refine wpOp_step (o := _) rfl (fun K' hK => ?_)
        go_simp
        exact hK _ _ (hk _ _ (Bl.refl _) rfl)
      · obtain rfl := Option.some.inj ho
        have y100 : a'.eval (.tmp 100) = .string (bd.extract 0 12 ++ ⟨#[129, 0, 15, 255]⟩ ++ bd.extract 12 M) := hdeps ⟨22, .data⟩ (by simp) rfl
        have y104 : a'.eval (.tmp 104) = .string (ze.extract M (M + 4)) := hdeps ⟨26, .data⟩ (by simp) rfl
        simp only [Act.eval, Array.getD_eq_getD_getElem?] at y100 y104
        clear hrest hdeps
        refine wpOp_step (o := _) rfl (fun K' hK => ?_)
        go_simp
        exact hK _ _ (hk _ _ (Bl.refl _) rfl)
      · obtain rfl := Option.some.inj ho
        have y78 : a'.eval (.tmp 78) = .string u1 := hdeps ⟨0, .data⟩ (by simp) rfl
        have y80 : a'.eval (.tmp 80) = .string (sealB u1 0) := hdeps ⟨2, .data⟩ (by simp) rfl
        have y81 : a'.eval (.tmp 81) = .string ze := hdeps ⟨3, .data⟩ (by simp) rfl
        have y83 : a'.eval (.tmp 83) = .string (sealB o1 0) := hdeps ⟨5, .data⟩ (by simp) rfl
        have y85 : a'.eval (.tmp 85) = .string (sealB o2 0) := hdeps ⟨7, .data⟩ (by simp) rfl
        have y87 : a'.eval (.tmp 87) = .string (sealB o3 0) := hdeps ⟨9, .data⟩ (by simp) rfl
        have y91 : a'.eval (.tmp 91) = .string (sealB (bd.extract 0 A) 0) := hdeps ⟨13, .data⟩ (by simp) rfl
        have y94 : a'.eval (.tmp 94) = .string (ze.extract 0 A) := hdeps ⟨16, .data⟩ (by simp) rfl
        have y105 : a'.eval (.tmp 105) = .string (bd.extract 0 12 ++ ⟨#[129, 0, 15, 255]⟩ ++ bd.extract 12 M ++ ze.extract M (M + 4)) := hdeps ⟨27, .data⟩ (by simp) rfl
        simp only [Act.eval, Array.getD_eq_getD_getElem?] at y78 y80 y81 y83 y85 y87 y91 y94 y105
        clear hrest hdeps
        refine wpOp_step (o := _) rfl (fun K' hK => ?_)
        go_simp
        exact hK _ _ (hk _ _ (Bl.refl _) rfl)
      · obtain rfl := Option.some.inj ho
        clear hrest hdeps
        refine wpOp_step (o := _) rfl (fun K' hK => ?_)
        go_simp
        exact hK _ _ (hk _ _ (Bl.refl _) rfl)
      · have h1 := ho; simp at h1
    case hend =>
      intro a' w' hd hs hg hrest hdone
      obtain ⟨f, hf⟩ : ∃ f : Nat → Value, ∀ i, f i = a'.eval (.tmp (slo 78 i)) := ⟨_, fun _ => rfl⟩
      have e106 : f 28 = .agg #[.string u1, .string (sealB u1 0), .string ze, .string (sealB o1 0), .string (sealB o2 0), .string (sealB o3 0), .string (sealB (bd.extract 0 A) 0), .string (ze.extract 0 A), .string (bd.extract 0 12 ++ ⟨#[129, 0, 15, 255]⟩ ++ bd.extract 12 M ++ ze.extract M (M + 4))] := by rw [hf]; exact hdone 28 (by simp)
      have e107 : f 29 = .int .i64 0 := by rw [hf]; exact hdone 29 (by simp)
      have ha := act_puts (n := 30) (ds := slo 78) hd hs (fun i hi => by show 78 + i < 130; omega) (fun t ht => hrest t ht)
      simp only [← hf] at ha
      clear hd hs hrest hdone hf
      subst ha
      simp only [show List.range 30 = [0, 1, 2, 3, 4, 5, 6, 7, 8, 9, 10, 11, 12, 13, 14, 15, 16, 17, 18, 19, 20, 21, 22, 23, 24, 25, 26, 27, 28, 29] from rfl, List.foldl_cons, List.foldl_nil, Act.put, List.setIfInBounds_toArray, slo, Nat.reduceAdd, List.set_cons_zero, List.set_cons_succ, e106, e107]
      go_wp2_with fail
      go_meet
      exact ⟨rfl, rfl, Lib.hid (Bl.trans (Bl.drew (Bl.refl _)) hg)⟩
  obtain ⟨rfl, rfl, hbl⟩ := hcut
  replace G := Lib.hid (Bl.trans G.out hbl.out)
  clear hbl K1 K2 K3 K4 K5 ha1 ha2 ha3
  generalize bd.extract 0 12 ++ (⟨#[129, 0, 15, 255]⟩ : ByteArray) ++ bd.extract 12 M ++ ze.extract M (M + 4) = g8 at *
  generalize sealB (bd.extract 0 A) 0 = g6 at *
  generalize ze.extract 0 A = g7 at *
  generalize sealB u1 0 = g1 at *
  generalize sealB o1 0 = g3 at *
  generalize sealB o2 0 = g4 at *
  generalize sealB o3 0 = g5 at *
  clear hz2 hz3 hw4 hw5 hd0 hbs hMI hAI hA hA1 hM hM1 hM2 hn hc hm hbi hmI hs hp2 hp3 hps hsz
  rename World => wz
  go_wp2_with fail
  go_loopw [107] (fun i wr => ∃ j : Nat, j ≤ 9 ∧ i = .int .i64 (j : Int) ∧ Hid (Bl w wr)) (fun i _ => 9 - (intOf i).toNat)
  case atStart => exact ⟨0, by omega, rfl, G⟩
  case round =>
    clear G
    obtain ⟨j, hj, rfl, G⟩ := hrel
    by_cases hlt : j < 9
    · obtain ⟨z, hz, hrun⟩ := FS.out j hlt
      clear FS KW
      obtain ⟨f, ec, hde⟩ := deR_form z
      have K1 := Lib.hid (fun w => hde ▸ fdecode_any z (by omega) w)
      have K2 := Lib.hid (fun w => hde ▸ rdecode_any z (by omega) w)
      clear hde
      obtain ⟨d, sr, t, p, v, r, q, y, x⟩ := f
      unfold Fr.v at *
      dsimp only at *
      have hse : (x.toList != x.toList) = false := bne_self_eq_false _
      go_wp2_with fail
      refine (K1.out _).mono ?_; rintro e wn ⟨rfl, gr⟩
      replace G := Lib.hid (Bl.trans G.out gr); clear gr
      go_upto_region 12 with fail
      have F := Lib.hid (Fb.new wn 23 { dst := d, src := sr, tag := t, prio := p, vid := v, red := r, seq := q, typ := y, data := x })
      replace G := Lib.hid (Bl.alloc G.out (.cells #[.int .i64 d, .int .i64 sr, .bool t, .int .i64 p, .int .i64 v, .bool r, .int .i64 q, .int .i64 y, .string x] 23))
      dsimp only at F
      generalize wn.heap.size = c3 at *
      generalize wn.alloc (.cells #[.int .i64 d, .int .i64 sr, .bool t, .int .i64 p, .int .i64 v, .bool r, .int .i64 q, .int .i64 y, .string x] 23) = wn at *
      go_wp2_with fail
      refine (K2.out _).mono ?_; rintro e wn ⟨rfl, gr⟩
      replace F := Lib.hid (F.out.bl gr)
      replace G := Lib.hid (Bl.trans G.out gr); clear gr
      go_upto_region 13 with fail
      have FW := Lib.hid (Fb.new wn 23 { dst := d, src := sr, tag := t, prio := p, vid := v, red := r, seq := q, typ := y, data := x })
      replace F := Lib.hid (F.out.alloc (.cells #[.int .i64 d, .int .i64 sr, .bool t, .int .i64 p, .int .i64 v, .bool r, .int .i64 q, .int .i64 y, .string x] 23))
      replace G := Lib.hid (Bl.alloc G.out (.cells #[.int .i64 d, .int .i64 sr, .bool t, .int .i64 p, .int .i64 v, .bool r, .int .i64 q, .int .i64 y, .string x] 23))
      dsimp only at FW
      generalize wn.heap.size = c8 at *
      generalize wn.alloc (.cells #[.int .i64 d, .int .i64 sr, .bool t, .int .i64 p, .int .i64 v, .bool r, .int .i64 q, .int .i64 y, .string x] 23) = wn at *
      obtain ⟨q0, q1, q2, q3, q4, q5, q6, q7, q8⟩ := F.out.cells
      obtain ⟨e0, e1, e2, e3, e4, e5, e6, e7, e8⟩ := FW.out.cells
      go_wp2_with fail
      go_roundw
      case rel => exact ⟨j + 1, by omega, by go_num, G⟩
      case measure => simp [intOf]; omega
    · go_wp2_with fail
      refine (KW.out _).mono ?_; rintro e wn ⟨rfl, gr⟩
      replace G := Lib.hid (Bl.trans G.out gr); clear gr
      go_wp2_with fail
      go_ret
      exact ⟨rfl, G.out⟩
end Go.Proofs.Ytmhdgpmlconngaa
