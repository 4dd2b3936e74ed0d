/-
  The examples of MergeKnown: mathematics.
-/
import Derived.Test.YtnapelocjcoofaaEr
namespace Go.Proofs.Ytnapelocjcoofaa
open Go.RowKit Go.Proofs.Ytnapelocjcoofaa.Cr

/-! The chapter's frame cut short, its first 64 octets, the frames of one octet. -/
def kD : ByteArray := chp.extract 0 64
theorem kD_size : kD.size = 64 := by unfold kD; rw [ByteArray.size_extract, chp_size]; omega
def kLong : ByteArray := sealB (cop 122 1518) 0
theorem kLong_size : kLong.size = 1522 := by unfold kLong; rw [sealB_size, cop_size]
def kSmall : ByteArray := sealB (cop 113 60) 0
theorem kSmall_size : kSmall.size = 64 := by unfold kSmall; rw [sealB_size, cop_size]
def kFull : Ms := ⟨true, 0, 2, cop 120 1518⟩
def kPiece : Pc := ⟨true, 0, 0, kD⟩
theorem okP_no {p : Pc} (h : ¬ ((0 ≤ p.num ∧ p.num ≤ 3) ∧ (0 ≤ p.cnt ∧ p.cnt ≤ 3) ∧ (p.start = true → p.cnt = 0) ∧ 64 ≤ p.data.size ∧ p.data.size ≤ 1522)) : okP p = false := decide_eq_false h
theorem okM_no {m : Ms} (ho : m.on = true) (h : ¬ ((0 ≤ m.num ∧ m.num ≤ 3) ∧ (0 ≤ m.next ∧ m.next ≤ 3) ∧ 60 ≤ m.data.size ∧ m.data.size ≤ 1518)) : okM m = false := by unfold okM; rw [if_pos ho]; exact decide_eq_false h
theorem eight_pieces (k : Nat) (hk : k < 8) :
    ∃ p : Pc, okP p = false ∧ (p.data.size : Int) ≤ 4000 ∧ ∀ w, (Instr.index 67 (.agg #[.bool false, .int .i64 0, .int .i64 0, .string ⟨#[]⟩, .bool true, .int .i64 0, .int .i64 0, .string (chp.extract 0 63), .bool true, .int .i64 0, .int .i64 0, .string (cop 120 1523), .bool false, .int .i64 4, .int .i64 0, .string kD, .bool false, .int .i64 (-1), .int .i64 0, .string kD, .bool false, .int .i64 0, .int .i64 4, .string kD, .bool false, .int .i64 0, .int .i64 (-1), .string kD, .bool true, .int .i64 0, .int .i64 1, .string kD]) (.int .i64 k)).run Try.prog w = .ok (.agg #[.bool p.start, .int .i64 p.num, .int .i64 p.cnt, .string p.data]) w := by
  have h64 : (kD.size : Int) ≤ 4000 := by rw [kD_size]; decide
  have h63 : (chp.extract 0 63).size = 63 := by rw [ByteArray.size_extract, chp_size]; omega
  match k, hk with
  | 0, _ => exact ⟨⟨false, 0, 0, ⟨#[]⟩⟩, by decide, by decide, fun _ => by kernel_rfl⟩
  | 1, _ => exact ⟨⟨true, 0, 0, chp.extract 0 63⟩, okP_no (fun h => by have := h.2.2.2.1; dsimp only at this; omega), by dsimp only; omega, fun _ => by kernel_rfl⟩
  | 2, _ => exact ⟨⟨true, 0, 0, cop 120 1523⟩, okP_no (fun h => by have := h.2.2.2.2; dsimp only at this; rw [cop_size] at this; omega), by dsimp only; rw [cop_size]; decide, fun _ => by kernel_rfl⟩
  | 3, _ => exact ⟨⟨false, 4, 0, kD⟩, okP_no (fun h => by have := h.1.2; dsimp only at this; omega), h64, fun _ => by kernel_rfl⟩
  | 4, _ => exact ⟨⟨false, -1, 0, kD⟩, okP_no (fun h => by have := h.1.1; dsimp only at this; omega), h64, fun _ => by kernel_rfl⟩
  | 5, _ => exact ⟨⟨false, 0, 4, kD⟩, okP_no (fun h => by have := h.2.1.2; dsimp only at this; omega), h64, fun _ => by kernel_rfl⟩
  | 6, _ => exact ⟨⟨false, 0, -1, kD⟩, okP_no (fun h => by have := h.2.1.1; dsimp only at this; omega), h64, fun _ => by kernel_rfl⟩
  | 7, _ => exact ⟨⟨true, 0, 1, kD⟩, okP_no (fun h => by have := h.2.2.1 rfl; dsimp only at this; omega), h64, fun _ => by kernel_rfl⟩
theorem eight_states (k : Nat) (hk : k < 8) :
    ∃ m : Ms, okM m = false ∧ (m.data.size : Int) ≤ 4000 ∧ ∀ w, (Instr.index 68 (.agg #[.bool false, .int .i64 1, .int .i64 0, .string ⟨#[]⟩, .bool false, .int .i64 0, .int .i64 1, .string ⟨#[]⟩, .bool false, .int .i64 0, .int .i64 0, .string ⟨#[120]⟩, .bool true, .int .i64 0, .int .i64 0, .string ⟨#[]⟩, .bool true, .int .i64 0, .int .i64 0, .string (chp.extract 0 59), .bool true, .int .i64 0, .int .i64 0, .string (cop 120 1519), .bool true, .int .i64 4, .int .i64 0, .string kD, .bool true, .int .i64 0, .int .i64 (-1), .string kD]) (.int .i64 k)).run Try.prog w = .ok (.agg #[.bool m.on, .int .i64 m.num, .int .i64 m.next, .string m.data]) w := by
  have h64 : (kD.size : Int) ≤ 4000 := by rw [kD_size]; decide
  have h59 : (chp.extract 0 59).size = 59 := by rw [ByteArray.size_extract, chp_size]; omega
  match k, hk with
  | 0, _ => exact ⟨⟨false, 1, 0, ⟨#[]⟩⟩, by decide, by decide, fun _ => by kernel_rfl⟩
  | 1, _ => exact ⟨⟨false, 0, 1, ⟨#[]⟩⟩, by decide, by decide, fun _ => by kernel_rfl⟩
  | 2, _ => exact ⟨⟨false, 0, 0, ⟨#[120]⟩⟩, by decide, by decide, fun _ => by kernel_rfl⟩
  | 3, _ => exact ⟨⟨true, 0, 0, ⟨#[]⟩⟩, by decide, by decide, fun _ => by kernel_rfl⟩
  | 4, _ => exact ⟨⟨true, 0, 0, chp.extract 0 59⟩, okM_no rfl (fun h => by have := h.2.2.1; dsimp only at this; omega), by dsimp only; omega, fun _ => by kernel_rfl⟩
  | 5, _ => exact ⟨⟨true, 0, 0, cop 120 1519⟩, okM_no rfl (fun h => by have := h.2.2.2; dsimp only at this; rw [cop_size] at this; omega), by dsimp only; rw [cop_size]; decide, fun _ => by kernel_rfl⟩
  | 6, _ => exact ⟨⟨true, 4, 0, kD⟩, okM_no rfl (fun h => by have := h.1.2; dsimp only at this; omega), h64, fun _ => by kernel_rfl⟩
  | 7, _ => exact ⟨⟨true, 0, -1, kD⟩, okM_no rfl (fun h => by have := h.2.1.1; dsimp only at this; omega), h64, fun _ => by kernel_rfl⟩
/-! Join. -/
theorem kFull_ok : okM kFull = true := (okM_on rfl).2 ⟨by decide, by decide, by show 60 ≤ (cop 120 1518).size; rw [cop_size]; omega, by show (cop 120 1518).size ≤ 1518; rw [cop_size]; omega⟩
theorem kPiece_ok : okP kPiece = true := okP_iff.2 ⟨by decide, by decide, fun _ => rfl, by show 64 ≤ kD.size; rw [kD_size]; omega, by show kD.size ≤ 1522; rw [kD_size]; omega⟩
theorem jn_long : jnA kFull ⟨false, 0, 2, kD⟩ = ((zM, ⟨#[]⟩), 0) := by
  have hp : okP (⟨false, 0, 2, kD⟩ : Pc) = true := okP_iff.2 ⟨⟨by decide, by decide⟩, ⟨by decide, by decide⟩, fun (h : false = true) => (by cases h), by show 64 ≤ kD.size; rw [kD_size]; omega, by show kD.size ≤ 1522; rw [kD_size]; omega⟩
  rw [jn_yes kFull_ok hp]
  unfold jnR
  rw [if_neg (by decide), if_pos ⟨rfl, rfl, rfl⟩]
  unfold jnD
  rw [if_pos (by rw [ByteArray.size_append, kD_size]; show 1522 < (cop 120 1518).size + 64; rw [cop_size]; omega)]
theorem jn_small : jnA zM ⟨true, 1, 0, kSmall⟩ = ((zM, kSmall), 0) := by
  rw [jn_yes okM_zero (okP_iff.2 ⟨by decide, by decide, fun _ => rfl, by show 64 ≤ kSmall.size; rw [kSmall_size]; omega, by show kSmall.size ≤ 1522; rw [kSmall_size]; omega⟩)]
  unfold jnR
  rw [if_pos rfl]
  unfold jnD
  rw [if_neg (by show ¬ 1522 < kSmall.size; rw [kSmall_size]; omega), if_pos (by exact chk_seal _ _)]
theorem kD_no : chk kD 0 = false ∧ chk kD mkC = false := by decide +kernel
theorem jn_piece : jnA kFull kPiece = ((zM, ⟨#[]⟩), 0) := by
  rw [jn_yes kFull_ok kPiece_ok]
  unfold jnR
  rw [if_pos (show kPiece.start = true from rfl)]
  unfold jnD
  rw [if_neg (by show ¬ 1522 < kD.size; rw [kD_size]; omega), if_neg (by show ¬ chk kD 0 = true; rw [kD_no.1]; decide), if_neg (by show ¬ chk kD mkC = true; rw [kD_no.2]; decide)]
/-! Cut. -/
def cK (k : Nat) : List Int := upto (fun j => 60 * ((j : Int) + 1)) k
theorem cK_len (k : Nat) : (cK k).length = k := upto_length _ _
theorem cK_succ (k : Nat) : cK (k + 1) = cK k ++ [60 * ((k : Int) + 1)] := upto_succ _ _
theorem cK_ok : okC kLong.size (cK 24) = true := by rw [kLong_size]; decide
theorem kLong_wh : whB kLong = true := whB_iff.2 ⟨by rw [kLong_size]; omega, chk_seal _ _⟩
theorem cut_long : cutA kLong 3 (cK 24) = (upto (pcI kLong 3 (cK 24)) 25, 0) := cut_yes kLong_wh (by decide) cK_ok
theorem cK_64 : I64 (cK 24) := okC_i64 cK_ok (by rw [kLong_size]; omega)
theorem last_size : (pcI kLong 3 (cK 24) 24).data.size = 82 := by
  have h := pcD_size (s := kLong) (cs := cK 24) (by rw [kLong_size]; omega) cK_ok (i := 24) (by decide)
  have e : (if 24 < (cK 24).length then cu (cK 24) 24 - la (cK 24) 24 + 4 else ((1522 : Nat) : Int) - la (cK 24) 24) = 82 := by decide
  rw [kLong_size, e] at h
  show (pcD kLong (cK 24) 24).size = 82
  omega
theorem rk_a : cutA (sealB (chp.extract 0 59) 0) 0 [] = ([], 5) := cut_form (by
  have h : (sealB (chp.extract 0 59) 0).size = 63 := by rw [sealB_size, ByteArray.size_extract, chp_size]; omega
  unfold whB szB
  rw [h]; rfl)
theorem rk_b : cutA (sealB (cop 122 1519) 0) 9 [] = ([], 5) := cut_form (by
  have h : (sealB (cop 122 1519) 0).size = 1523 := by rw [sealB_size, cop_size]
  unfold whB szB
  rw [h]; rfl)
theorem kSmall_wh : whB kSmall = true := whB_iff.2 ⟨by rw [kSmall_size]; omega, chk_seal _ _⟩
theorem rk_c : cutA kSmall 0 [60] = ([], 180) := cut_cuts kSmall_wh (by decide) (by rw [kSmall_size]; decide)
theorem rk_d : cutA kSmall (-1) [-1] = ([], 2) := cut_arg kSmall_wh (by decide)
theorem rk_e : cutA chp 0 [-60] = ([], 180) := cut_cuts chp_wh (by decide) (by rw [chp_size]; decide)
theorem rk_f : cutA chp 0 [60, 60] = ([], 180) := cut_cuts chp_wh (by decide) (by rw [chp_size]; decide)
theorem rk_g : cutA chp 0 [4611686018427387904] = ([], 180) := cut_cuts chp_wh (by decide) (by rw [chp_size]; decide)

end Go.Proofs.Ytnapelocjcoofaa
