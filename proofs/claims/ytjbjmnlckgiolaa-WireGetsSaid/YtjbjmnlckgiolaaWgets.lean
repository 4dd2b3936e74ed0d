/-
  WireGets: Get, GetSigned and Field return what the chapter specifies.
-/
import Derived.Test.YtjbjmnlckgiolaaWputs
namespace Go.Proofs.Ytjbjmnlckgiolaa
open Go.RowKit

theorem three_pairs {a b c d : Int} (ha : i64 a) (hb : i64 b) (hc : i64 c) (hd : i64 d) (k : Nat) (hk : k < 3) :
    ∃ p q, i64 p ∧ i64 q ∧ ∀ w, (Instr.index 31 (.agg #[.int .i64 a, .int .i64 b, .int .i64 c, .int .i64 d, .int .i64 c, .int .i64 b]) (.int .i64 k)).run Try.prog w = .ok (.agg #[.int .i64 p, .int .i64 q]) w := by
  match k, hk with
  | 0, _ => exact ⟨a, b, ha, hb, fun _ => by kernel_rfl⟩
  | 1, _ => exact ⟨c, d, hc, hd, fun _ => by kernel_rfl⟩
  | 2, _ => exact ⟨c, b, hc, hb, fun _ => by kernel_rfl⟩

set_option maxRecDepth 20000 in
set_option maxHeartbeats 2000000 in
theorem wgets_law (s : ByteArray) (a k : Int) (hs : s.size ≤ maxLen) (ha : -9223372036854775808 ≤ a ∧ a ≤ 9223372036854775807) (hk : -9223372036854775808 ≤ k ∧ k ≤ 9223372036854775807) (w : World) :
    Calls Try.prog 4 #[.string s, .int .i64 a, .int .i64 k] w fun e w' => e = .returned (.bool true) ∧ Bl w w' := by
  have KW := Lib.hid (fun w => wworks_any w)
  unfold maxLen at hs
  obtain ⟨p, hp1, hp2, hp3⟩ : ∃ p : Nat, (if (20 : Int) < s.size then 20 else (s.size : Int)) = (p : Int) ∧ p ≤ s.size ∧ p ≤ 20 := ⟨min s.size 20, by split <;> omega, by omega, by omega⟩
  have hs1 : ((s.extract 0 p).size : Int) ≤ 20 := by rw [ByteArray.size_extract]; omega
  go_enter Try.func4, Try.ntmps4
  go_wp2_with fail
  have HS := Lib.hid (three_pairs ha hk (i64_wrap ((IntKind.u64.wrap a).tmod 22)) (i64_wrap ((IntKind.u64.wrap k).tmod 10)))
  generalize s.extract 0 p = s1 at *
  generalize wrap64 ((IntKind.u64.wrap k).tmod 10) = kk at *
  generalize wrap64 ((IntKind.u64.wrap a).tmod 22) = aa at *
  clear hs hp1 hp2 hp3
  go_loopw [45] (fun iv wr => ∃ i : Nat, i ≤ 3 ∧ iv = .int .i64 i ∧ Hid (Bl w wr)) (fun iv _ => 3 - (intOf iv).toNat)
  case atStart => exact ⟨0, by omega, rfl, Bl.refl _⟩
  case round =>
    obtain ⟨i, hi, rfl, hw⟩ := hrel
    by_cases hlt : i < 3
    · obtain ⟨x, y, hx, hy, hrun⟩ := HS.out i hlt
      have K1 := Lib.hid (fun (W : World) => get_v (s := s1) (a := x) (k := y) rfl rfl (by omega) hx.2 W)
      have K2 := Lib.hid (fun (W : World) => rget_any s1 x y (by omega) W)
      have K3 := Lib.hid (fun (W : World) => getSigned_v (s := s1) (a := x) (k := y) rfl rfl (by omega) hx.2 W)
      have K4 := Lib.hid (fun (W : World) => rgetSigned_any s1 x y (by omega) W)
      have K5 := Lib.hid (fun (W : World) => field_v (s := s1) (a := x) (k := y) rfl rfl (by omega) hx.2 hy.2 W)
      have K6 := Lib.hid (fun (W : World) => rfield_any s1 x y (by omega) hx.2 hy.2 W)
      unfold gtR at K2
      unfold gsR at K4
      generalize gtV s1 x y = V at *
      generalize gtE s1 x y = E at *
      generalize gsV s1 x y = V2 at *
      generalize gsE s1 x y = E2 at *
      generalize fdS s1 x y = S3 at *
      generalize fdE s1 x y = E3 at *
      clear hx hy HS
      go_wp2_with fail
      refine (K1.out _).mono ?_; rintro e w1 ⟨rfl, rfl⟩
      go_wp2_with fail
      refine (K2.out _).mono ?_; rintro e w2 ⟨rfl, rfl⟩
      go_wp2_with fail
      refine (K3.out _).mono ?_; rintro e w3 ⟨rfl, rfl⟩
      go_wp2_with fail
      refine (K4.out _).mono ?_; rintro e w4 ⟨rfl, rfl⟩
      go_wp2_with fail
      refine (K5.out _).mono ?_; rintro e w5 ⟨rfl, rfl⟩
      go_wp2_with fail
      refine (K6.out _).mono ?_; rintro e w6 ⟨rfl, rfl⟩
      go_wp2_with fail
      go_roundw
      case rel => exact ⟨i + 1, by omega, by go_num, hw.out.alloc _⟩
      case measure => simp [intOf]; omega
    · have e3 : i = 3 := by omega
      subst e3
      clear hi hlt
      go_wp2_with fail
      refine (KW.out _).mono ?_; rintro e w9 ⟨rfl, gr⟩
      have G9 := Lib.hid (hw.out.trans gr)
      clear gr
      go_wp2_with fail
      go_ret
      exact ⟨rfl, G9.out⟩

end Go.Proofs.Ytjbjmnlckgiolaa
