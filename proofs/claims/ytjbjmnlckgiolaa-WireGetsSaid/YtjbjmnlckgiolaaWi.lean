/-
  The examples of the chapter of package wire.
-/
import Derived.Test.YtjbjmnlckgiolaaWh
namespace Go.Proofs.Ytjbjmnlckgiolaa
open Go.RowKit

theorem puR_v {s t : ByteArray} {n k e : Int} (h1 : puS s n k = t) (h2 : puE n k = e) : puR s n k = .returned (.tuple #[.string t, .int .i64 e]) := by unfold puR; rw [h1, h2]
theorem psR_v {s t : ByteArray} {n k e : Int} (h1 : psS s n k = t) (h2 : psE n k = e) : psR s n k = .returned (.tuple #[.string t, .int .i64 e]) := by unfold psR; rw [h1, h2]
theorem gtR_v {s : ByteArray} {a k v e : Int} (h1 : gtV s a k = v) (h2 : gtE s a k = e) : gtR s a k = .returned (.tuple #[.int .i64 v, .int .i64 e]) := by unfold gtR; rw [h1, h2]
theorem gsR_v {s : ByteArray} {a k v e : Int} (h1 : gsV s a k = v) (h2 : gsE s a k = e) : gsR s a k = .returned (.tuple #[.int .i64 v, .int .i64 e]) := by unfold gsR; rw [h1, h2]
theorem put_v {s t : ByteArray} {n k e : Int} (h1 : puS s n k = t) (h2 : puE n k = e) (hs : (s.size : Int) ≤ 1000) (hn : -9223372036854775808 ≤ n ∧ n ≤ 9223372036854775807) (w : World) :
    Calls Try.prog 8 #[.string s, .int .i64 n, .int .i64 k] w fun r w' => r = .returned (.tuple #[.string t, .int .i64 e]) ∧ Bl w w' := by
  have h := put_any s n k hs hn w; rw [puR_v h1 h2] at h; exact h
theorem putSigned_v {s t : ByteArray} {n k e : Int} (h1 : psS s n k = t) (h2 : psE n k = e) (hs : (s.size : Int) ≤ 1000) (hn : -9223372036854775808 ≤ n ∧ n ≤ 9223372036854775807) (w : World) :
    Calls Try.prog 10 #[.string s, .int .i64 n, .int .i64 k] w fun r w' => r = .returned (.tuple #[.string t, .int .i64 e]) ∧ Bl w w' := by
  have h := putSigned_any s n k hs hn w; rw [psR_v h1 h2] at h; exact h
theorem get_v {s : ByteArray} {a k v e : Int} (h1 : gtV s a k = v) (h2 : gtE s a k = e) (hs : (s.size : Int) ≤ 1000) (ha : a ≤ 9223372036854775807) (w : World) :
    Calls Try.prog 13 #[.string s, .int .i64 a, .int .i64 k] w fun r w' => r = .returned (.tuple #[.int .i64 v, .int .i64 e]) ∧ w = w' := by
  have h := get_any s a k hs ha w; rw [gtR_v h1 h2] at h; exact h
theorem getSigned_v {s : ByteArray} {a k v e : Int} (h1 : gsV s a k = v) (h2 : gsE s a k = e) (hs : (s.size : Int) ≤ 1000) (ha : a ≤ 9223372036854775807) (w : World) :
    Calls Try.prog 15 #[.string s, .int .i64 a, .int .i64 k] w fun r w' => r = .returned (.tuple #[.int .i64 v, .int .i64 e]) ∧ w = w' := by
  have h := getSigned_any s a k hs ha w; rw [gsR_v h1 h2] at h; exact h
theorem field_v {s t : ByteArray} {a k e : Int} (h1 : fdS s a k = t) (h2 : fdE s a k = e) (hs : (s.size : Int) ≤ 1000) (ha : a ≤ 9223372036854775807) (hk : k ≤ 9223372036854775807) (w : World) :
    Calls Try.prog 17 #[.string s, .int .i64 a, .int .i64 k] w fun r w' => r = .returned (.tuple #[.string t, .int .i64 e]) ∧ w = w' := by
  have h := field_any s a k hs ha hk w; rw [h1, h2] at h; exact h

set_option maxRecDepth 20000 in
theorem puts_t {s t : ByteArray} {n k : Int} (h1 : puS s n k = t) (h2 : puE n k = 0) (hs : (s.size : Int) ≤ 1000) (hn : -9223372036854775808 ≤ n ∧ n ≤ 9223372036854775807) (w : World) :
    Calls Try.prog 22 #[.string s, .int .i64 n, .int .i64 k, .string t] w fun e w' => e = .returned (.bool true) ∧ Bl w w' := by
  have K := Lib.hid (put_v h1 h2 hs hn w)
  clear h1 h2
  go_enter Try.func22, Try.ntmps22
  go_wp2_with fail
  refine K.out.mono ?_; rintro e w1 ⟨rfl, gr⟩
  have G := Lib.hid gr; clear gr
  go_wp2_with fail
  go_ret
  exact ⟨rfl, G.out⟩
set_option maxRecDepth 20000 in
theorem gets_t {s : ByteArray} {a k v : Int} (h1 : gtV s a k = v) (h2 : gtE s a k = 0) (hs : (s.size : Int) ≤ 1000) (ha : a ≤ 9223372036854775807) (w : World) :
    Calls Try.prog 19 #[.string s, .int .i64 a, .int .i64 k, .int .i64 v] w fun e w' => e = .returned (.bool true) ∧ w = w' := by
  have K := Lib.hid (get_v h1 h2 hs ha w)
  clear h1 h2
  go_enter Try.func19, Try.ntmps19
  go_wp2_with fail
  refine K.out.mono ?_; rintro e w1 ⟨rfl, rfl⟩
  go_wp2_with fail
  go_ret
  exact ⟨rfl, rfl⟩
set_option maxRecDepth 20000 in
theorem refused_t {s : ByteArray} {a k c : Int} (h1 : gtV s a k = 0) (h2 : gtE s a k = c) (hs : (s.size : Int) ≤ 1000) (ha : a ≤ 9223372036854775807) (w : World) :
    Calls Try.prog 23 #[.string s, .int .i64 a, .int .i64 k, .int .i64 c] w fun e w' => e = .returned (.bool true) ∧ w = w' := by
  have K := Lib.hid (get_v h1 h2 hs ha w)
  clear h1 h2
  go_enter Try.func23, Try.ntmps23
  go_wp2_with fail
  refine K.out.mono ?_; rintro e w1 ⟨rfl, rfl⟩
  go_wp2_with fail
  go_ret
  exact ⟨rfl, rfl⟩
set_option maxRecDepth 20000 in
theorem lfield_t {s t : ByteArray} {a k c : Int} (h1 : fdS s a k = t) (h2 : fdE s a k = c) (hs : (s.size : Int) ≤ 1000) (ha : a ≤ 9223372036854775807) (hk : k ≤ 9223372036854775807) (w : World) :
    Calls Try.prog 20 #[.string s, .int .i64 a, .int .i64 k, .string t, .int .i64 c] w fun e w' => e = .returned (.bool true) ∧ w = w' := by
  have K := Lib.hid (field_v h1 h2 hs ha hk w)
  clear h1 h2
  go_enter Try.func20, Try.ntmps20
  go_wp2_with fail
  refine K.out.mono ?_; rintro e w1 ⟨rfl, rfl⟩
  go_wp2_with fail
  go_ret
  exact ⟨rfl, rfl⟩
set_option maxRecDepth 20000 in
theorem signed_t {t : ByteArray} {n k : Int} (h1 : psS ⟨#[]⟩ n k = t) (h2 : psE n k = 0) (h3 : gsV t 0 k = n) (h4 : gsE t 0 k = 0) (hs : (t.size : Int) ≤ 1000) (hn : -9223372036854775808 ≤ n ∧ n ≤ 9223372036854775807) (w : World) :
    Calls Try.prog 21 #[.int .i64 n, .int .i64 k, .string t] w fun e w' => e = .returned (.bool true) ∧ Bl w w' := by
  have K := Lib.hid (putSigned_v h1 h2 (by decide) hn w)
  have K2 := Lib.hid (fun w => getSigned_v h3 h4 hs (by decide) w)
  clear h1 h2 h3 h4
  go_enter Try.func21, Try.ntmps21
  go_wp2_with fail
  refine K.out.mono ?_; rintro e w1 ⟨rfl, gr⟩
  have G := Lib.hid gr; clear gr
  go_wp2_with fail
  refine (K2.out _).mono ?_; rintro e w1 ⟨rfl, rfl⟩
  go_wp2_with fail
  go_ret
  exact ⟨rfl, G.out⟩

theorem ex1 : puS ⟨#[171]⟩ 258 3 = ⟨#[171, 0, 1, 2]⟩ ∧ puE 258 3 = 0 := by decide +kernel
theorem ex2 : puS ⟨#[]⟩ 256 1 = noS ∧ puE 256 1 = 6 := by decide +kernel
theorem ex3 : gtV ⟨#[171, 0, 1, 2]⟩ 1 3 = 258 ∧ gtE ⟨#[171, 0, 1, 2]⟩ 1 3 = 0 := by decide +kernel
theorem ex4 : gtV ⟨#[171]⟩ 0 2 = 0 ∧ gtE ⟨#[171]⟩ 0 2 = 5 := by decide +kernel
theorem ex5 : gtV ⟨#[171]⟩ (-1) 1 = 0 ∧ gtE ⟨#[171]⟩ (-1) 1 = 2 := by decide +kernel
theorem ex6 : gtV ⟨#[171]⟩ 0 8 = 0 ∧ gtE ⟨#[171]⟩ 0 8 = 2 := by decide +kernel
theorem ex7 : psS ⟨#[]⟩ 128 1 = noS ∧ psE 128 1 = 6 := by decide +kernel
theorem ex8 : psS ⟨#[]⟩ (-2) 2 = ⟨#[255, 254]⟩ ∧ psE (-2) 2 = 0 ∧ gsV ⟨#[255, 254]⟩ 0 2 = -2 ∧ gsE ⟨#[255, 254]⟩ 0 2 = 0 := by decide +kernel
theorem ex9 : psS ⟨#[]⟩ 127 1 = ⟨#[127]⟩ ∧ psE 127 1 = 0 ∧ gsV ⟨#[127]⟩ 0 1 = 127 ∧ gsE ⟨#[127]⟩ 0 1 = 0 := by decide +kernel
theorem ex10 : fdS ⟨#[171, 205, 239]⟩ 1 2 = ⟨#[205, 239]⟩ ∧ fdE ⟨#[171, 205, 239]⟩ 1 2 = 0 := by decide +kernel
theorem ex11 : fdS ⟨#[171]⟩ 1 0 = ⟨#[]⟩ ∧ fdE ⟨#[171]⟩ 1 0 = 0 := by decide +kernel
theorem ex12 : fdS ⟨#[171]⟩ 1 1 = ⟨#[]⟩ ∧ fdE ⟨#[171]⟩ 1 1 = 5 := by decide +kernel

set_option maxRecDepth 20000 in
set_option maxHeartbeats 1000000 in
theorem wworks_any (w : World) : Calls Try.prog 12 #[] w fun e w' => e = .returned (.bool true) ∧ Bl w w' := by
  have K1 := Lib.hid (fun w => put_v ex2.1 ex2.2 (by decide) (by decide) w)
  have K2 := Lib.hid (fun w => putSigned_v ex7.1 ex7.2 (by decide) (by decide) w)
  have K3 := Lib.hid (fun w => puts_t ex1.1 ex1.2 (by decide) (by decide) w)
  have K4 := Lib.hid (fun w => gets_t ex3.1 ex3.2 (by decide) (by decide) w)
  have K5 := Lib.hid (fun w => refused_t ex4.1 ex4.2 (by decide) (by decide) w)
  have K6 := Lib.hid (fun w => refused_t ex5.1 ex5.2 (by decide) (by decide) w)
  have K7 := Lib.hid (fun w => refused_t ex6.1 ex6.2 (by decide) (by decide) w)
  have K8 := Lib.hid (fun w => signed_t ex8.1 ex8.2.1 ex8.2.2.1 ex8.2.2.2 (by decide) (by decide) w)
  have K9 := Lib.hid (fun w => signed_t ex9.1 ex9.2.1 ex9.2.2.1 ex9.2.2.2 (by decide) (by decide) w)
  have K10 := Lib.hid (fun w => lfield_t ex10.1 ex10.2 (by decide) (by decide) (by decide) w)
  have K11 := Lib.hid (fun w => lfield_t ex11.1 ex11.2 (by decide) (by decide) (by decide) w)
  have K12 := Lib.hid (fun w => lfield_t ex12.1 ex12.2 (by decide) (by decide) (by decide) w)
  go_enter Try.func12, Try.ntmps12
  go_wp2_with fail
  refine (K1.out _).mono ?_; rintro e w1 ⟨rfl, gr⟩
  have G1 := Lib.hid gr; clear gr
  go_wp2_with fail
  refine (K2.out _).mono ?_; rintro e w2 ⟨rfl, gr⟩
  have G2 := Lib.hid (G1.out.trans gr); clear gr
  go_wp2_with fail
  refine (K3.out _).mono ?_; rintro e w3 ⟨rfl, gr⟩
  have G3 := Lib.hid (G2.out.trans gr); clear gr
  go_wp2_with fail
  refine (K4.out _).mono ?_; rintro e w4 ⟨rfl, rfl⟩
  go_wp2_with fail
  refine (K5.out _).mono ?_; rintro e w4 ⟨rfl, rfl⟩
  go_wp2_with fail
  refine (K6.out _).mono ?_; rintro e w4 ⟨rfl, rfl⟩
  go_wp2_with fail
  refine (K7.out _).mono ?_; rintro e w4 ⟨rfl, rfl⟩
  go_wp2_with fail
  refine (K8.out _).mono ?_; rintro e w4 ⟨rfl, gr⟩
  have G4 := Lib.hid (G3.out.trans gr); clear gr
  go_wp2_with fail
  refine (K9.out _).mono ?_; rintro e w5 ⟨rfl, gr⟩
  have G5 := Lib.hid (G4.out.trans gr); clear gr
  go_wp2_with fail
  refine (K10.out _).mono ?_; rintro e w6 ⟨rfl, rfl⟩
  go_wp2_with fail
  refine (K11.out _).mono ?_; rintro e w6 ⟨rfl, rfl⟩
  go_wp2_with fail
  refine (K12.out _).mono ?_; rintro e w6 ⟨rfl, rfl⟩
  go_wp2_with fail
  go_ret
  exact ⟨rfl, G5.out⟩

end Go.Proofs.Ytjbjmnlckgiolaa
