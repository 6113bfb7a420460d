/- CodecSizes, CodecParts: the statements' walks. -/
import Derived.Test.YtkmbppjkgappnaaCodF
namespace Go.Proofs.Ytkmbppjkgappnaa
open Go.RowKit
theorem wf_u64 {a : Int} (h : (Lit.int .u64 a).wf = true) : 0 ≤ a ∧ a < 18446744073709551616 := by
  simp [Lit.wf, IntKind.min, IntKind.max, IntKind.signed, IntKind.bits] at h; omega
theorem wf_u8 {a : Int} (h : (Lit.int .u8 a).wf = true) : 0 ≤ a ∧ a < 256 := by
  simp [Lit.wf, IntKind.min, IntKind.max, IntKind.signed, IntKind.bits] at h; omega
def wantN (n : Nat) : Nat := if n < 253 then 1 else if n < 65536 then 3 else if n < 4294967296 then 5 else 9
theorem cmpL_want (n : Nat) : (cmpL n).length = wantN n := by
  rw [cmpL_len]
  unfold wdN wantN
  by_cases h1 : n < 253
  · simp [h1]
  by_cases h2 : n ≤ 65535
  · simp [h1, h2, show n < 65536 by omega]
  by_cases h3 : n ≤ 4294967295
  · simp [h1, h2, h3, show ¬ n < 65536 by omega, show n < 4294967296 by omega]
  · simp [h1, h2, h3, show ¬ n < 65536 by omega, show ¬ n < 4294967296 by omega]
theorem cmpL_size (n : Nat) : (ByteArray.mk (cmpL n).toArray).size = wantN n := by rw [← ba_len]; exact cmpL_want n
theorem compact_sz (n : Nat) (w : World) : Calls Try.prog 18 #[.int .u64 n] w fun e w' => ∃ s : ByteArray, Hid (s.size = wantN n) ∧ e = .returned (.string s) ∧ Below w.heap.size w w' :=
  (compact_any n w).mono fun _ _ h => ⟨_, Lib.hid (cmpL_size n), h.1, h.2⟩
theorem want_le9 {s : ByteArray} (n : Nat) (h : s.size = wantN n) : s.size ≤ 9 := by
  rw [h]; unfold wantN; split <;> (try split) <;> (try split) <;> omega
theorem want_le (a b : Nat) (h : a ≤ b) : wantN a ≤ wantN b := by rw [← cmpL_want, ← cmpL_want]; exact cmpL_mono a b h
set_option maxRecDepth 20000 in
theorem sizes_lt1 (a b : Nat) (hb : a < b) (hc : a < 253) (w : World) :
    Calls Try.prog 6 #[.int .u64 a, .int .u64 b] w fun e w' => e = .returned (.bool true) ∧ Below w.heap.size w w' := by
  have hle := want_le a b (by omega)
  have hn : wantN a = 1 := by simp [wantN, hc]
  have d4294967296 : decide ((a : Int) < 4294967296) = true := decide_eq_true (by omega)
  have d65536 : decide ((a : Int) < 65536) = true := decide_eq_true (by omega)
  have d253 : decide ((a : Int) < 253) = true := decide_eq_true (by omega)
  go_enter Try.func6, Try.ntmps6
  go_wp2_with fail
  refine (compact_sz _ _).mono ?_
  rintro e w1 ⟨s1, hs1, rfl, B1⟩
  go_wp2_with fail
  refine (compact_sz _ _).mono ?_
  rintro e w2 ⟨s2, hs2, rfl, b2⟩
  have B2 := B1.trans (b2.mono B1.size)
  clear b2 B1
  go_wp2_with fail
  refine (compact_sz _ _).mono ?_
  rintro e w3 ⟨s3, hs3, rfl, b3⟩
  have B3 := B2.trans (b3.mono B2.size)
  clear b3 B2
  have hl1 : s1.size ≤ s2.size := by rw [hs1.out, hs2.out]; exact hle
  have hl2 : s3.size = 1 := by rw [hs3.out]; exact hn
  have hl3 : s2.size ≤ 9 := want_le9 _ hs2.out
  clear hs1 hs2 hs3 hn hle hc hb
  go_wp2_with fail
  refine (shown_any _).mono ?_
  rintro e w4 ⟨rfl, b4⟩
  go_wp2
  go_ret
  exact ⟨rfl, B3.trans (b4.mono B3.size)⟩
set_option maxRecDepth 20000 in
theorem sizes_lt3 (a b : Nat) (hb : a < b) (hc : 253 ≤ a) (hd : a < 65536) (w : World) :
    Calls Try.prog 6 #[.int .u64 a, .int .u64 b] w fun e w' => e = .returned (.bool true) ∧ Below w.heap.size w w' := by
  have hle := want_le a b (by omega)
  have hn : wantN a = 3 := by simp [wantN, hd, show ¬ a < 253 by omega]
  have d4294967296 : decide ((a : Int) < 4294967296) = true := decide_eq_true (by omega)
  have d65536 : decide ((a : Int) < 65536) = true := decide_eq_true (by omega)
  have d253 : decide ((a : Int) < 253) = false := decide_eq_false (by omega)
  go_enter Try.func6, Try.ntmps6
  go_wp2_with fail
  refine (compact_sz _ _).mono ?_
  rintro e w1 ⟨s1, hs1, rfl, B1⟩
  go_wp2_with fail
  refine (compact_sz _ _).mono ?_
  rintro e w2 ⟨s2, hs2, rfl, b2⟩
  have B2 := B1.trans (b2.mono B1.size)
  clear b2 B1
  go_wp2_with fail
  refine (compact_sz _ _).mono ?_
  rintro e w3 ⟨s3, hs3, rfl, b3⟩
  have B3 := B2.trans (b3.mono B2.size)
  clear b3 B2
  have hl1 : s1.size ≤ s2.size := by rw [hs1.out, hs2.out]; exact hle
  have hl2 : s3.size = 3 := by rw [hs3.out]; exact hn
  have hl3 : s2.size ≤ 9 := want_le9 _ hs2.out
  clear hs1 hs2 hs3 hn hle hc hd hb
  go_wp2_with fail
  refine (shown_any _).mono ?_
  rintro e w4 ⟨rfl, b4⟩
  go_wp2
  go_ret
  exact ⟨rfl, B3.trans (b4.mono B3.size)⟩
set_option maxRecDepth 20000 in
theorem sizes_lt5 (a b : Nat) (hb : a < b) (hc : 65536 ≤ a) (hd : a < 4294967296) (w : World) :
    Calls Try.prog 6 #[.int .u64 a, .int .u64 b] w fun e w' => e = .returned (.bool true) ∧ Below w.heap.size w w' := by
  have hle := want_le a b (by omega)
  have hn : wantN a = 5 := by simp [wantN, hd, show ¬ a < 253 by omega, show ¬ a < 65536 by omega]
  have d4294967296 : decide ((a : Int) < 4294967296) = true := decide_eq_true (by omega)
  have d65536 : decide ((a : Int) < 65536) = false := decide_eq_false (by omega)
  have d253 : decide ((a : Int) < 253) = false := decide_eq_false (by omega)
  go_enter Try.func6, Try.ntmps6
  go_wp2_with fail
  refine (compact_sz _ _).mono ?_
  rintro e w1 ⟨s1, hs1, rfl, B1⟩
  go_wp2_with fail
  refine (compact_sz _ _).mono ?_
  rintro e w2 ⟨s2, hs2, rfl, b2⟩
  have B2 := B1.trans (b2.mono B1.size)
  clear b2 B1
  go_wp2_with fail
  refine (compact_sz _ _).mono ?_
  rintro e w3 ⟨s3, hs3, rfl, b3⟩
  have B3 := B2.trans (b3.mono B2.size)
  clear b3 B2
  have hl1 : s1.size ≤ s2.size := by rw [hs1.out, hs2.out]; exact hle
  have hl2 : s3.size = 5 := by rw [hs3.out]; exact hn
  have hl3 : s2.size ≤ 9 := want_le9 _ hs2.out
  clear hs1 hs2 hs3 hn hle hc hd hb
  go_wp2_with fail
  refine (shown_any _).mono ?_
  rintro e w4 ⟨rfl, b4⟩
  go_wp2
  go_ret
  exact ⟨rfl, B3.trans (b4.mono B3.size)⟩
set_option maxRecDepth 20000 in
theorem sizes_lt9 (a b : Nat) (hb : a < b) (hc : 4294967296 ≤ a) (w : World) :
    Calls Try.prog 6 #[.int .u64 a, .int .u64 b] w fun e w' => e = .returned (.bool true) ∧ Below w.heap.size w w' := by
  have hle := want_le a b (by omega)
  have hn : wantN a = 9 := by simp [wantN, show ¬ a < 253 by omega, show ¬ a < 65536 by omega, show ¬ a < 4294967296 by omega]
  have d4294967296 : decide ((a : Int) < 4294967296) = false := decide_eq_false (by omega)
  have d65536 : decide ((a : Int) < 65536) = false := decide_eq_false (by omega)
  have d253 : decide ((a : Int) < 253) = false := decide_eq_false (by omega)
  go_enter Try.func6, Try.ntmps6
  go_wp2_with fail
  refine (compact_sz _ _).mono ?_
  rintro e w1 ⟨s1, hs1, rfl, B1⟩
  go_wp2_with fail
  refine (compact_sz _ _).mono ?_
  rintro e w2 ⟨s2, hs2, rfl, b2⟩
  have B2 := B1.trans (b2.mono B1.size)
  clear b2 B1
  go_wp2_with fail
  refine (compact_sz _ _).mono ?_
  rintro e w3 ⟨s3, hs3, rfl, b3⟩
  have B3 := B2.trans (b3.mono B2.size)
  clear b3 B2
  have hl1 : s1.size ≤ s2.size := by rw [hs1.out, hs2.out]; exact hle
  have hl2 : s3.size = 9 := by rw [hs3.out]; exact hn
  have hl3 : s2.size ≤ 9 := want_le9 _ hs2.out
  clear hs1 hs2 hs3 hn hle hc hb
  go_wp2_with fail
  refine (shown_any _).mono ?_
  rintro e w4 ⟨rfl, b4⟩
  go_wp2
  go_ret
  exact ⟨rfl, B3.trans (b4.mono B3.size)⟩
set_option maxRecDepth 20000 in
theorem sizes_gt1 (a b : Nat) (hb : b < a) (hc : a < 253) (w : World) :
    Calls Try.prog 6 #[.int .u64 a, .int .u64 b] w fun e w' => e = .returned (.bool true) ∧ Below w.heap.size w w' := by
  have hle := want_le b a (by omega)
  have hn : wantN a = 1 := by simp [wantN, hc]
  have d4294967296 : decide ((a : Int) < 4294967296) = true := decide_eq_true (by omega)
  have d65536 : decide ((a : Int) < 65536) = true := decide_eq_true (by omega)
  have d253 : decide ((a : Int) < 253) = true := decide_eq_true (by omega)
  go_enter Try.func6, Try.ntmps6
  go_wp2_with fail
  refine (compact_sz _ _).mono ?_
  rintro e w1 ⟨s1, hs1, rfl, B1⟩
  go_wp2_with fail
  refine (compact_sz _ _).mono ?_
  rintro e w2 ⟨s2, hs2, rfl, b2⟩
  have B2 := B1.trans (b2.mono B1.size)
  clear b2 B1
  go_wp2_with fail
  refine (compact_sz _ _).mono ?_
  rintro e w3 ⟨s3, hs3, rfl, b3⟩
  have B3 := B2.trans (b3.mono B2.size)
  clear b3 B2
  have hl1 : s1.size ≤ s2.size := by rw [hs1.out, hs2.out]; exact hle
  have hl2 : s3.size = 1 := by rw [hs3.out]; exact hn
  have hl3 : s2.size ≤ 9 := want_le9 _ hs2.out
  clear hs1 hs2 hs3 hn hle hc hb
  go_wp2_with fail
  refine (shown_any _).mono ?_
  rintro e w4 ⟨rfl, b4⟩
  go_wp2
  go_ret
  exact ⟨rfl, B3.trans (b4.mono B3.size)⟩
set_option maxRecDepth 20000 in
theorem sizes_gt3 (a b : Nat) (hb : b < a) (hc : 253 ≤ a) (hd : a < 65536) (w : World) :
    Calls Try.prog 6 #[.int .u64 a, .int .u64 b] w fun e w' => e = .returned (.bool true) ∧ Below w.heap.size w w' := by
  have hle := want_le b a (by omega)
  have hn : wantN a = 3 := by simp [wantN, hd, show ¬ a < 253 by omega]
  have d4294967296 : decide ((a : Int) < 4294967296) = true := decide_eq_true (by omega)
  have d65536 : decide ((a : Int) < 65536) = true := decide_eq_true (by omega)
  have d253 : decide ((a : Int) < 253) = false := decide_eq_false (by omega)
  go_enter Try.func6, Try.ntmps6
  go_wp2_with fail
  refine (compact_sz _ _).mono ?_
  rintro e w1 ⟨s1, hs1, rfl, B1⟩
  go_wp2_with fail
  refine (compact_sz _ _).mono ?_
  rintro e w2 ⟨s2, hs2, rfl, b2⟩
  have B2 := B1.trans (b2.mono B1.size)
  clear b2 B1
  go_wp2_with fail
  refine (compact_sz _ _).mono ?_
  rintro e w3 ⟨s3, hs3, rfl, b3⟩
  have B3 := B2.trans (b3.mono B2.size)
  clear b3 B2
  have hl1 : s1.size ≤ s2.size := by rw [hs1.out, hs2.out]; exact hle
  have hl2 : s3.size = 3 := by rw [hs3.out]; exact hn
  have hl3 : s2.size ≤ 9 := want_le9 _ hs2.out
  clear hs1 hs2 hs3 hn hle hc hd hb
  go_wp2_with fail
  refine (shown_any _).mono ?_
  rintro e w4 ⟨rfl, b4⟩
  go_wp2
  go_ret
  exact ⟨rfl, B3.trans (b4.mono B3.size)⟩
set_option maxRecDepth 20000 in
theorem sizes_gt5 (a b : Nat) (hb : b < a) (hc : 65536 ≤ a) (hd : a < 4294967296) (w : World) :
    Calls Try.prog 6 #[.int .u64 a, .int .u64 b] w fun e w' => e = .returned (.bool true) ∧ Below w.heap.size w w' := by
  have hle := want_le b a (by omega)
  have hn : wantN a = 5 := by simp [wantN, hd, show ¬ a < 253 by omega, show ¬ a < 65536 by omega]
  have d4294967296 : decide ((a : Int) < 4294967296) = true := decide_eq_true (by omega)
  have d65536 : decide ((a : Int) < 65536) = false := decide_eq_false (by omega)
  have d253 : decide ((a : Int) < 253) = false := decide_eq_false (by omega)
  go_enter Try.func6, Try.ntmps6
  go_wp2_with fail
  refine (compact_sz _ _).mono ?_
  rintro e w1 ⟨s1, hs1, rfl, B1⟩
  go_wp2_with fail
  refine (compact_sz _ _).mono ?_
  rintro e w2 ⟨s2, hs2, rfl, b2⟩
  have B2 := B1.trans (b2.mono B1.size)
  clear b2 B1
  go_wp2_with fail
  refine (compact_sz _ _).mono ?_
  rintro e w3 ⟨s3, hs3, rfl, b3⟩
  have B3 := B2.trans (b3.mono B2.size)
  clear b3 B2
  have hl1 : s1.size ≤ s2.size := by rw [hs1.out, hs2.out]; exact hle
  have hl2 : s3.size = 5 := by rw [hs3.out]; exact hn
  have hl3 : s2.size ≤ 9 := want_le9 _ hs2.out
  clear hs1 hs2 hs3 hn hle hc hd hb
  go_wp2_with fail
  refine (shown_any _).mono ?_
  rintro e w4 ⟨rfl, b4⟩
  go_wp2
  go_ret
  exact ⟨rfl, B3.trans (b4.mono B3.size)⟩
set_option maxRecDepth 20000 in
theorem sizes_gt9 (a b : Nat) (hb : b < a) (hc : 4294967296 ≤ a) (w : World) :
    Calls Try.prog 6 #[.int .u64 a, .int .u64 b] w fun e w' => e = .returned (.bool true) ∧ Below w.heap.size w w' := by
  have hle := want_le b a (by omega)
  have hn : wantN a = 9 := by simp [wantN, show ¬ a < 253 by omega, show ¬ a < 65536 by omega, show ¬ a < 4294967296 by omega]
  have d4294967296 : decide ((a : Int) < 4294967296) = false := decide_eq_false (by omega)
  have d65536 : decide ((a : Int) < 65536) = false := decide_eq_false (by omega)
  have d253 : decide ((a : Int) < 253) = false := decide_eq_false (by omega)
  go_enter Try.func6, Try.ntmps6
  go_wp2_with fail
  refine (compact_sz _ _).mono ?_
  rintro e w1 ⟨s1, hs1, rfl, B1⟩
  go_wp2_with fail
  refine (compact_sz _ _).mono ?_
  rintro e w2 ⟨s2, hs2, rfl, b2⟩
  have B2 := B1.trans (b2.mono B1.size)
  clear b2 B1
  go_wp2_with fail
  refine (compact_sz _ _).mono ?_
  rintro e w3 ⟨s3, hs3, rfl, b3⟩
  have B3 := B2.trans (b3.mono B2.size)
  clear b3 B2
  have hl1 : s1.size ≤ s2.size := by rw [hs1.out, hs2.out]; exact hle
  have hl2 : s3.size = 9 := by rw [hs3.out]; exact hn
  have hl3 : s2.size ≤ 9 := want_le9 _ hs2.out
  clear hs1 hs2 hs3 hn hle hc hb
  go_wp2_with fail
  refine (shown_any _).mono ?_
  rintro e w4 ⟨rfl, b4⟩
  go_wp2
  go_ret
  exact ⟨rfl, B3.trans (b4.mono B3.size)⟩
set_option maxRecDepth 20000 in
theorem sizes_eq1 (a : Nat)  (hc : a < 253) (w : World) :
    Calls Try.prog 6 #[.int .u64 a, .int .u64 a] w fun e w' => e = .returned (.bool true) ∧ Below w.heap.size w w' := by
  have hle := want_le a a (by omega)
  have hn : wantN a = 1 := by simp [wantN, hc]
  have d4294967296 : decide ((a : Int) < 4294967296) = true := decide_eq_true (by omega)
  have d65536 : decide ((a : Int) < 65536) = true := decide_eq_true (by omega)
  have d253 : decide ((a : Int) < 253) = true := decide_eq_true (by omega)
  go_enter Try.func6, Try.ntmps6
  go_wp2_with fail
  refine (compact_sz _ _).mono ?_
  rintro e w1 ⟨s1, hs1, rfl, B1⟩
  go_wp2_with fail
  refine (compact_sz _ _).mono ?_
  rintro e w2 ⟨s2, hs2, rfl, b2⟩
  have B2 := B1.trans (b2.mono B1.size)
  clear b2 B1
  go_wp2_with fail
  refine (compact_sz _ _).mono ?_
  rintro e w3 ⟨s3, hs3, rfl, b3⟩
  have B3 := B2.trans (b3.mono B2.size)
  clear b3 B2
  have hl1 : s1.size ≤ s2.size := by rw [hs1.out, hs2.out]; exact hle
  have hl2 : s3.size = 1 := by rw [hs3.out]; exact hn
  have hl3 : s2.size ≤ 9 := want_le9 _ hs2.out
  clear hs1 hs2 hs3 hn hle hc
  go_wp2_with fail
  refine (shown_any _).mono ?_
  rintro e w4 ⟨rfl, b4⟩
  go_wp2
  go_ret
  exact ⟨rfl, B3.trans (b4.mono B3.size)⟩
set_option maxRecDepth 20000 in
theorem sizes_eq3 (a : Nat)  (hc : 253 ≤ a) (hd : a < 65536) (w : World) :
    Calls Try.prog 6 #[.int .u64 a, .int .u64 a] w fun e w' => e = .returned (.bool true) ∧ Below w.heap.size w w' := by
  have hle := want_le a a (by omega)
  have hn : wantN a = 3 := by simp [wantN, hd, show ¬ a < 253 by omega]
  have d4294967296 : decide ((a : Int) < 4294967296) = true := decide_eq_true (by omega)
  have d65536 : decide ((a : Int) < 65536) = true := decide_eq_true (by omega)
  have d253 : decide ((a : Int) < 253) = false := decide_eq_false (by omega)
  go_enter Try.func6, Try.ntmps6
  go_wp2_with fail
  refine (compact_sz _ _).mono ?_
  rintro e w1 ⟨s1, hs1, rfl, B1⟩
  go_wp2_with fail
  refine (compact_sz _ _).mono ?_
  rintro e w2 ⟨s2, hs2, rfl, b2⟩
  have B2 := B1.trans (b2.mono B1.size)
  clear b2 B1
  go_wp2_with fail
  refine (compact_sz _ _).mono ?_
  rintro e w3 ⟨s3, hs3, rfl, b3⟩
  have B3 := B2.trans (b3.mono B2.size)
  clear b3 B2
  have hl1 : s1.size ≤ s2.size := by rw [hs1.out, hs2.out]; exact hle
  have hl2 : s3.size = 3 := by rw [hs3.out]; exact hn
  have hl3 : s2.size ≤ 9 := want_le9 _ hs2.out
  clear hs1 hs2 hs3 hn hle hc hd
  go_wp2_with fail
  refine (shown_any _).mono ?_
  rintro e w4 ⟨rfl, b4⟩
  go_wp2
  go_ret
  exact ⟨rfl, B3.trans (b4.mono B3.size)⟩
set_option maxRecDepth 20000 in
theorem sizes_eq5 (a : Nat)  (hc : 65536 ≤ a) (hd : a < 4294967296) (w : World) :
    Calls Try.prog 6 #[.int .u64 a, .int .u64 a] w fun e w' => e = .returned (.bool true) ∧ Below w.heap.size w w' := by
  have hle := want_le a a (by omega)
  have hn : wantN a = 5 := by simp [wantN, hd, show ¬ a < 253 by omega, show ¬ a < 65536 by omega]
  have d4294967296 : decide ((a : Int) < 4294967296) = true := decide_eq_true (by omega)
  have d65536 : decide ((a : Int) < 65536) = false := decide_eq_false (by omega)
  have d253 : decide ((a : Int) < 253) = false := decide_eq_false (by omega)
  go_enter Try.func6, Try.ntmps6
  go_wp2_with fail
  refine (compact_sz _ _).mono ?_
  rintro e w1 ⟨s1, hs1, rfl, B1⟩
  go_wp2_with fail
  refine (compact_sz _ _).mono ?_
  rintro e w2 ⟨s2, hs2, rfl, b2⟩
  have B2 := B1.trans (b2.mono B1.size)
  clear b2 B1
  go_wp2_with fail
  refine (compact_sz _ _).mono ?_
  rintro e w3 ⟨s3, hs3, rfl, b3⟩
  have B3 := B2.trans (b3.mono B2.size)
  clear b3 B2
  have hl1 : s1.size ≤ s2.size := by rw [hs1.out, hs2.out]; exact hle
  have hl2 : s3.size = 5 := by rw [hs3.out]; exact hn
  have hl3 : s2.size ≤ 9 := want_le9 _ hs2.out
  clear hs1 hs2 hs3 hn hle hc hd
  go_wp2_with fail
  refine (shown_any _).mono ?_
  rintro e w4 ⟨rfl, b4⟩
  go_wp2
  go_ret
  exact ⟨rfl, B3.trans (b4.mono B3.size)⟩
set_option maxRecDepth 20000 in
theorem sizes_eq9 (a : Nat)  (hc : 4294967296 ≤ a) (w : World) :
    Calls Try.prog 6 #[.int .u64 a, .int .u64 a] w fun e w' => e = .returned (.bool true) ∧ Below w.heap.size w w' := by
  have hle := want_le a a (by omega)
  have hn : wantN a = 9 := by simp [wantN, show ¬ a < 253 by omega, show ¬ a < 65536 by omega, show ¬ a < 4294967296 by omega]
  have d4294967296 : decide ((a : Int) < 4294967296) = false := decide_eq_false (by omega)
  have d65536 : decide ((a : Int) < 65536) = false := decide_eq_false (by omega)
  have d253 : decide ((a : Int) < 253) = false := decide_eq_false (by omega)
  go_enter Try.func6, Try.ntmps6
  go_wp2_with fail
  refine (compact_sz _ _).mono ?_
  rintro e w1 ⟨s1, hs1, rfl, B1⟩
  go_wp2_with fail
  refine (compact_sz _ _).mono ?_
  rintro e w2 ⟨s2, hs2, rfl, b2⟩
  have B2 := B1.trans (b2.mono B1.size)
  clear b2 B1
  go_wp2_with fail
  refine (compact_sz _ _).mono ?_
  rintro e w3 ⟨s3, hs3, rfl, b3⟩
  have B3 := B2.trans (b3.mono B2.size)
  clear b3 B2
  have hl1 : s1.size ≤ s2.size := by rw [hs1.out, hs2.out]; exact hle
  have hl2 : s3.size = 9 := by rw [hs3.out]; exact hn
  have hl3 : s2.size ≤ 9 := want_le9 _ hs2.out
  clear hs1 hs2 hs3 hn hle hc
  go_wp2_with fail
  refine (shown_any _).mono ?_
  rintro e w4 ⟨rfl, b4⟩
  go_wp2
  go_ret
  exact ⟨rfl, B3.trans (b4.mono B3.size)⟩
theorem sizes_nat (a b : Nat) (w : World) :
    Calls Try.prog 6 #[.int .u64 a, .int .u64 b] w fun e w' => e = .returned (.bool true) ∧ Below w.heap.size w w' := by
  have h4 : a < 253 ∨ (253 ≤ a ∧ a < 65536) ∨ (65536 ≤ a ∧ a < 4294967296) ∨ 4294967296 ≤ a := by omega
  rcases Nat.lt_trichotomy a b with h | rfl | h
  · rcases h4 with c | ⟨c, d⟩ | ⟨c, d⟩ | c
    · exact sizes_lt1 a b h c w
    · exact sizes_lt3 a b h c d w
    · exact sizes_lt5 a b h c d w
    · exact sizes_lt9 a b h c w
  · rcases h4 with c | ⟨c, d⟩ | ⟨c, d⟩ | c
    · exact sizes_eq1 a c w
    · exact sizes_eq3 a c d w
    · exact sizes_eq5 a c d w
    · exact sizes_eq9 a c w
  · rcases h4 with c | ⟨c, d⟩ | ⟨c, d⟩ | c
    · exact sizes_gt1 a b h c w
    · exact sizes_gt3 a b h c d w
    · exact sizes_gt5 a b h c d w
    · exact sizes_gt9 a b h c w
theorem sizes_walk (a b : Int) (w : World) (ha : (Lit.int .u64 a).wf = true) (hb : (Lit.int .u64 b).wf = true) :
    Calls Try.prog 6 #[.int .u64 a, .int .u64 b] w fun e w' => e = .returned (.bool true) ∧ Below w.heap.size w w' := by
  obtain ⟨m, rfl⟩ := Int.eq_ofNat_of_zero_le (wf_u64 ha).1
  obtain ⟨n, rfl⟩ := Int.eq_ofNat_of_zero_le (wf_u64 hb).1
  exact sizes_nat m n w
theorem putL_size (n m : Nat) : (ByteArray.mk (putL n m).toArray).size = m := by rw [← ba_len]; exact putL_len n m
set_option maxRecDepth 20000 in
theorem parts_walk (n c : Int) (w : World) (hn : (Lit.int .u64 n).wf = true) (hc : (Lit.int .u8 c).wf = true) :
    Calls Try.prog 7 #[.int .u64 n, .int .u8 c] w fun e w' => e = .returned (.bool true) ∧ Below w.heap.size w w' := by
  obtain ⟨m, rfl⟩ := Int.eq_ofNat_of_zero_le (wf_u64 hn).1
  have h8 := wf_u8 hc
  obtain ⟨k, hk⟩ : ∃ k : Nat, c % 7 = k := ⟨(c % 7).toNat, by omega⟩
  have hk7 : k < 7 := by omega
  have hm := (wf_u64 hn).2
  clear hn hc
  have f1 : putF m (1 + (k : Int)) = putL m (k + 1) := by unfold putF; rw [if_neg (by omega)]; congr 1; omega
  have f2 : putF (m / 2 ^ (8 * (k + 1))) (8 - (1 + (k : Int))) = putL (m / 2 ^ (8 * (k + 1))) (8 - (k + 1)) := by unfold putF; rw [if_neg (by omega)]; congr 1; omega
  have f3 : putF m 8 = putL m 8 := rfl
  have f4 : putF m 0 = [] := rfl
  have f5 : putF m 9 = [] := rfl
  have hsh : (m : Int) / 2 ^ (8 * (1 + k)) = ((m / 2 ^ (8 * (k + 1)) : Nat) : Int) := by rw [Nat.add_comm 1 k]; push_cast; rfl
  have hadd : ∀ V, (Op.stringOp .add ⟨(putL m (k + 1)).toArray⟩ ⟨(putL (m / 2 ^ (8 * (k + 1))) (8 - (k + 1))).toArray⟩).run Try.prog V = .ok (.string ⟨(putL m 8).toArray⟩) V := fun V => by
    rw [run_string_add_lists V _ _ (by rw [putL_len]; omega) (by rw [putL_len]; omega), putL_parts m (k + 1) (by omega)]
  have HS := Lib.hid (putL_size m (k + 1))
  obtain ⟨s1, h1⟩ : ∃ s1 : ByteArray, (ByteArray.mk (putL m (k + 1)).toArray) = s1 := ⟨_, rfl⟩
  obtain ⟨s2, h2⟩ : ∃ s2 : ByteArray, (ByteArray.mk (putL (m / 2 ^ (8 * (k + 1))) (8 - (k + 1))).toArray) = s2 := ⟨_, rfl⟩
  obtain ⟨s3, h3⟩ : ∃ s3 : ByteArray, (ByteArray.mk (putL m 8).toArray) = s3 := ⟨_, rfl⟩
  rw [h1, h2, h3] at hadd
  rw [h1] at HS
  have hs1 : ((s1.size : Int) == 1 + (k : Int)) = true := beq_iff_eq.mpr (by rw [HS.out]; omega)
  have HF1 := Lib.hid (And.intro f1 h1)
  have HF2 := Lib.hid (And.intro f2 h2)
  have HF3 := Lib.hid (And.intro f3 h3)
  have HF4 := Lib.hid (And.intro f4 f5)
  have HSH := Lib.hid hsh
  clear f1 f2 f3 f4 f5 h1 h2 h3 hsh HS
  go_enter Try.func7, Try.ntmps7
  go_wp2_with fail
  refine (put_any m (1 + k) _).mono ?_
  rintro e w1 ⟨rfl, B1⟩
  rw [HF1.out.1, HF1.out.2]
  go_wp2_with fail
  rw [HSH.out]
  refine (put_any _ (8 - (1 + k)) _).mono ?_
  rintro e w2 ⟨rfl, b2⟩
  have B2 := B1.trans (b2.mono B1.size)
  clear b2 B1
  rw [HF2.out.1, HF2.out.2]
  go_wp2_with fail
  refine (put_any m 8 _).mono ?_
  rintro e w3 ⟨rfl, b3⟩
  have B3 := B2.trans (b3.mono B2.size)
  clear b3 B2
  rw [HF3.out.1, HF3.out.2]
  go_wp2_with fail
  refine (put_any m 0 _).mono ?_
  rintro e w4 ⟨rfl, b4⟩
  have B4 := B3.trans (b4.mono B3.size)
  clear b4 B3
  rw [HF4.out.1]
  go_wp2_with fail
  refine (put_any m 9 _).mono ?_
  rintro e w5 ⟨rfl, b5⟩
  have B5 := B4.trans (b5.mono B4.size)
  clear b5 B4
  rw [HF4.out.2]
  go_wp2_with fail
  refine (shown_any _).mono ?_
  rintro e w6 ⟨rfl, b6⟩
  go_wp2
  go_ret
  exact ⟨rfl, B5.trans (b6.mono B5.size)⟩
end Go.Proofs.Ytkmbppjkgappnaa
