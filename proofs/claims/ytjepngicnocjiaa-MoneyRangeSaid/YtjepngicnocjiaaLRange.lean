/- MoneyRange: the statement's walk (written by genRange.py, a case each). -/
import Derived.Test.YtjepngicnocjiaaMonS
namespace Go.Proofs.Ytjepngicnocjiaa
open Go.RowKit
theorem addO_right (a : Int) : addO a 0 = if mayB a then some a else none := by
  unfold addO
  cases h : mayB a <;> simp [h, show mayB 0 = true by decide]
theorem addO_left (a : Int) : addO 0 a = if mayB a then some a else none := by
  unfold addO
  cases h : mayB a <;> simp [h, show mayB 0 = true by decide]
theorem subO_right (a : Int) : subO a 0 = if mayB a then some a else none := by
  unfold subO
  cases h : mayB a <;> simp [h, show mayB 0 = true by decide]
theorem fee_left (a : Int) : feeO [a] [] 0 = if mayB a then some a else none := by
  unfold feeO
  rw [sum_one]
  cases h : mayB a
  · rfl
  · simp [sumO, addO_right, subO_right, h]
theorem fee_right (a : Int) : feeO [2100000000000000] [a] 0 = if mayB a then some (2100000000000000 - a) else none := by
  unfold feeO
  rw [sum_one, sum_one]
  have h1 : mayB 2100000000000000 = true := by decide
  cases h : mayB a
  · simp [h1]
  · have := mayB_yes h
    have h2 : mayB (2100000000000000 - a) = true := mayB_mk (by omega)
    simp [h1, addO_right, subO, h, h2]
theorem fee_bare (b : Int) : feeO [] [] b = if mayB b then some b else none := by
  unfold feeO
  simp only [sumO]
  by_cases hb : 0 ≤ b
  · rw [if_pos hb, addO_left]
    cases h : mayB b
    · rfl
    · simp [subO_right, h]
  · rw [if_neg hb, addO_left]
    have h : mayB b = false := mayB_mk_no (by omega)
    rw [h]
    cases h2 : mayB (-b)
    · rfl
    · simp [subO, h2, h]
set_option maxHeartbeats 2000000 in
theorem range_lo_no (a b : Int) (w : World) (_h1 : a < 0) (ha : mayB a = false) (hb : mayB b = false) (hbb : -9223372036854775808 ≤ b ∧ b ≤ 9223372036854775807) :
    Calls Try.prog 7 #[.int .i64 a, .int .i64 b] w fun e w' => e = .returned (.bool true) ∧ Below w.heap.size w w' := by
  have E1 := Lib.hid ((addO_right a).trans (by rw [ha]; rfl : _ = none))
  have E2 := Lib.hid ((subO_right a).trans (by rw [ha]; rfl : _ = none))
  have E3 := Lib.hid ((sum_one a).trans (by rw [ha]; rfl : _ = none))
  have E4 := Lib.hid ((fee_left a).trans (by rw [ha]; rfl : _ = none))
  have E5 := Lib.hid ((fee_right a).trans (by rw [ha]; rfl : _ = none))
  have E6 := Lib.hid ((fee_bare b).trans (by rw [hb]; rfl : _ = none))
  have HA := Lib.hid ha
  have HB := Lib.hid hb
  have HBB := Lib.hid hbb
  clear ha hb hbb
  go_enter Try.func7, Try.ntmps7
  go_wp2_with fail
  refine (add_any a 0 _).mono ?_
  rintro e w1 ⟨rfl, B1⟩
  rw [E1.out]
  simp only [resO, valO, errO, Option.getD_none]
  go_wp2_with fail
  refine (sub_any a 0 _).mono ?_
  rintro e w2 ⟨rfl, b2⟩
  have B2 := B1.trans (b2.mono B1.size)
  clear b2 B1
  rw [E2.out]
  simp only [resO, valO, errO, Option.getD_none]
  go_wp2_with fail
  have C2 : Below w.heap.size w (w2.alloc (.cells #[.int .i64 a] 2)) := B2.alloc B2.size _
  refine (gsum_any [a] _ _ _ (w2.heap.size + 1) _ (reads_blk (t := 2) (Blk.new w2 _ _) (by omega) rfl) (by simp) (by simp [maxLen])).mono ?_
  rintro e w3 ⟨rfl, b3⟩
  have B3 := C2.trans (b3.mono C2.size)
  clear b3 B2 C2
  rw [E3.out]
  simp only [resO, valO, errO, Option.getD_none]
  go_wp2_with fail
  have C3 : Below w.heap.size w (w3.alloc (.cells #[.int .i64 a] 2)) := B3.alloc B3.size _
  refine (fee_any [a] [] _ none _ _ 0 0 (w3.heap.size + 1) 0 _ (reads_blk (t := 2) (Blk.new w3 _ _) (by omega) rfl) Reads.none_ (by simp) (by simp [maxLen]) (by simp [maxLen]) (by omega)).mono ?_
  rintro e w4 ⟨rfl, b4⟩
  have B4 := C3.trans (b4.mono C3.size)
  clear b4 B3 C3
  rw [E4.out]
  simp only [resO, valO, errO, Option.getD_none]
  go_wp2_with fail
  have C4 : Below w.heap.size w ((w4.alloc (.cells #[.int .i64 2100000000000000] 2)).alloc (.cells #[.int .i64 a] 2)) := (B4.alloc B4.size _).alloc (by have := B4.size; simp; omega) _
  refine (fee_any [2100000000000000] [a] _ _ _ _ _ _ (w4.heap.size + 2) 0 _ (reads_blk (t := 2) ((Blk.new w4 _ _).alloc _) (by omega) rfl) (reads_blk (t := 2) (blk_new (g := w4.heap.size + 1) _ _ (by simp)) (by omega) rfl) (by simp) (by simp [maxLen]) (by simp [maxLen]) (by omega)).mono ?_
  rintro e w5 ⟨rfl, b5⟩
  have B5 := C4.trans (b5.mono C4.size)
  clear b5 B4 C4
  rw [E5.out]
  simp only [resO, valO, errO, Option.getD_none]
  go_wp2_with fail
  refine (fee_any [] [] none none 0 0 0 0 0 b _ Reads.none_ Reads.none_ (by omega) (by simp [maxLen]) (by simp [maxLen]) HBB.out).mono ?_
  rintro e w6 ⟨rfl, b6⟩
  have B6 := B5.trans (b6.mono B5.size)
  clear b6 B5
  rw [E6.out]
  simp only [resO, valO, errO, Option.getD_none]
  go_wp2_with fail
  refine (may_no a HA.out _).mono ?_
  rintro e w' ⟨rfl, rfl⟩
  go_wp2_with fail
  refine (may_no b HB.out _).mono ?_
  rintro e w' ⟨rfl, rfl⟩
  go_wp2_with fail
  refine (shown_any _).mono ?_
  rintro e w7 ⟨rfl, b7⟩
  have B7 := B6.trans (b7.mono B6.size)
  clear b7 B6
  go_wp2
  go_ret
  exact ⟨rfl, B7⟩
set_option maxHeartbeats 2000000 in
theorem range_lo_yes (a b : Int) (w : World) (_h1 : a < 0) (ha : mayB a = false) (hb : mayB b = true) (hbb : -9223372036854775808 ≤ b ∧ b ≤ 9223372036854775807) :
    Calls Try.prog 7 #[.int .i64 a, .int .i64 b] w fun e w' => e = .returned (.bool true) ∧ Below w.heap.size w w' := by
  have E1 := Lib.hid ((addO_right a).trans (by rw [ha]; rfl : _ = none))
  have E2 := Lib.hid ((subO_right a).trans (by rw [ha]; rfl : _ = none))
  have E3 := Lib.hid ((sum_one a).trans (by rw [ha]; rfl : _ = none))
  have E4 := Lib.hid ((fee_left a).trans (by rw [ha]; rfl : _ = none))
  have E5 := Lib.hid ((fee_right a).trans (by rw [ha]; rfl : _ = none))
  have E6 := Lib.hid ((fee_bare b).trans (by rw [hb]; rfl : _ = some b))
  have HA := Lib.hid ha
  have HB := Lib.hid hb
  have HBB := Lib.hid hbb
  clear ha hb hbb
  go_enter Try.func7, Try.ntmps7
  go_wp2_with fail
  refine (add_any a 0 _).mono ?_
  rintro e w1 ⟨rfl, B1⟩
  rw [E1.out]
  simp only [resO, valO, errO, Option.getD_none]
  go_wp2_with fail
  refine (sub_any a 0 _).mono ?_
  rintro e w2 ⟨rfl, b2⟩
  have B2 := B1.trans (b2.mono B1.size)
  clear b2 B1
  rw [E2.out]
  simp only [resO, valO, errO, Option.getD_none]
  go_wp2_with fail
  have C2 : Below w.heap.size w (w2.alloc (.cells #[.int .i64 a] 2)) := B2.alloc B2.size _
  refine (gsum_any [a] _ _ _ (w2.heap.size + 1) _ (reads_blk (t := 2) (Blk.new w2 _ _) (by omega) rfl) (by simp) (by simp [maxLen])).mono ?_
  rintro e w3 ⟨rfl, b3⟩
  have B3 := C2.trans (b3.mono C2.size)
  clear b3 B2 C2
  rw [E3.out]
  simp only [resO, valO, errO, Option.getD_none]
  go_wp2_with fail
  have C3 : Below w.heap.size w (w3.alloc (.cells #[.int .i64 a] 2)) := B3.alloc B3.size _
  refine (fee_any [a] [] _ none _ _ 0 0 (w3.heap.size + 1) 0 _ (reads_blk (t := 2) (Blk.new w3 _ _) (by omega) rfl) Reads.none_ (by simp) (by simp [maxLen]) (by simp [maxLen]) (by omega)).mono ?_
  rintro e w4 ⟨rfl, b4⟩
  have B4 := C3.trans (b4.mono C3.size)
  clear b4 B3 C3
  rw [E4.out]
  simp only [resO, valO, errO, Option.getD_none]
  go_wp2_with fail
  have C4 : Below w.heap.size w ((w4.alloc (.cells #[.int .i64 2100000000000000] 2)).alloc (.cells #[.int .i64 a] 2)) := (B4.alloc B4.size _).alloc (by have := B4.size; simp; omega) _
  refine (fee_any [2100000000000000] [a] _ _ _ _ _ _ (w4.heap.size + 2) 0 _ (reads_blk (t := 2) ((Blk.new w4 _ _).alloc _) (by omega) rfl) (reads_blk (t := 2) (blk_new (g := w4.heap.size + 1) _ _ (by simp)) (by omega) rfl) (by simp) (by simp [maxLen]) (by simp [maxLen]) (by omega)).mono ?_
  rintro e w5 ⟨rfl, b5⟩
  have B5 := C4.trans (b5.mono C4.size)
  clear b5 B4 C4
  rw [E5.out]
  simp only [resO, valO, errO, Option.getD_none]
  go_wp2_with fail
  refine (fee_any [] [] none none 0 0 0 0 0 b _ Reads.none_ Reads.none_ (by omega) (by simp [maxLen]) (by simp [maxLen]) HBB.out).mono ?_
  rintro e w6 ⟨rfl, b6⟩
  have B6 := B5.trans (b6.mono B5.size)
  clear b6 B5
  rw [E6.out]
  simp only [resO, valO, errO, Option.getD_some]
  go_wp2_with fail
  refine (may_no a HA.out _).mono ?_
  rintro e w' ⟨rfl, rfl⟩
  go_wp2_with fail
  refine (may_yes b HB.out _).mono ?_
  rintro e w' ⟨rfl, rfl⟩
  go_wp2_with fail
  refine (shown_any _).mono ?_
  rintro e w7 ⟨rfl, b7⟩
  have B7 := B6.trans (b7.mono B6.size)
  clear b7 B6
  go_wp2
  go_ret
  exact ⟨rfl, B7⟩
set_option maxHeartbeats 2000000 in
theorem range_hi_no (a b : Int) (w : World) (_h0 : 0 ≤ a) (_h1 : decide (a ≤ 2100000000000000) = false) (ha : mayB a = false) (hb : mayB b = false) (hbb : -9223372036854775808 ≤ b ∧ b ≤ 9223372036854775807) :
    Calls Try.prog 7 #[.int .i64 a, .int .i64 b] w fun e w' => e = .returned (.bool true) ∧ Below w.heap.size w w' := by
  have E1 := Lib.hid ((addO_right a).trans (by rw [ha]; rfl : _ = none))
  have E2 := Lib.hid ((subO_right a).trans (by rw [ha]; rfl : _ = none))
  have E3 := Lib.hid ((sum_one a).trans (by rw [ha]; rfl : _ = none))
  have E4 := Lib.hid ((fee_left a).trans (by rw [ha]; rfl : _ = none))
  have E5 := Lib.hid ((fee_right a).trans (by rw [ha]; rfl : _ = none))
  have E6 := Lib.hid ((fee_bare b).trans (by rw [hb]; rfl : _ = none))
  have HA := Lib.hid ha
  have HB := Lib.hid hb
  have HBB := Lib.hid hbb
  clear ha hb hbb
  go_enter Try.func7, Try.ntmps7
  go_wp2_with fail
  refine (add_any a 0 _).mono ?_
  rintro e w1 ⟨rfl, B1⟩
  rw [E1.out]
  simp only [resO, valO, errO, Option.getD_none]
  go_wp2_with fail
  refine (sub_any a 0 _).mono ?_
  rintro e w2 ⟨rfl, b2⟩
  have B2 := B1.trans (b2.mono B1.size)
  clear b2 B1
  rw [E2.out]
  simp only [resO, valO, errO, Option.getD_none]
  go_wp2_with fail
  have C2 : Below w.heap.size w (w2.alloc (.cells #[.int .i64 a] 2)) := B2.alloc B2.size _
  refine (gsum_any [a] _ _ _ (w2.heap.size + 1) _ (reads_blk (t := 2) (Blk.new w2 _ _) (by omega) rfl) (by simp) (by simp [maxLen])).mono ?_
  rintro e w3 ⟨rfl, b3⟩
  have B3 := C2.trans (b3.mono C2.size)
  clear b3 B2 C2
  rw [E3.out]
  simp only [resO, valO, errO, Option.getD_none]
  go_wp2_with fail
  have C3 : Below w.heap.size w (w3.alloc (.cells #[.int .i64 a] 2)) := B3.alloc B3.size _
  refine (fee_any [a] [] _ none _ _ 0 0 (w3.heap.size + 1) 0 _ (reads_blk (t := 2) (Blk.new w3 _ _) (by omega) rfl) Reads.none_ (by simp) (by simp [maxLen]) (by simp [maxLen]) (by omega)).mono ?_
  rintro e w4 ⟨rfl, b4⟩
  have B4 := C3.trans (b4.mono C3.size)
  clear b4 B3 C3
  rw [E4.out]
  simp only [resO, valO, errO, Option.getD_none]
  go_wp2_with fail
  have C4 : Below w.heap.size w ((w4.alloc (.cells #[.int .i64 2100000000000000] 2)).alloc (.cells #[.int .i64 a] 2)) := (B4.alloc B4.size _).alloc (by have := B4.size; simp; omega) _
  refine (fee_any [2100000000000000] [a] _ _ _ _ _ _ (w4.heap.size + 2) 0 _ (reads_blk (t := 2) ((Blk.new w4 _ _).alloc _) (by omega) rfl) (reads_blk (t := 2) (blk_new (g := w4.heap.size + 1) _ _ (by simp)) (by omega) rfl) (by simp) (by simp [maxLen]) (by simp [maxLen]) (by omega)).mono ?_
  rintro e w5 ⟨rfl, b5⟩
  have B5 := C4.trans (b5.mono C4.size)
  clear b5 B4 C4
  rw [E5.out]
  simp only [resO, valO, errO, Option.getD_none]
  go_wp2_with fail
  refine (fee_any [] [] none none 0 0 0 0 0 b _ Reads.none_ Reads.none_ (by omega) (by simp [maxLen]) (by simp [maxLen]) HBB.out).mono ?_
  rintro e w6 ⟨rfl, b6⟩
  have B6 := B5.trans (b6.mono B5.size)
  clear b6 B5
  rw [E6.out]
  simp only [resO, valO, errO, Option.getD_none]
  go_wp2_with fail
  refine (may_no a HA.out _).mono ?_
  rintro e w' ⟨rfl, rfl⟩
  go_wp2_with fail
  refine (may_no b HB.out _).mono ?_
  rintro e w' ⟨rfl, rfl⟩
  go_wp2_with fail
  refine (shown_any _).mono ?_
  rintro e w7 ⟨rfl, b7⟩
  have B7 := B6.trans (b7.mono B6.size)
  clear b7 B6
  go_wp2
  go_ret
  exact ⟨rfl, B7⟩
set_option maxHeartbeats 2000000 in
theorem range_hi_yes (a b : Int) (w : World) (_h0 : 0 ≤ a) (_h1 : decide (a ≤ 2100000000000000) = false) (ha : mayB a = false) (hb : mayB b = true) (hbb : -9223372036854775808 ≤ b ∧ b ≤ 9223372036854775807) :
    Calls Try.prog 7 #[.int .i64 a, .int .i64 b] w fun e w' => e = .returned (.bool true) ∧ Below w.heap.size w w' := by
  have E1 := Lib.hid ((addO_right a).trans (by rw [ha]; rfl : _ = none))
  have E2 := Lib.hid ((subO_right a).trans (by rw [ha]; rfl : _ = none))
  have E3 := Lib.hid ((sum_one a).trans (by rw [ha]; rfl : _ = none))
  have E4 := Lib.hid ((fee_left a).trans (by rw [ha]; rfl : _ = none))
  have E5 := Lib.hid ((fee_right a).trans (by rw [ha]; rfl : _ = none))
  have E6 := Lib.hid ((fee_bare b).trans (by rw [hb]; rfl : _ = some b))
  have HA := Lib.hid ha
  have HB := Lib.hid hb
  have HBB := Lib.hid hbb
  clear ha hb hbb
  go_enter Try.func7, Try.ntmps7
  go_wp2_with fail
  refine (add_any a 0 _).mono ?_
  rintro e w1 ⟨rfl, B1⟩
  rw [E1.out]
  simp only [resO, valO, errO, Option.getD_none]
  go_wp2_with fail
  refine (sub_any a 0 _).mono ?_
  rintro e w2 ⟨rfl, b2⟩
  have B2 := B1.trans (b2.mono B1.size)
  clear b2 B1
  rw [E2.out]
  simp only [resO, valO, errO, Option.getD_none]
  go_wp2_with fail
  have C2 : Below w.heap.size w (w2.alloc (.cells #[.int .i64 a] 2)) := B2.alloc B2.size _
  refine (gsum_any [a] _ _ _ (w2.heap.size + 1) _ (reads_blk (t := 2) (Blk.new w2 _ _) (by omega) rfl) (by simp) (by simp [maxLen])).mono ?_
  rintro e w3 ⟨rfl, b3⟩
  have B3 := C2.trans (b3.mono C2.size)
  clear b3 B2 C2
  rw [E3.out]
  simp only [resO, valO, errO, Option.getD_none]
  go_wp2_with fail
  have C3 : Below w.heap.size w (w3.alloc (.cells #[.int .i64 a] 2)) := B3.alloc B3.size _
  refine (fee_any [a] [] _ none _ _ 0 0 (w3.heap.size + 1) 0 _ (reads_blk (t := 2) (Blk.new w3 _ _) (by omega) rfl) Reads.none_ (by simp) (by simp [maxLen]) (by simp [maxLen]) (by omega)).mono ?_
  rintro e w4 ⟨rfl, b4⟩
  have B4 := C3.trans (b4.mono C3.size)
  clear b4 B3 C3
  rw [E4.out]
  simp only [resO, valO, errO, Option.getD_none]
  go_wp2_with fail
  have C4 : Below w.heap.size w ((w4.alloc (.cells #[.int .i64 2100000000000000] 2)).alloc (.cells #[.int .i64 a] 2)) := (B4.alloc B4.size _).alloc (by have := B4.size; simp; omega) _
  refine (fee_any [2100000000000000] [a] _ _ _ _ _ _ (w4.heap.size + 2) 0 _ (reads_blk (t := 2) ((Blk.new w4 _ _).alloc _) (by omega) rfl) (reads_blk (t := 2) (blk_new (g := w4.heap.size + 1) _ _ (by simp)) (by omega) rfl) (by simp) (by simp [maxLen]) (by simp [maxLen]) (by omega)).mono ?_
  rintro e w5 ⟨rfl, b5⟩
  have B5 := C4.trans (b5.mono C4.size)
  clear b5 B4 C4
  rw [E5.out]
  simp only [resO, valO, errO, Option.getD_none]
  go_wp2_with fail
  refine (fee_any [] [] none none 0 0 0 0 0 b _ Reads.none_ Reads.none_ (by omega) (by simp [maxLen]) (by simp [maxLen]) HBB.out).mono ?_
  rintro e w6 ⟨rfl, b6⟩
  have B6 := B5.trans (b6.mono B5.size)
  clear b6 B5
  rw [E6.out]
  simp only [resO, valO, errO, Option.getD_some]
  go_wp2_with fail
  refine (may_no a HA.out _).mono ?_
  rintro e w' ⟨rfl, rfl⟩
  go_wp2_with fail
  refine (may_yes b HB.out _).mono ?_
  rintro e w' ⟨rfl, rfl⟩
  go_wp2_with fail
  refine (shown_any _).mono ?_
  rintro e w7 ⟨rfl, b7⟩
  have B7 := B6.trans (b7.mono B6.size)
  clear b7 B6
  go_wp2
  go_ret
  exact ⟨rfl, B7⟩
set_option maxHeartbeats 2000000 in
theorem range_in_no (a b : Int) (w : World) (_h0 : 0 ≤ a) (_h1 : a ≤ 2100000000000000) (ha : mayB a = true) (hb : mayB b = false) (hbb : -9223372036854775808 ≤ b ∧ b ≤ 9223372036854775807) :
    Calls Try.prog 7 #[.int .i64 a, .int .i64 b] w fun e w' => e = .returned (.bool true) ∧ Below w.heap.size w w' := by
  have E1 := Lib.hid ((addO_right a).trans (by rw [ha]; rfl : _ = some a))
  have E2 := Lib.hid ((subO_right a).trans (by rw [ha]; rfl : _ = some a))
  have E3 := Lib.hid ((sum_one a).trans (by rw [ha]; rfl : _ = some a))
  have E4 := Lib.hid ((fee_left a).trans (by rw [ha]; rfl : _ = some a))
  have E5 := Lib.hid ((fee_right a).trans (by rw [ha]; rfl : _ = some (2100000000000000 - a)))
  have E6 := Lib.hid ((fee_bare b).trans (by rw [hb]; rfl : _ = none))
  have HA := Lib.hid ha
  have HB := Lib.hid hb
  have HBB := Lib.hid hbb
  clear ha hb hbb
  go_enter Try.func7, Try.ntmps7
  go_wp2_with fail
  refine (add_any a 0 _).mono ?_
  rintro e w1 ⟨rfl, B1⟩
  rw [E1.out]
  simp only [resO, valO, errO, Option.getD_some]
  go_wp2_with fail
  refine (sub_any a 0 _).mono ?_
  rintro e w2 ⟨rfl, b2⟩
  have B2 := B1.trans (b2.mono B1.size)
  clear b2 B1
  rw [E2.out]
  simp only [resO, valO, errO, Option.getD_some]
  go_wp2_with fail
  have C2 : Below w.heap.size w (w2.alloc (.cells #[.int .i64 a] 2)) := B2.alloc B2.size _
  refine (gsum_any [a] _ _ _ (w2.heap.size + 1) _ (reads_blk (t := 2) (Blk.new w2 _ _) (by omega) rfl) (by simp) (by simp [maxLen])).mono ?_
  rintro e w3 ⟨rfl, b3⟩
  have B3 := C2.trans (b3.mono C2.size)
  clear b3 B2 C2
  rw [E3.out]
  simp only [resO, valO, errO, Option.getD_some]
  go_wp2_with fail
  have C3 : Below w.heap.size w (w3.alloc (.cells #[.int .i64 a] 2)) := B3.alloc B3.size _
  refine (fee_any [a] [] _ none _ _ 0 0 (w3.heap.size + 1) 0 _ (reads_blk (t := 2) (Blk.new w3 _ _) (by omega) rfl) Reads.none_ (by simp) (by simp [maxLen]) (by simp [maxLen]) (by omega)).mono ?_
  rintro e w4 ⟨rfl, b4⟩
  have B4 := C3.trans (b4.mono C3.size)
  clear b4 B3 C3
  rw [E4.out]
  simp only [resO, valO, errO, Option.getD_some]
  go_wp2_with fail
  have C4 : Below w.heap.size w ((w4.alloc (.cells #[.int .i64 2100000000000000] 2)).alloc (.cells #[.int .i64 a] 2)) := (B4.alloc B4.size _).alloc (by have := B4.size; simp; omega) _
  refine (fee_any [2100000000000000] [a] _ _ _ _ _ _ (w4.heap.size + 2) 0 _ (reads_blk (t := 2) ((Blk.new w4 _ _).alloc _) (by omega) rfl) (reads_blk (t := 2) (blk_new (g := w4.heap.size + 1) _ _ (by simp)) (by omega) rfl) (by simp) (by simp [maxLen]) (by simp [maxLen]) (by omega)).mono ?_
  rintro e w5 ⟨rfl, b5⟩
  have B5 := C4.trans (b5.mono C4.size)
  clear b5 B4 C4
  rw [E5.out]
  simp only [resO, valO, errO, Option.getD_some]
  go_wp2_with fail
  refine (fee_any [] [] none none 0 0 0 0 0 b _ Reads.none_ Reads.none_ (by omega) (by simp [maxLen]) (by simp [maxLen]) HBB.out).mono ?_
  rintro e w6 ⟨rfl, b6⟩
  have B6 := B5.trans (b6.mono B5.size)
  clear b6 B5
  rw [E6.out]
  simp only [resO, valO, errO, Option.getD_none]
  go_wp2_with fail
  refine (may_yes a HA.out _).mono ?_
  rintro e w' ⟨rfl, rfl⟩
  go_wp2_with fail
  refine (may_no b HB.out _).mono ?_
  rintro e w' ⟨rfl, rfl⟩
  go_wp2_with fail
  refine (shown_any _).mono ?_
  rintro e w7 ⟨rfl, b7⟩
  have B7 := B6.trans (b7.mono B6.size)
  clear b7 B6
  go_wp2
  go_ret
  exact ⟨rfl, B7⟩
set_option maxHeartbeats 2000000 in
theorem range_in_yes (a b : Int) (w : World) (_h0 : 0 ≤ a) (_h1 : a ≤ 2100000000000000) (ha : mayB a = true) (hb : mayB b = true) (hbb : -9223372036854775808 ≤ b ∧ b ≤ 9223372036854775807) :
    Calls Try.prog 7 #[.int .i64 a, .int .i64 b] w fun e w' => e = .returned (.bool true) ∧ Below w.heap.size w w' := by
  have E1 := Lib.hid ((addO_right a).trans (by rw [ha]; rfl : _ = some a))
  have E2 := Lib.hid ((subO_right a).trans (by rw [ha]; rfl : _ = some a))
  have E3 := Lib.hid ((sum_one a).trans (by rw [ha]; rfl : _ = some a))
  have E4 := Lib.hid ((fee_left a).trans (by rw [ha]; rfl : _ = some a))
  have E5 := Lib.hid ((fee_right a).trans (by rw [ha]; rfl : _ = some (2100000000000000 - a)))
  have E6 := Lib.hid ((fee_bare b).trans (by rw [hb]; rfl : _ = some b))
  have HA := Lib.hid ha
  have HB := Lib.hid hb
  have HBB := Lib.hid hbb
  clear ha hb hbb
  go_enter Try.func7, Try.ntmps7
  go_wp2_with fail
  refine (add_any a 0 _).mono ?_
  rintro e w1 ⟨rfl, B1⟩
  rw [E1.out]
  simp only [resO, valO, errO, Option.getD_some]
  go_wp2_with fail
  refine (sub_any a 0 _).mono ?_
  rintro e w2 ⟨rfl, b2⟩
  have B2 := B1.trans (b2.mono B1.size)
  clear b2 B1
  rw [E2.out]
  simp only [resO, valO, errO, Option.getD_some]
  go_wp2_with fail
  have C2 : Below w.heap.size w (w2.alloc (.cells #[.int .i64 a] 2)) := B2.alloc B2.size _
  refine (gsum_any [a] _ _ _ (w2.heap.size + 1) _ (reads_blk (t := 2) (Blk.new w2 _ _) (by omega) rfl) (by simp) (by simp [maxLen])).mono ?_
  rintro e w3 ⟨rfl, b3⟩
  have B3 := C2.trans (b3.mono C2.size)
  clear b3 B2 C2
  rw [E3.out]
  simp only [resO, valO, errO, Option.getD_some]
  go_wp2_with fail
  have C3 : Below w.heap.size w (w3.alloc (.cells #[.int .i64 a] 2)) := B3.alloc B3.size _
  refine (fee_any [a] [] _ none _ _ 0 0 (w3.heap.size + 1) 0 _ (reads_blk (t := 2) (Blk.new w3 _ _) (by omega) rfl) Reads.none_ (by simp) (by simp [maxLen]) (by simp [maxLen]) (by omega)).mono ?_
  rintro e w4 ⟨rfl, b4⟩
  have B4 := C3.trans (b4.mono C3.size)
  clear b4 B3 C3
  rw [E4.out]
  simp only [resO, valO, errO, Option.getD_some]
  go_wp2_with fail
  have C4 : Below w.heap.size w ((w4.alloc (.cells #[.int .i64 2100000000000000] 2)).alloc (.cells #[.int .i64 a] 2)) := (B4.alloc B4.size _).alloc (by have := B4.size; simp; omega) _
  refine (fee_any [2100000000000000] [a] _ _ _ _ _ _ (w4.heap.size + 2) 0 _ (reads_blk (t := 2) ((Blk.new w4 _ _).alloc _) (by omega) rfl) (reads_blk (t := 2) (blk_new (g := w4.heap.size + 1) _ _ (by simp)) (by omega) rfl) (by simp) (by simp [maxLen]) (by simp [maxLen]) (by omega)).mono ?_
  rintro e w5 ⟨rfl, b5⟩
  have B5 := C4.trans (b5.mono C4.size)
  clear b5 B4 C4
  rw [E5.out]
  simp only [resO, valO, errO, Option.getD_some]
  go_wp2_with fail
  refine (fee_any [] [] none none 0 0 0 0 0 b _ Reads.none_ Reads.none_ (by omega) (by simp [maxLen]) (by simp [maxLen]) HBB.out).mono ?_
  rintro e w6 ⟨rfl, b6⟩
  have B6 := B5.trans (b6.mono B5.size)
  clear b6 B5
  rw [E6.out]
  simp only [resO, valO, errO, Option.getD_some]
  go_wp2_with fail
  refine (may_yes a HA.out _).mono ?_
  rintro e w' ⟨rfl, rfl⟩
  go_wp2_with fail
  refine (may_yes b HB.out _).mono ?_
  rintro e w' ⟨rfl, rfl⟩
  go_wp2_with fail
  refine (shown_any _).mono ?_
  rintro e w7 ⟨rfl, b7⟩
  have B7 := B6.trans (b7.mono B6.size)
  clear b7 B6
  go_wp2
  go_ret
  exact ⟨rfl, B7⟩
theorem range_walk (a b : Int) (w : World) (_ha : (Lit.int .i64 a).wf = true) (hb : (Lit.int .i64 b).wf = true) :
    Calls Try.prog 7 #[.int .i64 a, .int .i64 b] w fun e w' => e = .returned (.bool true) ∧ Below w.heap.size w w' := by
  have hbb : -9223372036854775808 ≤ b ∧ b ≤ 9223372036854775807 := by simp [Lit.wf, IntKind.min, IntKind.max, IntKind.signed, IntKind.bits] at hb; omega
  by_cases h0 : a < 0
  · have ha := mayB_mk_no (.inl h0)
    cases hm : mayB b
    · exact range_lo_no a b w h0 ha hm hbb
    · exact range_lo_yes a b w h0 ha hm hbb
  by_cases h1 : a ≤ 2100000000000000
  · have ha := mayB_mk (a := a) ⟨by omega, h1⟩
    cases hm : mayB b
    · exact range_in_no a b w (by omega) h1 ha hm hbb
    · exact range_in_yes a b w (by omega) h1 ha hm hbb
  · have ha := mayB_mk_no (a := a) (.inr (by omega))
    have hd : decide (a ≤ 2100000000000000) = false := by simpa using h1
    cases hm : mayB b
    · exact range_hi_no a b w (by omega) hd ha hm hbb
    · exact range_hi_yes a b w (by omega) hd ha hm hbb
end Go.Proofs.Ytjepngicnocjiaa
