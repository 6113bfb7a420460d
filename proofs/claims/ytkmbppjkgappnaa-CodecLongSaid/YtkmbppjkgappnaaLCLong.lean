/- CodecLong: the statement's walk. -/
import Derived.Test.YtkmbppjkgappnaaLCBack
namespace Go.Proofs.Ytkmbppjkgappnaa
open Go.RowKit
theorem wf_u32' {a : Int} (h : (Lit.int .u32 a).wf = true) : 0 ≤ a ∧ a < 4294967296 := by
  simp [Lit.wf, IntKind.min, IntKind.max, IntKind.signed, IntKind.bits] at h; omega
set_option maxRecDepth 20000 in
set_option maxHeartbeats 2000000 in
theorem clong_nat (n : Nat) (s : ByteArray) (w : World) (hn : n < 4294967296) (_hs : s.size ≤ maxLen) :
    Calls Try.prog 8 #[.int .u32 n, .string s] w fun e w' => e = .returned (.bool true) ∧ Below w.heap.size w w' := by
  by_cases hlen : 200 < s.size
  · go_enter Try.func8, Try.ntmps8
    go_wp2_with fail
    refine (shown_any _).mono ?_
    rintro e w1 ⟨rfl, b1⟩
    go_wp2
    go_ret
    exact ⟨rfl, b1⟩
  obtain ⟨x1, hx1⟩ : ∃ x, (n % 253) = x := ⟨_, rfl⟩
  have f1 : putF x1 2 = putL x1 2 := rfl
  have c1 : ∀ V, (Op.stringOp .add ⟨[253].toArray⟩ ⟨(putL x1 2).toArray⟩).run Try.prog V = .ok (.string ⟨(253 :: putL x1 2).toArray⟩) V := fun V => run_string_add_lists V [253] _ (by decide) (by rw [putL_len]; decide)
  have a1 := run_add_s (253 :: putL x1 2) s (by rw [List.length_cons, putL_len]; omega) (by omega)
  have r1 : readF (253 :: putL x1 2 ++ s.data.toList) = (0, [], 31) := readF_long 253 2 x1 _ (by decide) rfl (by omega) (by unfold wdN; split <;> (try split) <;> (try split) <;> omega)
  obtain ⟨p1, hp1⟩ : ∃ t, (ByteArray.mk (putL x1 2).toArray) = t := ⟨_, rfl⟩
  obtain ⟨q1, hq1⟩ : ∃ t, (ByteArray.mk (253 :: putL x1 2).toArray) = t := ⟨_, rfl⟩
  obtain ⟨t1, ht1⟩ : ∃ t, (ByteArray.mk (253 :: putL x1 2 ++ s.data.toList).toArray) = t := ⟨_, rfl⟩
  have z1 : t1.size ≤ 1000000 := by rw [← ba_len, ← ht1]; show (253 :: putL x1 2 ++ s.data.toList).length ≤ 1000000; rw [List.length_append, List.length_cons, putL_len, ba_len]; omega
  have g1 : getV (readF t1.data.toList) = .tuple #[.int .u64 0, .string ⟨#[]⟩, .int .i64 31] := by rw [← ht1]; show getV (readF (253 :: putL x1 2 ++ s.data.toList)) = _; rw [r1]; rfl
  rw [hp1, hq1] at c1
  rw [hq1, ht1] at a1
  have F1 := Lib.hid (And.intro f1 (And.intro hp1 (And.intro z1 g1)))
  clear f1 r1 hp1 hq1 ht1 z1 g1
  obtain ⟨x2, hx2⟩ : ∃ x, (n % 65536) = x := ⟨_, rfl⟩
  have f2 : putF x2 4 = putL x2 4 := rfl
  have c2 : ∀ V, (Op.stringOp .add ⟨[254].toArray⟩ ⟨(putL x2 4).toArray⟩).run Try.prog V = .ok (.string ⟨(254 :: putL x2 4).toArray⟩) V := fun V => run_string_add_lists V [254] _ (by decide) (by rw [putL_len]; decide)
  have a2 := run_add_s (254 :: putL x2 4) s (by rw [List.length_cons, putL_len]; omega) (by omega)
  have r2 : readF (254 :: putL x2 4 ++ s.data.toList) = (0, [], 31) := readF_long 254 4 x2 _ (by decide) rfl (by omega) (by unfold wdN; split <;> (try split) <;> (try split) <;> omega)
  obtain ⟨p2, hp2⟩ : ∃ t, (ByteArray.mk (putL x2 4).toArray) = t := ⟨_, rfl⟩
  obtain ⟨q2, hq2⟩ : ∃ t, (ByteArray.mk (254 :: putL x2 4).toArray) = t := ⟨_, rfl⟩
  obtain ⟨t2, ht2⟩ : ∃ t, (ByteArray.mk (254 :: putL x2 4 ++ s.data.toList).toArray) = t := ⟨_, rfl⟩
  have z2 : t2.size ≤ 1000000 := by rw [← ba_len, ← ht2]; show (254 :: putL x2 4 ++ s.data.toList).length ≤ 1000000; rw [List.length_append, List.length_cons, putL_len, ba_len]; omega
  have g2 : getV (readF t2.data.toList) = .tuple #[.int .u64 0, .string ⟨#[]⟩, .int .i64 31] := by rw [← ht2]; show getV (readF (254 :: putL x2 4 ++ s.data.toList)) = _; rw [r2]; rfl
  rw [hp2, hq2] at c2
  rw [hq2, ht2] at a2
  have F2 := Lib.hid (And.intro f2 (And.intro hp2 (And.intro z2 g2)))
  clear f2 r2 hp2 hq2 ht2 z2 g2
  obtain ⟨x3, hx3⟩ : ∃ x, n = x := ⟨_, rfl⟩
  have f3 : putF x3 8 = putL x3 8 := rfl
  have c3 : ∀ V, (Op.stringOp .add ⟨[255].toArray⟩ ⟨(putL x3 8).toArray⟩).run Try.prog V = .ok (.string ⟨(255 :: putL x3 8).toArray⟩) V := fun V => run_string_add_lists V [255] _ (by decide) (by rw [putL_len]; decide)
  have a3 := run_add_s (255 :: putL x3 8) s (by rw [List.length_cons, putL_len]; omega) (by omega)
  have r3 : readF (255 :: putL x3 8 ++ s.data.toList) = (0, [], 31) := readF_long 255 8 x3 _ (by decide) rfl (by omega) (by unfold wdN; split <;> (try split) <;> (try split) <;> omega)
  obtain ⟨p3, hp3⟩ : ∃ t, (ByteArray.mk (putL x3 8).toArray) = t := ⟨_, rfl⟩
  obtain ⟨q3, hq3⟩ : ∃ t, (ByteArray.mk (255 :: putL x3 8).toArray) = t := ⟨_, rfl⟩
  obtain ⟨t3, ht3⟩ : ∃ t, (ByteArray.mk (255 :: putL x3 8 ++ s.data.toList).toArray) = t := ⟨_, rfl⟩
  have z3 : t3.size ≤ 1000000 := by rw [← ba_len, ← ht3]; show (255 :: putL x3 8 ++ s.data.toList).length ≤ 1000000; rw [List.length_append, List.length_cons, putL_len, ba_len]; omega
  have g3 : getV (readF t3.data.toList) = .tuple #[.int .u64 0, .string ⟨#[]⟩, .int .i64 31] := by rw [← ht3]; show getV (readF (255 :: putL x3 8 ++ s.data.toList)) = _; rw [r3]; rfl
  rw [hp3, hq3] at c3
  rw [hq3, ht3] at a3
  have F3 := Lib.hid (And.intro f3 (And.intro hp3 (And.intro z3 g3)))
  clear f3 r3 hp3 hq3 ht3 z3 g3
  have e1 : (n : Int) % 253 = (x1 : Int) := by omega
  have e2 : (n : Int) % 65536 = (x2 : Int) := by omega
  have e3 : (n : Int) = (x3 : Int) := by omega
  have e0 : IntKind.u64.wrap (n : Int) = (n : Int) := by rw [IntKind.wrap_u64]; omega
  subst hx3
  clear hx1 hx2 e3
  go_enter Try.func8, Try.ntmps8
  go_wp2_with fail
  refine (shown_any _).mono ?_
  rintro e w1 ⟨rfl, B1⟩
  go_wp2_with fail
  refine (put_any x1 2 _).mono ?_
  rintro e w2 ⟨rfl, b2⟩
  rw [F1.out.1, F1.out.2.1]
  have B2 := B1.trans (b2.mono B1.size)
  clear b2 B1
  go_wp2_with fail
  refine (put_any x2 4 _).mono ?_
  rintro e w3 ⟨rfl, b3⟩
  rw [F2.out.1, F2.out.2.1]
  have B3 := B2.trans (b3.mono B2.size)
  clear b3 B2
  go_wp2_with fail
  refine (put_any n 8 _).mono ?_
  rintro e w4 ⟨rfl, b4⟩
  rw [F3.out.1, F3.out.2.1]
  have B4 := B3.trans (b4.mono B3.size)
  clear b4 B3
  go_wp2_with fail
  refine (read_any t1 F1.out.2.2.1 _).mono ?_
  rintro e w5 ⟨rfl, b5⟩
  rw [F1.out.2.2.2]
  have B5 := B4.trans (b5.mono B4.size)
  clear b5 B4
  go_wp2_with fail
  refine (read_any t2 F2.out.2.2.1 _).mono ?_
  rintro e w6 ⟨rfl, b6⟩
  rw [F2.out.2.2.2]
  have B6 := B5.trans (b6.mono B5.size)
  clear b6 B5
  go_wp2_with fail
  refine (read_any t3 F3.out.2.2.1 _).mono ?_
  rintro e w7 ⟨rfl, b7⟩
  rw [F3.out.2.2.2]
  have B7 := B6.trans (b7.mono B6.size)
  clear b7 B6
  go_wp2_with fail
  go_ret
  exact ⟨rfl, B7⟩
theorem clong_walk (n : Int) (s : ByteArray) (w : World) (hn : (Lit.int .u32 n).wf = true) (hs : s.size ≤ maxLen) :
    Calls Try.prog 8 #[.int .u32 n, .string s] w fun e w' => e = .returned (.bool true) ∧ Below w.heap.size w w' := by
  obtain ⟨m, rfl⟩ := Int.eq_ofNat_of_zero_le (wf_u32' hn).1
  exact clong_nat m s w (by have := (wf_u32' hn).2; omega) hs
end Go.Proofs.Ytkmbppjkgappnaa
