/- CodecBack: the statement's walk. -/
import Derived.Test.YtkmbppjkgappnaaLSizes
namespace Go.Proofs.Ytkmbppjkgappnaa
open Go.RowKit
theorem ba_mk (s : ByteArray) : ByteArray.mk s.data.toList.toArray = s := by
  apply ByteArray.ext; rw [Array.toArray_toList]
theorem run_add_s (l : List UInt8) (s : ByteArray) (h1 : l.length ≤ 1000) (h2 : s.size ≤ 1000000) (V : World) : (Op.stringOp .add ⟨l.toArray⟩ s).run Try.prog V = .ok (.string ⟨(l ++ s.data.toList).toArray⟩) V := by
  have h := run_string_add_lists (P := Try.prog) V l s.data.toList (by omega) (by rw [ba_len]; omega)
  rw [ba_mk] at h
  exact h
set_option maxRecDepth 20000 in
set_option maxHeartbeats 2000000 in
theorem cback_nat (m j c : Nat) (s : ByteArray) (k : List UInt8) (w : World) (hm : m < 2 ^ 64) (_hs : s.size ≤ maxLen) (hk : k.length = 32) (hj : c % 8 = j) (hc : c < 256) :
    Calls Try.prog 4 #[.int .u64 m, .int .u8 c, .string s, .agg (bytesA k)] w fun e w' => e = .returned (.bool true) ∧ Below w.heap.size w w' := by
  have HK := Lib.hid hk
  by_cases hlen : 1024 < s.size
  · go_enter Try.func4, Try.ntmps4
    go_wp2_with fail
    refine (shown_any _).mono ?_
    rintro e w1 ⟨rfl, b1⟩
    go_wp2
    go_ret
    exact ⟨rfl, ((Below.refl _ _).alloc (Nat.le_refl _) _).trans (b1.mono (by simp))⟩
  have hs : s.size ≤ 1000000 := by omega
  have hj8 : j < 8 := by omega
  have e1 : (c : Int) % 8 = j := by omega
  have HJ := Lib.hid hj
  clear hj
  have a1 := run_add_s (putL m (j + 1)) s (by rw [putL_len]; omega) hs
  have a2 := run_add_s (cmpL m) s (by rw [cmpL_want]; unfold wantN; split <;> (try split) <;> (try split) <;> omega) hs
  have a3 := run_add_s k s (by omega) hs
  obtain ⟨t1, h1⟩ : ∃ t, (ByteArray.mk (putL m (j + 1) ++ s.data.toList).toArray) = t := ⟨_, rfl⟩
  obtain ⟨t2, h2⟩ : ∃ t, (ByteArray.mk (cmpL m ++ s.data.toList).toArray) = t := ⟨_, rfl⟩
  obtain ⟨t3, h3⟩ : ∃ t, (ByteArray.mk (k ++ s.data.toList).toArray) = t := ⟨_, rfl⟩
  have d1 : t1.data.toList = putL m (j + 1) ++ s.data.toList := by rw [← h1]
  have d2 : t2.data.toList = cmpL m ++ s.data.toList := by rw [← h2]
  have d3 : t3.data.toList = k ++ s.data.toList := by rw [← h3]
  have s1 : t1.size ≤ 1000000 := by rw [← ba_len, d1, List.length_append, putL_len, ba_len]; omega
  have s2 : t2.size ≤ 1000000 := by
    have hw : wantN m ≤ 9 := by unfold wantN; split <;> (try split) <;> (try split) <;> omega
    rw [← ba_len, d2, List.length_append, cmpL_want, ba_len]; omega
  have s3 : t3.size ≤ 1000000 := by rw [← ba_len, d3, List.length_append, ba_len]; omega
  rw [h1] at a1
  rw [h2] at a2
  rw [h3] at a3
  have g1 : getF t1.data.toList ((j : Int) + 1) = (m % 2 ^ (8 * (j + 1)), s.data.toList, 0) := by
    rw [d1, show (j : Int) + 1 = ((j + 1 : Nat) : Int) by omega]; exact getF_put m (j + 1) _ (by omega) (by omega)
  have g2 : readF t2.data.toList = (m, s.data.toList, 0) := by rw [d2]; exact readF_cmp m _ hm
  have g3 : keyF t3.data.toList = (k, s.data.toList, 0) := by rw [d3]; exact keyF_put k _ hk
  have f1 : putF m ((j : Int) + 1) = putL m (j + 1) := by unfold putF; rw [if_neg (by omega)]; congr 1
  obtain ⟨u1, v1⟩ : ∃ t, (ByteArray.mk (putL m (j + 1)).toArray) = t := ⟨_, rfl⟩
  obtain ⟨u2, v2⟩ : ∃ t, (ByteArray.mk (cmpL m).toArray) = t := ⟨_, rfl⟩
  obtain ⟨u3, v3⟩ : ∃ t, (ByteArray.mk k.toArray) = t := ⟨_, rfl⟩
  rw [v1] at a1
  rw [v2] at a2
  rw [v3] at a3
  have HF := Lib.hid (And.intro f1 (And.intro v1 (And.intro v2 v3)))
  have hE : ∀ V, (Op.equal 24 (.agg (bytesA k)) (.agg (bytesA k))).run Try.prog V = .ok true V := fun V =>
    (run_eq_bytes V Try.underlying24 Try.underlying5 (by kernel_rfl) k k hk hk).trans (by simp)
  have G1 := Lib.hid (show getV (getF t1.data.toList ((j : Int) + 1)) = .tuple #[.int .u64 ((m : Int) % 2 ^ (8 * (j + 1))), .string s, .int .i64 0] by rw [g1]; unfold getV; rw [ba_mk, Int.natCast_emod, Int.natCast_pow]; rfl)
  have G2 := Lib.hid (show getV (readF t2.data.toList) = .tuple #[.int .u64 m, .string s, .int .i64 0] by rw [g2]; unfold getV; rw [ba_mk])
  have G3 := Lib.hid (show keyV (keyF t3.data.toList) = .tuple #[.agg (bytesA k), .string s, .int .i64 0] by rw [g3]; unfold keyV; rw [ba_mk])
  have HE := Lib.hid hE
  have h7 : ¬ j < 7 → (2 : Int) ^ (8 * (j + 1)) = 18446744073709551616 := fun h => by rw [show j = 7 by omega]; rfl
  clear h1 h2 h3 d1 d2 d3 g1 g2 g3 f1 v1 v2 v3 hE hk
  have S1 := Lib.hid (And.intro s1 (And.intro s2 s3))
  clear s1 s2 s3
  by_cases hj7 : j < 7
  · clear h7 hm
    have hw : IntKind.u64.wrap ((2 : Int) ^ (8 * (j + 1))) = (2 : Int) ^ (8 * (j + 1)) := by
      have h2 : 2 ^ (8 * (j + 1)) < 2 ^ 64 := Nat.pow_lt_pow_right (by omega) (by omega)
      rw [show (2 : Int) ^ (8 * (j + 1)) = ((2 ^ (8 * (j + 1)) : Nat) : Int) by push_cast; rfl, IntKind.wrap_u64]
      generalize (2 ^ (8 * (j + 1)) : Nat) = P at h2 ⊢
      have h3 : P < 18446744073709551616 := h2
      omega
    have hq1 : ¬ (2 : Int) ^ (8 * (j + 1)) = 0 := Int.ne_of_gt (Int.pow_pos (by decide))
    have hq2 : ¬ (2 : Nat) ^ (8 * (j + 1)) = 0 := Nat.ne_of_gt (Nat.pow_pos (by decide))
    have e2 : decide ((j : Int) + 1 < 8) = true := decide_eq_true (by omega)
    go_enter Try.func4, Try.ntmps4
    go_wp2_with fail
    refine (shown_any _).mono ?_
    rintro e w1 ⟨rfl, b1⟩
    have K7 := Lib.hid (below_blk b1 (Blk.new w 24 (bytesA k)) (by simp))
    have B1 := ((Below.refl w.heap.size w).alloc (Nat.le_refl _) (.cells (bytesA k) 24)).trans (b1.mono (by simp))
    clear b1
    go_wp2_with fail
    refine (put_any m (j + 1) _).mono ?_
    rintro e w2 ⟨rfl, b2⟩
    rw [HF.out.1, HF.out.2.1]
    have B2 := B1.trans (b2.mono B1.size)
    replace K7 := Lib.hid (below_blk b2 K7.out K7.out.lt)
    clear b2 B1
    go_wp2_with fail
    refine (get_any t1 S1.out.1 (j + 1) _).mono ?_
    rintro e w3 ⟨rfl, b3⟩
    rw [G1.out]
    have B3 := B2.trans (b3.mono B2.size)
    replace K7 := Lib.hid (below_blk b3 K7.out K7.out.lt)
    clear b3 B2
    go_wp2_with fail
    refine (compact_any m _).mono ?_
    rintro e w4 ⟨rfl, b4⟩
    rw [HF.out.2.2.1]
    have B4 := B3.trans (b4.mono B3.size)
    replace K7 := Lib.hid (below_blk b4 K7.out K7.out.lt)
    clear b4 B3
    go_wp2_with fail
    refine (read_any t2 S1.out.2.1 _).mono ?_
    rintro e w5 ⟨rfl, b5⟩
    rw [G2.out]
    have B5 := B4.trans (b5.mono B4.size)
    replace K7 := Lib.hid (below_blk b5 K7.out K7.out.lt)
    clear b5 B4
    go_wp2_with ((with_reducible refine at_loadg 7 ?_); refine wpList_load_rowg (by rfl) 24 (.tmp 7) rfl w.heap.size rfl 24 (bytesA k) _ K7.out Try.underlying24 rfl (sz32 _ HK.out) ?_)
    refine (bytes_any k HK.out _).mono ?_
    rintro e w6 ⟨rfl, b6⟩
    rw [HF.out.2.2.2]
    have B6 := B5.trans (b6.mono B5.size)
    replace K7 := Lib.hid (below_blk b6 K7.out K7.out.lt)
    clear b6 B5
    go_wp2_with fail
    refine (key_any t3 S1.out.2.2 _).mono ?_
    rintro e w7 ⟨rfl, b7⟩
    rw [G3.out]
    have B7 := B6.trans (b7.mono B6.size)
    replace K7 := Lib.hid (below_blk b7 K7.out K7.out.lt)
    clear b7 B6
    go_wp2_with (first
      | ((with_reducible refine at_store 17 66 ?_); refine wpList_store_arr rfl 24 (.tmp 17) (.tmp 66) rfl rfl w7.heap.size (bytesA k) rfl rfl 24 _ (Blk.new w7 24 (bytesA (List.replicate 32 0))) (sz32 _ HK.out) (by rw [bytesA_size, bytesA_size, HK.out]; simp) (bytesA_one _) ?_; intro w8 o8 b8; have B8 : Below w.heap.size w w8 := (B7.alloc B7.size _).trans (o8.below (by simp; exact B7.size)); replace K7 := Lib.hid (o8.blk (K7.out.alloc _) (by have := K7.out.lt; simp; omega)); have K17 := Lib.hid b8; clear o8 b8 B7)
      | ((with_reducible refine at_loadg 7 ?_); refine wpList_load_rowg (by rfl) 24 (.tmp 7) rfl w.heap.size rfl 24 (bytesA k) _ K7.out Try.underlying24 rfl (sz32 _ HK.out) ?_)
      | ((with_reducible refine at_loadg 17 ?_); refine wpList_load_rowg (by rfl) 24 (.tmp 17) rfl w7.heap.size rfl 24 (bytesA k) _ K17.out Try.underlying24 rfl (sz32 _ HK.out) ?_)
      | ((with_reducible refine at_eqlg 96 97 ?_); refine wpList_eql_rowg (by rfl) 24 _ (.tmp 96) (.tmp 97) rfl (bytesA k) (bytesA k) rfl rfl (by kernel_rfl) true HE.out ?_))
    go_ret
    exact ⟨rfl, B8⟩
  · have h7 := h7 hj7
    rw [h7] at G1
    have e3 : (m : Int) % 18446744073709551616 = m := by omega
    rw [e3] at G1
    clear h7 hm e3
    have e2 : decide ((j : Int) + 1 < 8) = false := decide_eq_false (by omega)
    go_enter Try.func4, Try.ntmps4
    go_wp2_with fail
    refine (shown_any _).mono ?_
    rintro e w1 ⟨rfl, b1⟩
    have K7 := Lib.hid (below_blk b1 (Blk.new w 24 (bytesA k)) (by simp))
    have B1 := ((Below.refl w.heap.size w).alloc (Nat.le_refl _) (.cells (bytesA k) 24)).trans (b1.mono (by simp))
    clear b1
    go_wp2_with fail
    refine (put_any m (j + 1) _).mono ?_
    rintro e w2 ⟨rfl, b2⟩
    rw [HF.out.1, HF.out.2.1]
    have B2 := B1.trans (b2.mono B1.size)
    replace K7 := Lib.hid (below_blk b2 K7.out K7.out.lt)
    clear b2 B1
    go_wp2_with fail
    refine (get_any t1 S1.out.1 (j + 1) _).mono ?_
    rintro e w3 ⟨rfl, b3⟩
    rw [G1.out]
    have B3 := B2.trans (b3.mono B2.size)
    replace K7 := Lib.hid (below_blk b3 K7.out K7.out.lt)
    clear b3 B2
    go_wp2_with fail
    refine (compact_any m _).mono ?_
    rintro e w4 ⟨rfl, b4⟩
    rw [HF.out.2.2.1]
    have B4 := B3.trans (b4.mono B3.size)
    replace K7 := Lib.hid (below_blk b4 K7.out K7.out.lt)
    clear b4 B3
    go_wp2_with fail
    refine (read_any t2 S1.out.2.1 _).mono ?_
    rintro e w5 ⟨rfl, b5⟩
    rw [G2.out]
    have B5 := B4.trans (b5.mono B4.size)
    replace K7 := Lib.hid (below_blk b5 K7.out K7.out.lt)
    clear b5 B4
    go_wp2_with ((with_reducible refine at_loadg 7 ?_); refine wpList_load_rowg (by rfl) 24 (.tmp 7) rfl w.heap.size rfl 24 (bytesA k) _ K7.out Try.underlying24 rfl (sz32 _ HK.out) ?_)
    refine (bytes_any k HK.out _).mono ?_
    rintro e w6 ⟨rfl, b6⟩
    rw [HF.out.2.2.2]
    have B6 := B5.trans (b6.mono B5.size)
    replace K7 := Lib.hid (below_blk b6 K7.out K7.out.lt)
    clear b6 B5
    go_wp2_with fail
    refine (key_any t3 S1.out.2.2 _).mono ?_
    rintro e w7 ⟨rfl, b7⟩
    rw [G3.out]
    have B7 := B6.trans (b7.mono B6.size)
    replace K7 := Lib.hid (below_blk b7 K7.out K7.out.lt)
    clear b7 B6
    go_wp2_with (first
      | ((with_reducible refine at_store 17 66 ?_); refine wpList_store_arr rfl 24 (.tmp 17) (.tmp 66) rfl rfl w7.heap.size (bytesA k) rfl rfl 24 _ (Blk.new w7 24 (bytesA (List.replicate 32 0))) (sz32 _ HK.out) (by rw [bytesA_size, bytesA_size, HK.out]; simp) (bytesA_one _) ?_; intro w8 o8 b8; have B8 : Below w.heap.size w w8 := (B7.alloc B7.size _).trans (o8.below (by simp; exact B7.size)); replace K7 := Lib.hid (o8.blk (K7.out.alloc _) (by have := K7.out.lt; simp; omega)); have K17 := Lib.hid b8; clear o8 b8 B7)
      | ((with_reducible refine at_loadg 7 ?_); refine wpList_load_rowg (by rfl) 24 (.tmp 7) rfl w.heap.size rfl 24 (bytesA k) _ K7.out Try.underlying24 rfl (sz32 _ HK.out) ?_)
      | ((with_reducible refine at_loadg 17 ?_); refine wpList_load_rowg (by rfl) 24 (.tmp 17) rfl w7.heap.size rfl 24 (bytesA k) _ K17.out Try.underlying24 rfl (sz32 _ HK.out) ?_)
      | ((with_reducible refine at_eqlg 96 97 ?_); refine wpList_eql_rowg (by rfl) 24 _ (.tmp 96) (.tmp 97) rfl (bytesA k) (bytesA k) rfl rfl (by kernel_rfl) true HE.out ?_))
    go_ret
    exact ⟨rfl, B8⟩
theorem cback_walk (n c : Int) (s : ByteArray) (k : List UInt8) (w : World) (hn : (Lit.int .u64 n).wf = true) (hc : (Lit.int .u8 c).wf = true) (hs : s.size ≤ maxLen) (hk : k.length = 32) :
    Calls Try.prog 4 #[.int .u64 n, .int .u8 c, .string s, .agg (bytesA k)] w fun e w' => e = .returned (.bool true) ∧ Below w.heap.size w w' := by
  obtain ⟨m, rfl⟩ := Int.eq_ofNat_of_zero_le (wf_u64 hn).1
  obtain ⟨j, rfl⟩ := Int.eq_ofNat_of_zero_le (wf_u8 hc).1
  exact cback_nat m (j % 8) j s k w (by have := (wf_u64 hn).2; omega) hs hk rfl (by have := (wf_u8 hc).2; omega)
end Go.Proofs.Ytkmbppjkgappnaa
