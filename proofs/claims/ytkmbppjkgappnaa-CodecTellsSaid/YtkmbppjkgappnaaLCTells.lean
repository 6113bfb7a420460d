/- CodecTells: the statement's walk. -/
import Derived.Test.YtkmbppjkgappnaaLSizes
import Derived.Test.YtkmbppjkgappnaaQuiet
namespace Go.Proofs.Ytkmbppjkgappnaa
open Go.RowKit
theorem keyF_len (l : List UInt8) : (keyF l).1.length = 32 := by
  unfold keyF
  split
  · simp
  · rename_i h; rw [List.length_take]; omega
set_option maxHeartbeats 2000000 in
theorem ctells_walk (n wd : Int) (s : ByteArray) (k : List UInt8) (w : World) (hn : (Lit.int .u64 n).wf = true) (_hwd : (Lit.int .i64 wd).wf = true) (_hs : s.size ≤ maxLen) (hk : k.length = 32) :
    Calls Try.prog 3 #[.int .u64 n, .int .i64 wd, .string s, .agg (bytesA k)] w fun e w' => e = .returned (.bool true) ∧ Below w.heap.size w w' := by
  obtain ⟨m, rfl⟩ := Int.eq_ofNat_of_zero_le (wf_u64 hn).1
  clear hn
  have HK := Lib.hid hk
  clear hk
  by_cases hlen : 1024 < s.size
  · go_enter Try.func3, Try.ntmps3
    go_wp2_with fail
    refine (shown_any _).mono ?_
    rintro e w1 ⟨rfl, b1⟩
    go_wp2
    go_ret
    exact ⟨rfl, ((Below.refl _ _).alloc (Nat.le_refl _) _).trans (b1.mono (by simp))⟩
  have hs : s.size ≤ 1000000 := by omega
  have HKL := Lib.hid (keyF_len s.data.toList)
  obtain ⟨⟨g1, g2, g3⟩, hg⟩ : ∃ r, getF s.data.toList wd = r := ⟨_, rfl⟩
  obtain ⟨⟨r1, r2, r3⟩, hr⟩ : ∃ r, readF s.data.toList = r := ⟨_, rfl⟩
  obtain ⟨⟨q1, q2, q3⟩, hq⟩ : ∃ r, keyF s.data.toList = r := ⟨_, rfl⟩
  obtain ⟨t1, ht1⟩ : ∃ t, (ByteArray.mk g2.toArray) = t := ⟨_, rfl⟩
  obtain ⟨t2, ht2⟩ : ∃ t, (ByteArray.mk r2.toArray) = t := ⟨_, rfl⟩
  obtain ⟨t3, ht3⟩ : ∃ t, (ByteArray.mk q2.toArray) = t := ⟨_, rfl⟩
  obtain ⟨t4, ht4⟩ : ∃ t, (ByteArray.mk (putF m wd).toArray) = t := ⟨_, rfl⟩
  obtain ⟨t5, ht5⟩ : ∃ t, (ByteArray.mk (cmpL m).toArray) = t := ⟨_, rfl⟩
  obtain ⟨t6, ht6⟩ : ∃ t, (ByteArray.mk k.toArray) = t := ⟨_, rfl⟩
  rw [hq] at HKL
  have HG := Lib.hid (show getV (getF s.data.toList wd) = .tuple #[.int .u64 g1, .string t1, .int .i64 g3] by rw [hg, ← ht1]; rfl)
  have HR := Lib.hid (show getV (readF s.data.toList) = .tuple #[.int .u64 r1, .string t2, .int .i64 r3] by rw [hr, ← ht2]; rfl)
  have HQ := Lib.hid (show keyV (keyF s.data.toList) = .tuple #[.agg (bytesA q1), .string t3, .int .i64 q3] by rw [hq, ← ht3]; rfl)
  have HT := Lib.hid (And.intro ht4 (And.intro ht5 ht6))
  have hL : q1.length = 32 := HKL.out
  have HL := Lib.hid hL
  have hE : ∀ V, (Op.equal 24 (.agg (bytesA q1)) (.agg (bytesA q1))).run Try.prog V = .ok true V := fun V =>
    (run_eq_bytes V Try.underlying24 Try.underlying5 (by kernel_rfl) q1 q1 hL hL).trans (by simp)
  have HE := Lib.hid hE
  clear hg hr hq ht1 ht2 ht3 ht4 ht5 ht6 HKL hL hE
  go_enter Try.func3, Try.ntmps3
  go_wp2_with fail
  refine (shown_any _).mono ?_
  rintro e w1 ⟨rfl, b1⟩
  have K7 := Lib.hid (below_blk b1 (Blk.new w 24 (bytesA k)) (by simp))
  have B1 := ((Below.refl w.heap.size w).alloc (Nat.le_refl _) (.cells (bytesA k) 24)).trans (b1.mono (by simp))
  clear b1
  go_wp2_with fail
  refine (get_any s hs wd _).mono ?_
  rintro e w2 ⟨rfl, b2⟩
  rw [HG.out]
  have B2 := B1.trans (b2.mono B1.size)
  replace K7 := Lib.hid (below_blk b2 K7.out K7.out.lt)
  clear b2 B1
  go_wp2_with fail
  refine (refGet_any s hs wd _).mono ?_
  rintro e w3 ⟨rfl, b3⟩
  rw [HG.out]
  have B3 := B2.trans (b3.mono B2.size)
  replace K7 := Lib.hid (below_blk b3 K7.out K7.out.lt)
  clear b3 B2
  go_wp2_with fail
  refine (read_any s hs _).mono ?_
  rintro e w4 ⟨rfl, b4⟩
  rw [HR.out]
  have B4 := B3.trans (b4.mono B3.size)
  replace K7 := Lib.hid (below_blk b4 K7.out K7.out.lt)
  clear b4 B3
  go_wp2_with fail
  refine (refRead_any s hs _).mono ?_
  rintro e w5 ⟨rfl, b5⟩
  rw [HR.out]
  have B5 := B4.trans (b5.mono B4.size)
  replace K7 := Lib.hid (below_blk b5 K7.out K7.out.lt)
  clear b5 B4
  go_wp2_with fail
  refine (key_any s hs _).mono ?_
  rintro e w6 ⟨rfl, b6⟩
  rw [HQ.out]
  have B6 := B5.trans (b6.mono B5.size)
  replace K7 := Lib.hid (below_blk b6 K7.out K7.out.lt)
  clear b6 B5
  go_wp2_with ((with_reducible refine at_store 21 64 ?_); refine wpList_store_arr rfl 24 (.tmp 21) (.tmp 64) rfl rfl w6.heap.size (bytesA q1) rfl rfl 24 _ (Blk.new w6 24 (bytesA (List.replicate 32 0))) (sz32 _ HL.out) (by rw [bytesA_size, bytesA_size, HL.out]; simp) (bytesA_one _) ?_; intro w7 o7 b7; have B7 : Below w.heap.size w w7 := (B6.alloc B6.size _).trans (o7.below (by simp; exact B6.size)); replace K7 := Lib.hid (o7.blk (K7.out.alloc _) (by have := K7.out.lt; simp; omega)); have K21 := Lib.hid b7; clear o7 b7 B6)
  refine (refKey_any s hs _).mono ?_
  rintro e w8 ⟨rfl, b8⟩
  rw [HQ.out]
  have B8 := B7.trans (b8.mono B7.size)
  replace K7 := Lib.hid (below_blk b8 K7.out K7.out.lt)
  replace K21 := Lib.hid (below_blk b8 K21.out K21.out.lt)
  clear b8 B7
  go_wp2_with ((with_reducible refine at_store 24 70 ?_); refine wpList_store_arr rfl 24 (.tmp 24) (.tmp 70) rfl rfl w8.heap.size (bytesA q1) rfl rfl 24 _ (Blk.new w8 24 (bytesA (List.replicate 32 0))) (sz32 _ HL.out) (by rw [bytesA_size, bytesA_size, HL.out]; simp) (bytesA_one _) ?_; intro w9 o9 b9; have B9 : Below w.heap.size w w9 := (B8.alloc B8.size _).trans (o9.below (by simp; exact B8.size)); replace K7 := Lib.hid (o9.blk (K7.out.alloc _) (by have := K7.out.lt; simp; omega)); replace K21 := Lib.hid (o9.blk (K21.out.alloc _) (by have := K21.out.lt; simp; omega)); have K24 := Lib.hid b9; clear o9 b9 B8)
  refine wp_region_from (by kernel_rfl) (by kernel_rfl) ?_
  simp only [List.append_eq, List.cons_append, List.nil_append]
  repeat (first
    | ((with_reducible refine at_qload 21 ?_); refine wpQuiet_load_row (by rfl) 24 (.tmp 21) rfl w6.heap.size rfl 24 (bytesA q1) _ (fun _ hC => below_blk hC.below K21.out K21.out.lt) Try.underlying24 rfl (sz32 _ HL.out) ?_; simp only [Act.put, List.setIfInBounds_toArray, List.set_cons_succ, List.set_cons_zero])
    | ((with_reducible refine at_qload 24 ?_); refine wpQuiet_load_row (by rfl) 24 (.tmp 24) rfl w8.heap.size rfl 24 (bytesA q1) _ (fun _ hC => below_blk hC.below K24.out K24.out.lt) Try.underlying24 rfl (sz32 _ HL.out) ?_; simp only [Act.put, List.setIfInBounds_toArray, List.set_cons_succ, List.set_cons_zero])
    | ((with_reducible refine at_qload 7 ?_); refine wpQuiet_load_row (by rfl) 24 (.tmp 7) rfl w.heap.size rfl 24 (bytesA k) _ (fun _ hC => below_blk hC.below K7.out K7.out.lt) Try.underlying24 rfl (sz32 _ HK.out) ?_; simp only [Act.put, List.setIfInBounds_toArray, List.set_cons_succ, List.set_cons_zero])
    | ((with_reducible refine at_qeql 102 103 ?_); refine wpQuiet_eql_row (by rfl) 24 24 (.tmp 102) (.tmp 103) rfl (bytesA q1) (bytesA q1) rfl rfl (by kernel_rfl) true HE.out ?_; simp only [Act.put, List.setIfInBounds_toArray, List.set_cons_succ, List.set_cons_zero])
    | (go_big_quiet_want; go_big_quiet_op; refine ⟨_, fun _ _ => by with_reducible rfl, ?_⟩; go_big_quiet_on)
    | go_big_quiet_step ((intro hC; first
        | (go_at_call 16; with_reducible exact (put_any m wd _).mono fun _ _ h => ⟨h.1, hC.call h.2⟩)
        | (go_at_call 17; with_reducible exact (refPut_any m wd _).mono fun _ _ h => ⟨h.1, hC.call h.2⟩)
        | (go_at_call 18; with_reducible exact (compact_any m _).mono fun _ _ h => ⟨h.1, hC.call h.2⟩)
        | (go_at_call 19; with_reducible exact (refCompact_any m _).mono fun _ _ h => ⟨h.1, hC.call h.2⟩)
        | (go_at_call 20; with_reducible exact (bytes_any k HK.out _).mono fun _ _ h => ⟨h.1, hC.call h.2⟩)
        | (go_at_call 21; with_reducible exact (refBytes_any k HK.out _).mono fun _ _ h => ⟨h.1, hC.call h.2⟩))))
  refine wpQuiet_nil ?_
  intro w10 hC
  go_wp2_with fail
  go_ret
  exact ⟨rfl, B9.trans (hC.below.mono B9.size)⟩
end Go.Proofs.Ytkmbppjkgappnaa
