/- CoinsOrder: the statement's walk. Written by genLCoO.py. -/
import Derived.Test.YtkjgmhamglhggaaCoiT
namespace Go.Proofs.Ytkjgmhamglhggaa
open Go.RowKit
set_option maxRecDepth 20000 in
set_option maxHeartbeats 2000000 in
theorem rising_any (HLE : LessOk) (A : Option Addr) (c : Nat) (l : List CoinV) (w : World) (hl : RowIn encC 68 w w.heap.size A c l) (hn : l.length ≤ 100000) (hr : RisesC CoinV.at_ ltP l) :
    Calls Try.prog 23 #[.slice A l.length c] w fun e w' => e = .returned (.bool true) ∧ Below w.heap.size w w' := by
  unfold LessOk at HLE
  have HL := Lib.hid HLE
  have HR := Lib.hid (show ∀ (j : Nat) (h : j + 1 < l.length), ltP (l[j]'(by omega)).at_ l[j + 1].at_ = true from fun j h => List.pairwise_iff_getElem.1 hr j (j + 1) (by omega) h (by omega))
  have IL := Lib.hid hl
  clear HLE hr hl
  go_enter Try.func23, Try.ntmps23
  go_wp2_with fail
  go_loopw [3] (fun i wr => ∃ j : Nat, i = .int .i64 ((j : Int) + 1) ∧ (j ≤ l.length) ∧ Hid (Below w.heap.size w wr)) (fun i _ => l.length + 1 - (intOf i).toNat)
  case atStart => exact ⟨0, rfl, by omega, Lib.hid (Below.refl _ _)⟩
  case round =>
    obtain ⟨j, rfl, hj, HB⟩ := hrel
    by_cases hlt : j + 1 < l.length
    · have hd : decide ((j : Int) + 1 < (l.length : Int)) = true := by simp; omega
      have hlt0 : j < l.length := by omega
      obtain ⟨g1, o1, hA, l1, rc1⟩ := (IL.out.below HB.out).at encC_len hlt0
      obtain ⟨g2, o2, hA2, l2, rc2⟩ := (IL.out.below HB.out).at encC_len hlt
      have hgg : g2 = g1 ∧ o2 = o1 := by rw [hA] at hA2; simpa [eq_comm] using hA2
      obtain ⟨rfl, rfl⟩ := hgg
      subst hA
      clear hA2
      have hi0 : (0 : Int) ≤ (j : Int) := by omega
      have hi1 : (j : Int) < (l.length : Int) := by omega
      have hi2 : (0 : Int) ≤ (j : Int) + 1 := by omega
      have hi3 : (j : Int) + 1 < (l.length : Int) := by omega
      have hw1 : IntKind.i64.wrap (j : Int) = (j : Int) := by rw [IntKind.wrap_i64]; omega
      have htn : ((j : Int) + 1).toNat = j + 1 := by omega
      have hv := HR.out j hlt
      obtain ⟨x, hx⟩ : ∃ x, l[j]'hlt0 = x := ⟨_, rfl⟩
      obtain ⟨y, hy⟩ : ∃ y, l[j + 1]'hlt = y := ⟨_, rfl⟩
      rw [hx] at rc1
      rw [hy] at rc2
      have HV := Lib.hid (show ∀ W, Calls Try.prog 19 #[.agg (encKI .u32 x.at_).toArray, .agg (encKI .u32 y.at_).toArray] W fun e w' => e = .returned (.bool true) ∧ Below W.heap.size W w' from fun W => by
        have := HL.out x.at_ y.at_ W
        rw [← hx, ← hy] at this ⊢
        rwa [hv] at this)
      clear hv hx hy
      have RA := Lib.hid (fun (w' : World) (hC : From wr w') => (RowC.co_at rc1).below hC.below (Nat.lt_of_lt_of_le l1 HB.out.size))
      have RB := Lib.hid (fun (w' : World) (hC : From wr w') => (RowC.co_at rc2).below hC.below (Nat.lt_of_lt_of_le l2 HB.out.size))
      have HJ := Lib.hid (show j + 1 ≤ l.length by omega)
      clear rc1 rc2 l1 l2
      go_wp2_with fail
      refine wp_region_from (by kernel_rfl) (by kernel_rfl) ?_
      repeat (first
        | go_big_quiet_skip
        | ((with_reducible refine at_qload 14 ?_); refine tyPt.wpQuiet_load (by rfl) (.tmp 14) rfl g2 (o2 + j * 68) rfl x.at_ RA.out ?_; simp only [Act.put, List.setIfInBounds_toArray, List.set_cons_succ, List.set_cons_zero])
        | ((with_reducible refine at_qload 19 ?_); refine tyPt.wpQuiet_load (by rfl) (.tmp 19) rfl g2 (o2 + (j + 1) * 68) rfl y.at_ RB.out ?_; simp only [Act.put, List.setIfInBounds_toArray, List.set_cons_succ, List.set_cons_zero])
        | (go_big_quiet_want; go_big_quiet_op; refine ⟨_, fun _ _ => by with_reducible rfl, ?_⟩; go_big_quiet_on)
        | go_big_quiet_step ((intro hC; go_at_call 19; with_reducible exact (HV.out _).mono fun _ _ h => ⟨h.1, hC.call h.2⟩)))
      refine wpQuiet_nil ?_
      intro w9 hC
      have B9 := Lib.hid (HB.out.trans (hC.below.mono HB.out.size))
      clear hC RA RB
      go_wp2_with fail
      go_roundw
      case rel => exact ⟨j + 1, by go_num, HJ.out, B9⟩
      case measure => simp [intOf]; omega
    · have hd : decide ((j : Int) + 1 < (l.length : Int)) = false := by simp; omega
      go_wp2_with fail
      go_ret
      exact ⟨rfl, HB.out⟩
set_option maxRecDepth 20000 in
set_option maxHeartbeats 2000000 in
theorem cord_l0m (HLE : LessOk) (HAP : ApplyOk) (a b c : PtV) (w : World) (hx : ltP a b = true) (hy : ltP b a = false) (hn : decide (a = b) = false) (hm : decide (a.1 = b.1) = false) (hv : ltP b c = false) :
    Calls Try.prog 7 #[.agg (encKI .u32 a).toArray, .agg (encKI .u32 b).toArray, .agg (encKI .u32 c).toArray] w fun e w' => e = .returned (.bool true) ∧ Below w.heap.size w w' := by
  have SH := Lib.hid (fun W => coishown_any HAP W)
  unfold LessOk at HLE
  have HL := Lib.hid HLE
  have HX := Lib.hid hx
  have HY := Lib.hid hy
  have HN := Lib.hid hn
  have HM := Lib.hid hm
  have HV := Lib.hid hv
  clear hv
  clear HLE HAP hx hy hn hm
  have H0 := Lib.hid (show Holds w [(w.heap.size + 2, 32, (encKI .u32 c).toArray), (w.heap.size + 1, 32, (encKI .u32 b).toArray), (w.heap.size, 32, (encKI .u32 a).toArray)] (((w.alloc (.cells (encKI .u32 a).toArray 32)).alloc (.cells (encKI .u32 b).toArray 32)).alloc (.cells (encKI .u32 c).toArray 32)) from by
    have := (((Holds.nil w).box 32 (encKI .u32 a).toArray).box 32 (encKI .u32 b).toArray).box 32 (encKI .u32 c).toArray
    simpa only [World.size_alloc, Nat.add_assoc] using this)
  go_enter Try.func7, Try.ntmps7
  go_wp2_with (first
      | ((with_reducible refine at_load 3 ?_); refine tyPc.wpList_load rfl (.tmp 3) rfl (w.heap.size) (0) rfl (a) (RowC.of_blk (H0.out.at (x := (w.heap.size, 32, (encKI .u32 a).toArray)) (by simp))) ?_)
      | ((with_reducible refine at_load 4 ?_); refine tyPc.wpList_load rfl (.tmp 4) rfl (w.heap.size + 1) (0) rfl (b) (RowC.of_blk (H0.out.at (x := (w.heap.size + 1, 32, (encKI .u32 b).toArray)) (by simp))) ?_))
  refine (HL.out a b _).mono ?_
  rintro e w1 ⟨rfl, b1⟩
  rw [HX.out]
  have H1 := Lib.hid (H0.out.call b1)
  clear b1 H0
  go_wp2_with (first
      | ((with_reducible refine at_load 3 ?_); refine tyPc.wpList_load rfl (.tmp 3) rfl (w.heap.size) (0) rfl (a) (RowC.of_blk (H1.out.at (x := (w.heap.size, 32, (encKI .u32 a).toArray)) (by simp))) ?_)
      | ((with_reducible refine at_load 4 ?_); refine tyPc.wpList_load rfl (.tmp 4) rfl (w.heap.size + 1) (0) rfl (b) (RowC.of_blk (H1.out.at (x := (w.heap.size + 1, 32, (encKI .u32 b).toArray)) (by simp))) ?_))
  refine (HL.out b a _).mono ?_
  rintro e w2 ⟨rfl, b2⟩
  rw [HY.out]
  have H2 := Lib.hid (H1.out.call b2)
  clear b2 H1
  go_wp2_with (first
      | ((with_reducible refine at_loadg 3 ?_); refine tyPc.wpList_load (by rfl) (.tmp 3) rfl (w.heap.size) (0) rfl (a) (RowC.of_blk (H2.out.at (x := (w.heap.size, 32, (encKI .u32 a).toArray)) (by simp))) ?_)
      | ((with_reducible refine at_loadg 4 ?_); refine tyPc.wpList_load (by rfl) (.tmp 4) rfl (w.heap.size + 1) (0) rfl (b) (RowC.of_blk (H2.out.at (x := (w.heap.size + 1, 32, (encKI .u32 b).toArray)) (by simp))) ?_)
      | ((with_reducible refine at_loadg 5 ?_); refine tyPc.wpList_load (by rfl) (.tmp 5) rfl (w.heap.size + 2) (0) rfl (c) (RowC.of_blk (H2.out.at (x := (w.heap.size + 2, 32, (encKI .u32 c).toArray)) (by simp))) ?_)
      | ((with_reducible refine at_neqlg 25 26 ?_); refine wpList_neq_rowg (by rfl) 32 32 (.tmp 25) (.tmp 26) rfl (encKI .u32 a).toArray (encKI .u32 b).toArray rfl rfl (by kernel_rfl) false (fun V => (eqPt_run _ _ V).trans (by rw [HN.out])) ?_; simp only [Act.put, List.setIfInBounds_toArray, List.set_cons_succ, List.set_cons_zero])
      | ((with_reducible refine at_loadg 46 ?_); refine tyKc.wpList_load (by rfl) (.tmp 46) rfl (w.heap.size) (0) rfl (a.1) (RowC.ki_key (RowC.of_blk (H2.out.at (x := (w.heap.size, 32, (encKI .u32 a).toArray)) (by simp)))) ?_)
      | ((with_reducible refine at_loadg 48 ?_); refine tyKc.wpList_load (by rfl) (.tmp 48) rfl (w.heap.size + 1) (0) rfl (b.1) (RowC.ki_key (RowC.of_blk (H2.out.at (x := (w.heap.size + 1, 32, (encKI .u32 b).toArray)) (by simp)))) ?_)
      | ((with_reducible refine at_neqlg 47 49 ?_); refine wpList_neq_rowg (by rfl) 27 27 (.tmp 47) (.tmp 49) rfl (encK a.1).toArray (encK b.1).toArray rfl rfl (by kernel_rfl) false (fun V => (eqKy_run _ _ V).trans (by rw [HM.out])) ?_; simp only [Act.put, List.setIfInBounds_toArray, List.set_cons_succ, List.set_cons_zero]))
  refine (HL.out b c _).mono ?_
  rintro e w3 ⟨rfl, b3⟩
  rw [HV.out]
  have H3 := Lib.hid (H2.out.call b3)
  clear b3 H2
  go_wp2_with (first
      | ((with_reducible refine at_loadg 3 ?_); refine tyPc.wpList_load (by rfl) (.tmp 3) rfl (w.heap.size) (0) rfl (a) (RowC.of_blk (H3.out.at (x := (w.heap.size, 32, (encKI .u32 a).toArray)) (by simp))) ?_)
      | ((with_reducible refine at_loadg 4 ?_); refine tyPc.wpList_load (by rfl) (.tmp 4) rfl (w.heap.size + 1) (0) rfl (b) (RowC.of_blk (H3.out.at (x := (w.heap.size + 1, 32, (encKI .u32 b).toArray)) (by simp))) ?_)
      | ((with_reducible refine at_loadg 5 ?_); refine tyPc.wpList_load (by rfl) (.tmp 5) rfl (w.heap.size + 2) (0) rfl (c) (RowC.of_blk (H3.out.at (x := (w.heap.size + 2, 32, (encKI .u32 c).toArray)) (by simp))) ?_)
      | ((with_reducible refine at_neqlg 25 26 ?_); refine wpList_neq_rowg (by rfl) 32 32 (.tmp 25) (.tmp 26) rfl (encKI .u32 a).toArray (encKI .u32 b).toArray rfl rfl (by kernel_rfl) false (fun V => (eqPt_run _ _ V).trans (by rw [HN.out])) ?_; simp only [Act.put, List.setIfInBounds_toArray, List.set_cons_succ, List.set_cons_zero])
      | ((with_reducible refine at_loadg 46 ?_); refine tyKc.wpList_load (by rfl) (.tmp 46) rfl (w.heap.size) (0) rfl (a.1) (RowC.ki_key (RowC.of_blk (H3.out.at (x := (w.heap.size, 32, (encKI .u32 a).toArray)) (by simp)))) ?_)
      | ((with_reducible refine at_loadg 48 ?_); refine tyKc.wpList_load (by rfl) (.tmp 48) rfl (w.heap.size + 1) (0) rfl (b.1) (RowC.ki_key (RowC.of_blk (H3.out.at (x := (w.heap.size + 1, 32, (encKI .u32 b).toArray)) (by simp)))) ?_)
      | ((with_reducible refine at_neqlg 47 49 ?_); refine wpList_neq_rowg (by rfl) 27 27 (.tmp 47) (.tmp 49) rfl (encK a.1).toArray (encK b.1).toArray rfl rfl (by kernel_rfl) false (fun V => (eqKy_run _ _ V).trans (by rw [HM.out])) ?_; simp only [Act.put, List.setIfInBounds_toArray, List.set_cons_succ, List.set_cons_zero]))
  refine (SH.out _).mono ?_
  rintro e w9 ⟨rfl, b9⟩
  have H9 := Lib.hid (H3.out.call b9)
  clear b9 H3
  go_wp2_with fail
  go_ret
  exact ⟨rfl, H9.out.below⟩
set_option maxRecDepth 20000 in
set_option maxHeartbeats 2000000 in
theorem cord_l1m (HLE : LessOk) (HAP : ApplyOk) (a b c : PtV) (w : World) (hx : ltP a b = true) (hy : ltP b a = false) (hn : decide (a = b) = false) (hm : decide (a.1 = b.1) = false) (hv : ltP b c = true) (hz : ltP a c = true) :
    Calls Try.prog 7 #[.agg (encKI .u32 a).toArray, .agg (encKI .u32 b).toArray, .agg (encKI .u32 c).toArray] w fun e w' => e = .returned (.bool true) ∧ Below w.heap.size w w' := by
  have SH := Lib.hid (fun W => coishown_any HAP W)
  unfold LessOk at HLE
  have HL := Lib.hid HLE
  have HX := Lib.hid hx
  have HY := Lib.hid hy
  have HN := Lib.hid hn
  have HM := Lib.hid hm
  have HV := Lib.hid hv
  clear hv
  have HZ := Lib.hid hz
  clear hz
  clear HLE HAP hx hy hn hm
  have H0 := Lib.hid (show Holds w [(w.heap.size + 2, 32, (encKI .u32 c).toArray), (w.heap.size + 1, 32, (encKI .u32 b).toArray), (w.heap.size, 32, (encKI .u32 a).toArray)] (((w.alloc (.cells (encKI .u32 a).toArray 32)).alloc (.cells (encKI .u32 b).toArray 32)).alloc (.cells (encKI .u32 c).toArray 32)) from by
    have := (((Holds.nil w).box 32 (encKI .u32 a).toArray).box 32 (encKI .u32 b).toArray).box 32 (encKI .u32 c).toArray
    simpa only [World.size_alloc, Nat.add_assoc] using this)
  go_enter Try.func7, Try.ntmps7
  go_wp2_with (first
      | ((with_reducible refine at_load 3 ?_); refine tyPc.wpList_load rfl (.tmp 3) rfl (w.heap.size) (0) rfl (a) (RowC.of_blk (H0.out.at (x := (w.heap.size, 32, (encKI .u32 a).toArray)) (by simp))) ?_)
      | ((with_reducible refine at_load 4 ?_); refine tyPc.wpList_load rfl (.tmp 4) rfl (w.heap.size + 1) (0) rfl (b) (RowC.of_blk (H0.out.at (x := (w.heap.size + 1, 32, (encKI .u32 b).toArray)) (by simp))) ?_))
  refine (HL.out a b _).mono ?_
  rintro e w1 ⟨rfl, b1⟩
  rw [HX.out]
  have H1 := Lib.hid (H0.out.call b1)
  clear b1 H0
  go_wp2_with (first
      | ((with_reducible refine at_load 3 ?_); refine tyPc.wpList_load rfl (.tmp 3) rfl (w.heap.size) (0) rfl (a) (RowC.of_blk (H1.out.at (x := (w.heap.size, 32, (encKI .u32 a).toArray)) (by simp))) ?_)
      | ((with_reducible refine at_load 4 ?_); refine tyPc.wpList_load rfl (.tmp 4) rfl (w.heap.size + 1) (0) rfl (b) (RowC.of_blk (H1.out.at (x := (w.heap.size + 1, 32, (encKI .u32 b).toArray)) (by simp))) ?_))
  refine (HL.out b a _).mono ?_
  rintro e w2 ⟨rfl, b2⟩
  rw [HY.out]
  have H2 := Lib.hid (H1.out.call b2)
  clear b2 H1
  go_wp2_with (first
      | ((with_reducible refine at_loadg 3 ?_); refine tyPc.wpList_load (by rfl) (.tmp 3) rfl (w.heap.size) (0) rfl (a) (RowC.of_blk (H2.out.at (x := (w.heap.size, 32, (encKI .u32 a).toArray)) (by simp))) ?_)
      | ((with_reducible refine at_loadg 4 ?_); refine tyPc.wpList_load (by rfl) (.tmp 4) rfl (w.heap.size + 1) (0) rfl (b) (RowC.of_blk (H2.out.at (x := (w.heap.size + 1, 32, (encKI .u32 b).toArray)) (by simp))) ?_)
      | ((with_reducible refine at_loadg 5 ?_); refine tyPc.wpList_load (by rfl) (.tmp 5) rfl (w.heap.size + 2) (0) rfl (c) (RowC.of_blk (H2.out.at (x := (w.heap.size + 2, 32, (encKI .u32 c).toArray)) (by simp))) ?_)
      | ((with_reducible refine at_neqlg 25 26 ?_); refine wpList_neq_rowg (by rfl) 32 32 (.tmp 25) (.tmp 26) rfl (encKI .u32 a).toArray (encKI .u32 b).toArray rfl rfl (by kernel_rfl) false (fun V => (eqPt_run _ _ V).trans (by rw [HN.out])) ?_; simp only [Act.put, List.setIfInBounds_toArray, List.set_cons_succ, List.set_cons_zero])
      | ((with_reducible refine at_loadg 46 ?_); refine tyKc.wpList_load (by rfl) (.tmp 46) rfl (w.heap.size) (0) rfl (a.1) (RowC.ki_key (RowC.of_blk (H2.out.at (x := (w.heap.size, 32, (encKI .u32 a).toArray)) (by simp)))) ?_)
      | ((with_reducible refine at_loadg 48 ?_); refine tyKc.wpList_load (by rfl) (.tmp 48) rfl (w.heap.size + 1) (0) rfl (b.1) (RowC.ki_key (RowC.of_blk (H2.out.at (x := (w.heap.size + 1, 32, (encKI .u32 b).toArray)) (by simp)))) ?_)
      | ((with_reducible refine at_neqlg 47 49 ?_); refine wpList_neq_rowg (by rfl) 27 27 (.tmp 47) (.tmp 49) rfl (encK a.1).toArray (encK b.1).toArray rfl rfl (by kernel_rfl) false (fun V => (eqKy_run _ _ V).trans (by rw [HM.out])) ?_; simp only [Act.put, List.setIfInBounds_toArray, List.set_cons_succ, List.set_cons_zero]))
  refine (HL.out b c _).mono ?_
  rintro e w3 ⟨rfl, b3⟩
  rw [HV.out]
  have H3 := Lib.hid (H2.out.call b3)
  clear b3 H2
  go_wp2_with (first
      | ((with_reducible refine at_loadg 3 ?_); refine tyPc.wpList_load (by rfl) (.tmp 3) rfl (w.heap.size) (0) rfl (a) (RowC.of_blk (H3.out.at (x := (w.heap.size, 32, (encKI .u32 a).toArray)) (by simp))) ?_)
      | ((with_reducible refine at_loadg 4 ?_); refine tyPc.wpList_load (by rfl) (.tmp 4) rfl (w.heap.size + 1) (0) rfl (b) (RowC.of_blk (H3.out.at (x := (w.heap.size + 1, 32, (encKI .u32 b).toArray)) (by simp))) ?_)
      | ((with_reducible refine at_loadg 5 ?_); refine tyPc.wpList_load (by rfl) (.tmp 5) rfl (w.heap.size + 2) (0) rfl (c) (RowC.of_blk (H3.out.at (x := (w.heap.size + 2, 32, (encKI .u32 c).toArray)) (by simp))) ?_)
      | ((with_reducible refine at_neqlg 25 26 ?_); refine wpList_neq_rowg (by rfl) 32 32 (.tmp 25) (.tmp 26) rfl (encKI .u32 a).toArray (encKI .u32 b).toArray rfl rfl (by kernel_rfl) false (fun V => (eqPt_run _ _ V).trans (by rw [HN.out])) ?_; simp only [Act.put, List.setIfInBounds_toArray, List.set_cons_succ, List.set_cons_zero])
      | ((with_reducible refine at_loadg 46 ?_); refine tyKc.wpList_load (by rfl) (.tmp 46) rfl (w.heap.size) (0) rfl (a.1) (RowC.ki_key (RowC.of_blk (H3.out.at (x := (w.heap.size, 32, (encKI .u32 a).toArray)) (by simp)))) ?_)
      | ((with_reducible refine at_loadg 48 ?_); refine tyKc.wpList_load (by rfl) (.tmp 48) rfl (w.heap.size + 1) (0) rfl (b.1) (RowC.ki_key (RowC.of_blk (H3.out.at (x := (w.heap.size + 1, 32, (encKI .u32 b).toArray)) (by simp)))) ?_)
      | ((with_reducible refine at_neqlg 47 49 ?_); refine wpList_neq_rowg (by rfl) 27 27 (.tmp 47) (.tmp 49) rfl (encK a.1).toArray (encK b.1).toArray rfl rfl (by kernel_rfl) false (fun V => (eqKy_run _ _ V).trans (by rw [HM.out])) ?_; simp only [Act.put, List.setIfInBounds_toArray, List.set_cons_succ, List.set_cons_zero]))
  refine (HL.out a c _).mono ?_
  rintro e w4 ⟨rfl, b4⟩
  rw [HZ.out]
  have H4 := Lib.hid (H3.out.call b4)
  clear b4 H3
  go_wp2_with (first
      | ((with_reducible refine at_loadg 3 ?_); refine tyPc.wpList_load (by rfl) (.tmp 3) rfl (w.heap.size) (0) rfl (a) (RowC.of_blk (H4.out.at (x := (w.heap.size, 32, (encKI .u32 a).toArray)) (by simp))) ?_)
      | ((with_reducible refine at_loadg 4 ?_); refine tyPc.wpList_load (by rfl) (.tmp 4) rfl (w.heap.size + 1) (0) rfl (b) (RowC.of_blk (H4.out.at (x := (w.heap.size + 1, 32, (encKI .u32 b).toArray)) (by simp))) ?_)
      | ((with_reducible refine at_loadg 5 ?_); refine tyPc.wpList_load (by rfl) (.tmp 5) rfl (w.heap.size + 2) (0) rfl (c) (RowC.of_blk (H4.out.at (x := (w.heap.size + 2, 32, (encKI .u32 c).toArray)) (by simp))) ?_)
      | ((with_reducible refine at_neqlg 25 26 ?_); refine wpList_neq_rowg (by rfl) 32 32 (.tmp 25) (.tmp 26) rfl (encKI .u32 a).toArray (encKI .u32 b).toArray rfl rfl (by kernel_rfl) false (fun V => (eqPt_run _ _ V).trans (by rw [HN.out])) ?_; simp only [Act.put, List.setIfInBounds_toArray, List.set_cons_succ, List.set_cons_zero])
      | ((with_reducible refine at_loadg 46 ?_); refine tyKc.wpList_load (by rfl) (.tmp 46) rfl (w.heap.size) (0) rfl (a.1) (RowC.ki_key (RowC.of_blk (H4.out.at (x := (w.heap.size, 32, (encKI .u32 a).toArray)) (by simp)))) ?_)
      | ((with_reducible refine at_loadg 48 ?_); refine tyKc.wpList_load (by rfl) (.tmp 48) rfl (w.heap.size + 1) (0) rfl (b.1) (RowC.ki_key (RowC.of_blk (H4.out.at (x := (w.heap.size + 1, 32, (encKI .u32 b).toArray)) (by simp)))) ?_)
      | ((with_reducible refine at_neqlg 47 49 ?_); refine wpList_neq_rowg (by rfl) 27 27 (.tmp 47) (.tmp 49) rfl (encK a.1).toArray (encK b.1).toArray rfl rfl (by kernel_rfl) false (fun V => (eqKy_run _ _ V).trans (by rw [HM.out])) ?_; simp only [Act.put, List.setIfInBounds_toArray, List.set_cons_succ, List.set_cons_zero]))
  refine (SH.out _).mono ?_
  rintro e w9 ⟨rfl, b9⟩
  have H9 := Lib.hid (H4.out.call b9)
  clear b9 H4
  go_wp2_with fail
  go_ret
  exact ⟨rfl, H9.out.below⟩
set_option maxRecDepth 20000 in
set_option maxHeartbeats 2000000 in
theorem cord_gm (HLE : LessOk) (HAP : ApplyOk) (a b c : PtV) (w : World) (hx : ltP a b = false) (hy : ltP b a = true) (hn : decide (a = b) = false) (hm : decide (a.1 = b.1) = false) :
    Calls Try.prog 7 #[.agg (encKI .u32 a).toArray, .agg (encKI .u32 b).toArray, .agg (encKI .u32 c).toArray] w fun e w' => e = .returned (.bool true) ∧ Below w.heap.size w w' := by
  have SH := Lib.hid (fun W => coishown_any HAP W)
  unfold LessOk at HLE
  have HL := Lib.hid HLE
  have HX := Lib.hid hx
  have HY := Lib.hid hy
  have HN := Lib.hid hn
  have HM := Lib.hid hm
  clear HLE HAP hx hy hn hm
  have H0 := Lib.hid (show Holds w [(w.heap.size + 2, 32, (encKI .u32 c).toArray), (w.heap.size + 1, 32, (encKI .u32 b).toArray), (w.heap.size, 32, (encKI .u32 a).toArray)] (((w.alloc (.cells (encKI .u32 a).toArray 32)).alloc (.cells (encKI .u32 b).toArray 32)).alloc (.cells (encKI .u32 c).toArray 32)) from by
    have := (((Holds.nil w).box 32 (encKI .u32 a).toArray).box 32 (encKI .u32 b).toArray).box 32 (encKI .u32 c).toArray
    simpa only [World.size_alloc, Nat.add_assoc] using this)
  go_enter Try.func7, Try.ntmps7
  go_wp2_with (first
      | ((with_reducible refine at_load 3 ?_); refine tyPc.wpList_load rfl (.tmp 3) rfl (w.heap.size) (0) rfl (a) (RowC.of_blk (H0.out.at (x := (w.heap.size, 32, (encKI .u32 a).toArray)) (by simp))) ?_)
      | ((with_reducible refine at_load 4 ?_); refine tyPc.wpList_load rfl (.tmp 4) rfl (w.heap.size + 1) (0) rfl (b) (RowC.of_blk (H0.out.at (x := (w.heap.size + 1, 32, (encKI .u32 b).toArray)) (by simp))) ?_))
  refine (HL.out a b _).mono ?_
  rintro e w1 ⟨rfl, b1⟩
  rw [HX.out]
  have H1 := Lib.hid (H0.out.call b1)
  clear b1 H0
  go_wp2_with (first
      | ((with_reducible refine at_load 3 ?_); refine tyPc.wpList_load rfl (.tmp 3) rfl (w.heap.size) (0) rfl (a) (RowC.of_blk (H1.out.at (x := (w.heap.size, 32, (encKI .u32 a).toArray)) (by simp))) ?_)
      | ((with_reducible refine at_load 4 ?_); refine tyPc.wpList_load rfl (.tmp 4) rfl (w.heap.size + 1) (0) rfl (b) (RowC.of_blk (H1.out.at (x := (w.heap.size + 1, 32, (encKI .u32 b).toArray)) (by simp))) ?_))
  refine (HL.out b a _).mono ?_
  rintro e w2 ⟨rfl, b2⟩
  rw [HY.out]
  have H2 := Lib.hid (H1.out.call b2)
  clear b2 H1
  go_wp2_with (first
      | ((with_reducible refine at_loadg 3 ?_); refine tyPc.wpList_load (by rfl) (.tmp 3) rfl (w.heap.size) (0) rfl (a) (RowC.of_blk (H2.out.at (x := (w.heap.size, 32, (encKI .u32 a).toArray)) (by simp))) ?_)
      | ((with_reducible refine at_loadg 4 ?_); refine tyPc.wpList_load (by rfl) (.tmp 4) rfl (w.heap.size + 1) (0) rfl (b) (RowC.of_blk (H2.out.at (x := (w.heap.size + 1, 32, (encKI .u32 b).toArray)) (by simp))) ?_)
      | ((with_reducible refine at_loadg 5 ?_); refine tyPc.wpList_load (by rfl) (.tmp 5) rfl (w.heap.size + 2) (0) rfl (c) (RowC.of_blk (H2.out.at (x := (w.heap.size + 2, 32, (encKI .u32 c).toArray)) (by simp))) ?_)
      | ((with_reducible refine at_neqlg 25 26 ?_); refine wpList_neq_rowg (by rfl) 32 32 (.tmp 25) (.tmp 26) rfl (encKI .u32 a).toArray (encKI .u32 b).toArray rfl rfl (by kernel_rfl) false (fun V => (eqPt_run _ _ V).trans (by rw [HN.out])) ?_; simp only [Act.put, List.setIfInBounds_toArray, List.set_cons_succ, List.set_cons_zero])
      | ((with_reducible refine at_loadg 46 ?_); refine tyKc.wpList_load (by rfl) (.tmp 46) rfl (w.heap.size) (0) rfl (a.1) (RowC.ki_key (RowC.of_blk (H2.out.at (x := (w.heap.size, 32, (encKI .u32 a).toArray)) (by simp)))) ?_)
      | ((with_reducible refine at_loadg 48 ?_); refine tyKc.wpList_load (by rfl) (.tmp 48) rfl (w.heap.size + 1) (0) rfl (b.1) (RowC.ki_key (RowC.of_blk (H2.out.at (x := (w.heap.size + 1, 32, (encKI .u32 b).toArray)) (by simp)))) ?_)
      | ((with_reducible refine at_neqlg 47 49 ?_); refine wpList_neq_rowg (by rfl) 27 27 (.tmp 47) (.tmp 49) rfl (encK a.1).toArray (encK b.1).toArray rfl rfl (by kernel_rfl) false (fun V => (eqKy_run _ _ V).trans (by rw [HM.out])) ?_; simp only [Act.put, List.setIfInBounds_toArray, List.set_cons_succ, List.set_cons_zero]))
  refine (SH.out _).mono ?_
  rintro e w9 ⟨rfl, b9⟩
  have H9 := Lib.hid (H2.out.call b9)
  clear b9 H2
  go_wp2_with fail
  go_ret
  exact ⟨rfl, H9.out.below⟩
set_option maxRecDepth 20000 in
set_option maxHeartbeats 2000000 in
theorem cord_l0e (HLE : LessOk) (HAP : ApplyOk) (a b c : PtV) (w : World) (hx : ltP a b = true) (hy : ltP b a = false) (hn : decide (a = b) = false) (hm : decide (a.1 = b.1) = true) (hv : ltP b c = false) (hq : decide (a.2.1 < b.2.1) = true) :
    Calls Try.prog 7 #[.agg (encKI .u32 a).toArray, .agg (encKI .u32 b).toArray, .agg (encKI .u32 c).toArray] w fun e w' => e = .returned (.bool true) ∧ Below w.heap.size w w' := by
  have SH := Lib.hid (fun W => coishown_any HAP W)
  unfold LessOk at HLE
  have HL := Lib.hid HLE
  have HX := Lib.hid hx
  have HY := Lib.hid hy
  have HN := Lib.hid hn
  have HM := Lib.hid hm
  have HV := Lib.hid hv
  clear hv
  clear HLE HAP hx hy hn hm
  have H0 := Lib.hid (show Holds w [(w.heap.size + 2, 32, (encKI .u32 c).toArray), (w.heap.size + 1, 32, (encKI .u32 b).toArray), (w.heap.size, 32, (encKI .u32 a).toArray)] (((w.alloc (.cells (encKI .u32 a).toArray 32)).alloc (.cells (encKI .u32 b).toArray 32)).alloc (.cells (encKI .u32 c).toArray 32)) from by
    have := (((Holds.nil w).box 32 (encKI .u32 a).toArray).box 32 (encKI .u32 b).toArray).box 32 (encKI .u32 c).toArray
    simpa only [World.size_alloc, Nat.add_assoc] using this)
  go_enter Try.func7, Try.ntmps7
  go_wp2_with (first
      | ((with_reducible refine at_load 3 ?_); refine tyPc.wpList_load rfl (.tmp 3) rfl (w.heap.size) (0) rfl (a) (RowC.of_blk (H0.out.at (x := (w.heap.size, 32, (encKI .u32 a).toArray)) (by simp))) ?_)
      | ((with_reducible refine at_load 4 ?_); refine tyPc.wpList_load rfl (.tmp 4) rfl (w.heap.size + 1) (0) rfl (b) (RowC.of_blk (H0.out.at (x := (w.heap.size + 1, 32, (encKI .u32 b).toArray)) (by simp))) ?_))
  refine (HL.out a b _).mono ?_
  rintro e w1 ⟨rfl, b1⟩
  rw [HX.out]
  have H1 := Lib.hid (H0.out.call b1)
  clear b1 H0
  go_wp2_with (first
      | ((with_reducible refine at_load 3 ?_); refine tyPc.wpList_load rfl (.tmp 3) rfl (w.heap.size) (0) rfl (a) (RowC.of_blk (H1.out.at (x := (w.heap.size, 32, (encKI .u32 a).toArray)) (by simp))) ?_)
      | ((with_reducible refine at_load 4 ?_); refine tyPc.wpList_load rfl (.tmp 4) rfl (w.heap.size + 1) (0) rfl (b) (RowC.of_blk (H1.out.at (x := (w.heap.size + 1, 32, (encKI .u32 b).toArray)) (by simp))) ?_))
  refine (HL.out b a _).mono ?_
  rintro e w2 ⟨rfl, b2⟩
  rw [HY.out]
  have H2 := Lib.hid (H1.out.call b2)
  clear b2 H1
  go_wp2_with (first
      | ((with_reducible refine at_loadg 3 ?_); refine tyPc.wpList_load (by rfl) (.tmp 3) rfl (w.heap.size) (0) rfl (a) (RowC.of_blk (H2.out.at (x := (w.heap.size, 32, (encKI .u32 a).toArray)) (by simp))) ?_)
      | ((with_reducible refine at_loadg 4 ?_); refine tyPc.wpList_load (by rfl) (.tmp 4) rfl (w.heap.size + 1) (0) rfl (b) (RowC.of_blk (H2.out.at (x := (w.heap.size + 1, 32, (encKI .u32 b).toArray)) (by simp))) ?_)
      | ((with_reducible refine at_loadg 5 ?_); refine tyPc.wpList_load (by rfl) (.tmp 5) rfl (w.heap.size + 2) (0) rfl (c) (RowC.of_blk (H2.out.at (x := (w.heap.size + 2, 32, (encKI .u32 c).toArray)) (by simp))) ?_)
      | ((with_reducible refine at_neqlg 25 26 ?_); refine wpList_neq_rowg (by rfl) 32 32 (.tmp 25) (.tmp 26) rfl (encKI .u32 a).toArray (encKI .u32 b).toArray rfl rfl (by kernel_rfl) false (fun V => (eqPt_run _ _ V).trans (by rw [HN.out])) ?_; simp only [Act.put, List.setIfInBounds_toArray, List.set_cons_succ, List.set_cons_zero])
      | ((with_reducible refine at_loadg 46 ?_); refine tyKc.wpList_load (by rfl) (.tmp 46) rfl (w.heap.size) (0) rfl (a.1) (RowC.ki_key (RowC.of_blk (H2.out.at (x := (w.heap.size, 32, (encKI .u32 a).toArray)) (by simp)))) ?_)
      | ((with_reducible refine at_loadg 48 ?_); refine tyKc.wpList_load (by rfl) (.tmp 48) rfl (w.heap.size + 1) (0) rfl (b.1) (RowC.ki_key (RowC.of_blk (H2.out.at (x := (w.heap.size + 1, 32, (encKI .u32 b).toArray)) (by simp)))) ?_)
      | ((with_reducible refine at_neqlg 47 49 ?_); refine wpList_neq_rowg (by rfl) 27 27 (.tmp 47) (.tmp 49) rfl (encK a.1).toArray (encK b.1).toArray rfl rfl (by kernel_rfl) true (fun V => (eqKy_run _ _ V).trans (by rw [HM.out])) ?_; simp only [Act.put, List.setIfInBounds_toArray, List.set_cons_succ, List.set_cons_zero]))
  refine (HL.out b c _).mono ?_
  rintro e w3 ⟨rfl, b3⟩
  rw [HV.out]
  have H3 := Lib.hid (H2.out.call b3)
  clear b3 H2
  have ca := (RowC.of_blk (H3.out.at (x := (w.heap.size, 32, (encKI .u32 a).toArray)) (by simp))).ki_int
  have cb := (RowC.of_blk (H3.out.at (x := (w.heap.size + 1, 32, (encKI .u32 b).toArray)) (by simp))).ki_int
  simp only [Nat.zero_add] at ca cb
  go_wp2_with (first
      | ((with_reducible refine at_loadg 3 ?_); refine tyPc.wpList_load (by rfl) (.tmp 3) rfl (w.heap.size) (0) rfl (a) (RowC.of_blk (H3.out.at (x := (w.heap.size, 32, (encKI .u32 a).toArray)) (by simp))) ?_)
      | ((with_reducible refine at_loadg 4 ?_); refine tyPc.wpList_load (by rfl) (.tmp 4) rfl (w.heap.size + 1) (0) rfl (b) (RowC.of_blk (H3.out.at (x := (w.heap.size + 1, 32, (encKI .u32 b).toArray)) (by simp))) ?_)
      | ((with_reducible refine at_loadg 5 ?_); refine tyPc.wpList_load (by rfl) (.tmp 5) rfl (w.heap.size + 2) (0) rfl (c) (RowC.of_blk (H3.out.at (x := (w.heap.size + 2, 32, (encKI .u32 c).toArray)) (by simp))) ?_)
      | ((with_reducible refine at_neqlg 25 26 ?_); refine wpList_neq_rowg (by rfl) 32 32 (.tmp 25) (.tmp 26) rfl (encKI .u32 a).toArray (encKI .u32 b).toArray rfl rfl (by kernel_rfl) false (fun V => (eqPt_run _ _ V).trans (by rw [HN.out])) ?_; simp only [Act.put, List.setIfInBounds_toArray, List.set_cons_succ, List.set_cons_zero])
      | ((with_reducible refine at_loadg 46 ?_); refine tyKc.wpList_load (by rfl) (.tmp 46) rfl (w.heap.size) (0) rfl (a.1) (RowC.ki_key (RowC.of_blk (H3.out.at (x := (w.heap.size, 32, (encKI .u32 a).toArray)) (by simp)))) ?_)
      | ((with_reducible refine at_loadg 48 ?_); refine tyKc.wpList_load (by rfl) (.tmp 48) rfl (w.heap.size + 1) (0) rfl (b.1) (RowC.ki_key (RowC.of_blk (H3.out.at (x := (w.heap.size + 1, 32, (encKI .u32 b).toArray)) (by simp)))) ?_)
      | ((with_reducible refine at_neqlg 47 49 ?_); refine wpList_neq_rowg (by rfl) 27 27 (.tmp 47) (.tmp 49) rfl (encK a.1).toArray (encK b.1).toArray rfl rfl (by kernel_rfl) true (fun V => (eqKy_run _ _ V).trans (by rw [HM.out])) ?_; simp only [Act.put, List.setIfInBounds_toArray, List.set_cons_succ, List.set_cons_zero]))
  refine (SH.out _).mono ?_
  rintro e w9 ⟨rfl, b9⟩
  have H9 := Lib.hid (H3.out.call b9)
  clear b9 H3
  go_wp2_with fail
  go_ret
  exact ⟨rfl, H9.out.below⟩
set_option maxRecDepth 20000 in
set_option maxHeartbeats 2000000 in
theorem cord_l1e (HLE : LessOk) (HAP : ApplyOk) (a b c : PtV) (w : World) (hx : ltP a b = true) (hy : ltP b a = false) (hn : decide (a = b) = false) (hm : decide (a.1 = b.1) = true) (hv : ltP b c = true) (hz : ltP a c = true) (hq : decide (a.2.1 < b.2.1) = true) :
    Calls Try.prog 7 #[.agg (encKI .u32 a).toArray, .agg (encKI .u32 b).toArray, .agg (encKI .u32 c).toArray] w fun e w' => e = .returned (.bool true) ∧ Below w.heap.size w w' := by
  have SH := Lib.hid (fun W => coishown_any HAP W)
  unfold LessOk at HLE
  have HL := Lib.hid HLE
  have HX := Lib.hid hx
  have HY := Lib.hid hy
  have HN := Lib.hid hn
  have HM := Lib.hid hm
  have HV := Lib.hid hv
  clear hv
  have HZ := Lib.hid hz
  clear hz
  clear HLE HAP hx hy hn hm
  have H0 := Lib.hid (show Holds w [(w.heap.size + 2, 32, (encKI .u32 c).toArray), (w.heap.size + 1, 32, (encKI .u32 b).toArray), (w.heap.size, 32, (encKI .u32 a).toArray)] (((w.alloc (.cells (encKI .u32 a).toArray 32)).alloc (.cells (encKI .u32 b).toArray 32)).alloc (.cells (encKI .u32 c).toArray 32)) from by
    have := (((Holds.nil w).box 32 (encKI .u32 a).toArray).box 32 (encKI .u32 b).toArray).box 32 (encKI .u32 c).toArray
    simpa only [World.size_alloc, Nat.add_assoc] using this)
  go_enter Try.func7, Try.ntmps7
  go_wp2_with (first
      | ((with_reducible refine at_load 3 ?_); refine tyPc.wpList_load rfl (.tmp 3) rfl (w.heap.size) (0) rfl (a) (RowC.of_blk (H0.out.at (x := (w.heap.size, 32, (encKI .u32 a).toArray)) (by simp))) ?_)
      | ((with_reducible refine at_load 4 ?_); refine tyPc.wpList_load rfl (.tmp 4) rfl (w.heap.size + 1) (0) rfl (b) (RowC.of_blk (H0.out.at (x := (w.heap.size + 1, 32, (encKI .u32 b).toArray)) (by simp))) ?_))
  refine (HL.out a b _).mono ?_
  rintro e w1 ⟨rfl, b1⟩
  rw [HX.out]
  have H1 := Lib.hid (H0.out.call b1)
  clear b1 H0
  go_wp2_with (first
      | ((with_reducible refine at_load 3 ?_); refine tyPc.wpList_load rfl (.tmp 3) rfl (w.heap.size) (0) rfl (a) (RowC.of_blk (H1.out.at (x := (w.heap.size, 32, (encKI .u32 a).toArray)) (by simp))) ?_)
      | ((with_reducible refine at_load 4 ?_); refine tyPc.wpList_load rfl (.tmp 4) rfl (w.heap.size + 1) (0) rfl (b) (RowC.of_blk (H1.out.at (x := (w.heap.size + 1, 32, (encKI .u32 b).toArray)) (by simp))) ?_))
  refine (HL.out b a _).mono ?_
  rintro e w2 ⟨rfl, b2⟩
  rw [HY.out]
  have H2 := Lib.hid (H1.out.call b2)
  clear b2 H1
  go_wp2_with (first
      | ((with_reducible refine at_loadg 3 ?_); refine tyPc.wpList_load (by rfl) (.tmp 3) rfl (w.heap.size) (0) rfl (a) (RowC.of_blk (H2.out.at (x := (w.heap.size, 32, (encKI .u32 a).toArray)) (by simp))) ?_)
      | ((with_reducible refine at_loadg 4 ?_); refine tyPc.wpList_load (by rfl) (.tmp 4) rfl (w.heap.size + 1) (0) rfl (b) (RowC.of_blk (H2.out.at (x := (w.heap.size + 1, 32, (encKI .u32 b).toArray)) (by simp))) ?_)
      | ((with_reducible refine at_loadg 5 ?_); refine tyPc.wpList_load (by rfl) (.tmp 5) rfl (w.heap.size + 2) (0) rfl (c) (RowC.of_blk (H2.out.at (x := (w.heap.size + 2, 32, (encKI .u32 c).toArray)) (by simp))) ?_)
      | ((with_reducible refine at_neqlg 25 26 ?_); refine wpList_neq_rowg (by rfl) 32 32 (.tmp 25) (.tmp 26) rfl (encKI .u32 a).toArray (encKI .u32 b).toArray rfl rfl (by kernel_rfl) false (fun V => (eqPt_run _ _ V).trans (by rw [HN.out])) ?_; simp only [Act.put, List.setIfInBounds_toArray, List.set_cons_succ, List.set_cons_zero])
      | ((with_reducible refine at_loadg 46 ?_); refine tyKc.wpList_load (by rfl) (.tmp 46) rfl (w.heap.size) (0) rfl (a.1) (RowC.ki_key (RowC.of_blk (H2.out.at (x := (w.heap.size, 32, (encKI .u32 a).toArray)) (by simp)))) ?_)
      | ((with_reducible refine at_loadg 48 ?_); refine tyKc.wpList_load (by rfl) (.tmp 48) rfl (w.heap.size + 1) (0) rfl (b.1) (RowC.ki_key (RowC.of_blk (H2.out.at (x := (w.heap.size + 1, 32, (encKI .u32 b).toArray)) (by simp)))) ?_)
      | ((with_reducible refine at_neqlg 47 49 ?_); refine wpList_neq_rowg (by rfl) 27 27 (.tmp 47) (.tmp 49) rfl (encK a.1).toArray (encK b.1).toArray rfl rfl (by kernel_rfl) true (fun V => (eqKy_run _ _ V).trans (by rw [HM.out])) ?_; simp only [Act.put, List.setIfInBounds_toArray, List.set_cons_succ, List.set_cons_zero]))
  refine (HL.out b c _).mono ?_
  rintro e w3 ⟨rfl, b3⟩
  rw [HV.out]
  have H3 := Lib.hid (H2.out.call b3)
  clear b3 H2
  go_wp2_with (first
      | ((with_reducible refine at_loadg 3 ?_); refine tyPc.wpList_load (by rfl) (.tmp 3) rfl (w.heap.size) (0) rfl (a) (RowC.of_blk (H3.out.at (x := (w.heap.size, 32, (encKI .u32 a).toArray)) (by simp))) ?_)
      | ((with_reducible refine at_loadg 4 ?_); refine tyPc.wpList_load (by rfl) (.tmp 4) rfl (w.heap.size + 1) (0) rfl (b) (RowC.of_blk (H3.out.at (x := (w.heap.size + 1, 32, (encKI .u32 b).toArray)) (by simp))) ?_)
      | ((with_reducible refine at_loadg 5 ?_); refine tyPc.wpList_load (by rfl) (.tmp 5) rfl (w.heap.size + 2) (0) rfl (c) (RowC.of_blk (H3.out.at (x := (w.heap.size + 2, 32, (encKI .u32 c).toArray)) (by simp))) ?_)
      | ((with_reducible refine at_neqlg 25 26 ?_); refine wpList_neq_rowg (by rfl) 32 32 (.tmp 25) (.tmp 26) rfl (encKI .u32 a).toArray (encKI .u32 b).toArray rfl rfl (by kernel_rfl) false (fun V => (eqPt_run _ _ V).trans (by rw [HN.out])) ?_; simp only [Act.put, List.setIfInBounds_toArray, List.set_cons_succ, List.set_cons_zero])
      | ((with_reducible refine at_loadg 46 ?_); refine tyKc.wpList_load (by rfl) (.tmp 46) rfl (w.heap.size) (0) rfl (a.1) (RowC.ki_key (RowC.of_blk (H3.out.at (x := (w.heap.size, 32, (encKI .u32 a).toArray)) (by simp)))) ?_)
      | ((with_reducible refine at_loadg 48 ?_); refine tyKc.wpList_load (by rfl) (.tmp 48) rfl (w.heap.size + 1) (0) rfl (b.1) (RowC.ki_key (RowC.of_blk (H3.out.at (x := (w.heap.size + 1, 32, (encKI .u32 b).toArray)) (by simp)))) ?_)
      | ((with_reducible refine at_neqlg 47 49 ?_); refine wpList_neq_rowg (by rfl) 27 27 (.tmp 47) (.tmp 49) rfl (encK a.1).toArray (encK b.1).toArray rfl rfl (by kernel_rfl) true (fun V => (eqKy_run _ _ V).trans (by rw [HM.out])) ?_; simp only [Act.put, List.setIfInBounds_toArray, List.set_cons_succ, List.set_cons_zero]))
  refine (HL.out a c _).mono ?_
  rintro e w4 ⟨rfl, b4⟩
  rw [HZ.out]
  have H4 := Lib.hid (H3.out.call b4)
  clear b4 H3
  have ca := (RowC.of_blk (H4.out.at (x := (w.heap.size, 32, (encKI .u32 a).toArray)) (by simp))).ki_int
  have cb := (RowC.of_blk (H4.out.at (x := (w.heap.size + 1, 32, (encKI .u32 b).toArray)) (by simp))).ki_int
  simp only [Nat.zero_add] at ca cb
  go_wp2_with (first
      | ((with_reducible refine at_loadg 3 ?_); refine tyPc.wpList_load (by rfl) (.tmp 3) rfl (w.heap.size) (0) rfl (a) (RowC.of_blk (H4.out.at (x := (w.heap.size, 32, (encKI .u32 a).toArray)) (by simp))) ?_)
      | ((with_reducible refine at_loadg 4 ?_); refine tyPc.wpList_load (by rfl) (.tmp 4) rfl (w.heap.size + 1) (0) rfl (b) (RowC.of_blk (H4.out.at (x := (w.heap.size + 1, 32, (encKI .u32 b).toArray)) (by simp))) ?_)
      | ((with_reducible refine at_loadg 5 ?_); refine tyPc.wpList_load (by rfl) (.tmp 5) rfl (w.heap.size + 2) (0) rfl (c) (RowC.of_blk (H4.out.at (x := (w.heap.size + 2, 32, (encKI .u32 c).toArray)) (by simp))) ?_)
      | ((with_reducible refine at_neqlg 25 26 ?_); refine wpList_neq_rowg (by rfl) 32 32 (.tmp 25) (.tmp 26) rfl (encKI .u32 a).toArray (encKI .u32 b).toArray rfl rfl (by kernel_rfl) false (fun V => (eqPt_run _ _ V).trans (by rw [HN.out])) ?_; simp only [Act.put, List.setIfInBounds_toArray, List.set_cons_succ, List.set_cons_zero])
      | ((with_reducible refine at_loadg 46 ?_); refine tyKc.wpList_load (by rfl) (.tmp 46) rfl (w.heap.size) (0) rfl (a.1) (RowC.ki_key (RowC.of_blk (H4.out.at (x := (w.heap.size, 32, (encKI .u32 a).toArray)) (by simp)))) ?_)
      | ((with_reducible refine at_loadg 48 ?_); refine tyKc.wpList_load (by rfl) (.tmp 48) rfl (w.heap.size + 1) (0) rfl (b.1) (RowC.ki_key (RowC.of_blk (H4.out.at (x := (w.heap.size + 1, 32, (encKI .u32 b).toArray)) (by simp)))) ?_)
      | ((with_reducible refine at_neqlg 47 49 ?_); refine wpList_neq_rowg (by rfl) 27 27 (.tmp 47) (.tmp 49) rfl (encK a.1).toArray (encK b.1).toArray rfl rfl (by kernel_rfl) true (fun V => (eqKy_run _ _ V).trans (by rw [HM.out])) ?_; simp only [Act.put, List.setIfInBounds_toArray, List.set_cons_succ, List.set_cons_zero]))
  refine (SH.out _).mono ?_
  rintro e w9 ⟨rfl, b9⟩
  have H9 := Lib.hid (H4.out.call b9)
  clear b9 H4
  go_wp2_with fail
  go_ret
  exact ⟨rfl, H9.out.below⟩
set_option maxRecDepth 20000 in
set_option maxHeartbeats 2000000 in
theorem cord_ge (HLE : LessOk) (HAP : ApplyOk) (a b c : PtV) (w : World) (hx : ltP a b = false) (hy : ltP b a = true) (hn : decide (a = b) = false) (hm : decide (a.1 = b.1) = true) (hq : decide (a.2.1 < b.2.1) = false) :
    Calls Try.prog 7 #[.agg (encKI .u32 a).toArray, .agg (encKI .u32 b).toArray, .agg (encKI .u32 c).toArray] w fun e w' => e = .returned (.bool true) ∧ Below w.heap.size w w' := by
  have SH := Lib.hid (fun W => coishown_any HAP W)
  unfold LessOk at HLE
  have HL := Lib.hid HLE
  have HX := Lib.hid hx
  have HY := Lib.hid hy
  have HN := Lib.hid hn
  have HM := Lib.hid hm
  clear HLE HAP hx hy hn hm
  have H0 := Lib.hid (show Holds w [(w.heap.size + 2, 32, (encKI .u32 c).toArray), (w.heap.size + 1, 32, (encKI .u32 b).toArray), (w.heap.size, 32, (encKI .u32 a).toArray)] (((w.alloc (.cells (encKI .u32 a).toArray 32)).alloc (.cells (encKI .u32 b).toArray 32)).alloc (.cells (encKI .u32 c).toArray 32)) from by
    have := (((Holds.nil w).box 32 (encKI .u32 a).toArray).box 32 (encKI .u32 b).toArray).box 32 (encKI .u32 c).toArray
    simpa only [World.size_alloc, Nat.add_assoc] using this)
  go_enter Try.func7, Try.ntmps7
  go_wp2_with (first
      | ((with_reducible refine at_load 3 ?_); refine tyPc.wpList_load rfl (.tmp 3) rfl (w.heap.size) (0) rfl (a) (RowC.of_blk (H0.out.at (x := (w.heap.size, 32, (encKI .u32 a).toArray)) (by simp))) ?_)
      | ((with_reducible refine at_load 4 ?_); refine tyPc.wpList_load rfl (.tmp 4) rfl (w.heap.size + 1) (0) rfl (b) (RowC.of_blk (H0.out.at (x := (w.heap.size + 1, 32, (encKI .u32 b).toArray)) (by simp))) ?_))
  refine (HL.out a b _).mono ?_
  rintro e w1 ⟨rfl, b1⟩
  rw [HX.out]
  have H1 := Lib.hid (H0.out.call b1)
  clear b1 H0
  go_wp2_with (first
      | ((with_reducible refine at_load 3 ?_); refine tyPc.wpList_load rfl (.tmp 3) rfl (w.heap.size) (0) rfl (a) (RowC.of_blk (H1.out.at (x := (w.heap.size, 32, (encKI .u32 a).toArray)) (by simp))) ?_)
      | ((with_reducible refine at_load 4 ?_); refine tyPc.wpList_load rfl (.tmp 4) rfl (w.heap.size + 1) (0) rfl (b) (RowC.of_blk (H1.out.at (x := (w.heap.size + 1, 32, (encKI .u32 b).toArray)) (by simp))) ?_))
  refine (HL.out b a _).mono ?_
  rintro e w2 ⟨rfl, b2⟩
  rw [HY.out]
  have H2 := Lib.hid (H1.out.call b2)
  clear b2 H1
  have ca := (RowC.of_blk (H2.out.at (x := (w.heap.size, 32, (encKI .u32 a).toArray)) (by simp))).ki_int
  have cb := (RowC.of_blk (H2.out.at (x := (w.heap.size + 1, 32, (encKI .u32 b).toArray)) (by simp))).ki_int
  simp only [Nat.zero_add] at ca cb
  go_wp2_with (first
      | ((with_reducible refine at_loadg 3 ?_); refine tyPc.wpList_load (by rfl) (.tmp 3) rfl (w.heap.size) (0) rfl (a) (RowC.of_blk (H2.out.at (x := (w.heap.size, 32, (encKI .u32 a).toArray)) (by simp))) ?_)
      | ((with_reducible refine at_loadg 4 ?_); refine tyPc.wpList_load (by rfl) (.tmp 4) rfl (w.heap.size + 1) (0) rfl (b) (RowC.of_blk (H2.out.at (x := (w.heap.size + 1, 32, (encKI .u32 b).toArray)) (by simp))) ?_)
      | ((with_reducible refine at_loadg 5 ?_); refine tyPc.wpList_load (by rfl) (.tmp 5) rfl (w.heap.size + 2) (0) rfl (c) (RowC.of_blk (H2.out.at (x := (w.heap.size + 2, 32, (encKI .u32 c).toArray)) (by simp))) ?_)
      | ((with_reducible refine at_neqlg 25 26 ?_); refine wpList_neq_rowg (by rfl) 32 32 (.tmp 25) (.tmp 26) rfl (encKI .u32 a).toArray (encKI .u32 b).toArray rfl rfl (by kernel_rfl) false (fun V => (eqPt_run _ _ V).trans (by rw [HN.out])) ?_; simp only [Act.put, List.setIfInBounds_toArray, List.set_cons_succ, List.set_cons_zero])
      | ((with_reducible refine at_loadg 46 ?_); refine tyKc.wpList_load (by rfl) (.tmp 46) rfl (w.heap.size) (0) rfl (a.1) (RowC.ki_key (RowC.of_blk (H2.out.at (x := (w.heap.size, 32, (encKI .u32 a).toArray)) (by simp)))) ?_)
      | ((with_reducible refine at_loadg 48 ?_); refine tyKc.wpList_load (by rfl) (.tmp 48) rfl (w.heap.size + 1) (0) rfl (b.1) (RowC.ki_key (RowC.of_blk (H2.out.at (x := (w.heap.size + 1, 32, (encKI .u32 b).toArray)) (by simp)))) ?_)
      | ((with_reducible refine at_neqlg 47 49 ?_); refine wpList_neq_rowg (by rfl) 27 27 (.tmp 47) (.tmp 49) rfl (encK a.1).toArray (encK b.1).toArray rfl rfl (by kernel_rfl) true (fun V => (eqKy_run _ _ V).trans (by rw [HM.out])) ?_; simp only [Act.put, List.setIfInBounds_toArray, List.set_cons_succ, List.set_cons_zero]))
  refine (SH.out _).mono ?_
  rintro e w9 ⟨rfl, b9⟩
  have H9 := Lib.hid (H2.out.call b9)
  clear b9 H2
  go_wp2_with fail
  go_ret
  exact ⟨rfl, H9.out.below⟩
set_option maxRecDepth 20000 in
set_option maxHeartbeats 2000000 in
theorem cord_s (HLE : LessOk) (HAP : ApplyOk) (a b c : PtV) (w : World) (hx : ltP a b = false) (hy : ltP b a = false) (hn : decide (a = b) = true) (hm : decide (a.1 = b.1) = true) (hq : decide (a.2.1 < b.2.1) = false) :
    Calls Try.prog 7 #[.agg (encKI .u32 a).toArray, .agg (encKI .u32 b).toArray, .agg (encKI .u32 c).toArray] w fun e w' => e = .returned (.bool true) ∧ Below w.heap.size w w' := by
  have SH := Lib.hid (fun W => coishown_any HAP W)
  unfold LessOk at HLE
  have HL := Lib.hid HLE
  have HX := Lib.hid hx
  have HY := Lib.hid hy
  have HN := Lib.hid hn
  have HM := Lib.hid hm
  clear HLE HAP hx hy hn hm
  have H0 := Lib.hid (show Holds w [(w.heap.size + 2, 32, (encKI .u32 c).toArray), (w.heap.size + 1, 32, (encKI .u32 b).toArray), (w.heap.size, 32, (encKI .u32 a).toArray)] (((w.alloc (.cells (encKI .u32 a).toArray 32)).alloc (.cells (encKI .u32 b).toArray 32)).alloc (.cells (encKI .u32 c).toArray 32)) from by
    have := (((Holds.nil w).box 32 (encKI .u32 a).toArray).box 32 (encKI .u32 b).toArray).box 32 (encKI .u32 c).toArray
    simpa only [World.size_alloc, Nat.add_assoc] using this)
  go_enter Try.func7, Try.ntmps7
  go_wp2_with (first
      | ((with_reducible refine at_load 3 ?_); refine tyPc.wpList_load rfl (.tmp 3) rfl (w.heap.size) (0) rfl (a) (RowC.of_blk (H0.out.at (x := (w.heap.size, 32, (encKI .u32 a).toArray)) (by simp))) ?_)
      | ((with_reducible refine at_load 4 ?_); refine tyPc.wpList_load rfl (.tmp 4) rfl (w.heap.size + 1) (0) rfl (b) (RowC.of_blk (H0.out.at (x := (w.heap.size + 1, 32, (encKI .u32 b).toArray)) (by simp))) ?_))
  refine (HL.out a b _).mono ?_
  rintro e w1 ⟨rfl, b1⟩
  rw [HX.out]
  have H1 := Lib.hid (H0.out.call b1)
  clear b1 H0
  go_wp2_with (first
      | ((with_reducible refine at_load 3 ?_); refine tyPc.wpList_load rfl (.tmp 3) rfl (w.heap.size) (0) rfl (a) (RowC.of_blk (H1.out.at (x := (w.heap.size, 32, (encKI .u32 a).toArray)) (by simp))) ?_)
      | ((with_reducible refine at_load 4 ?_); refine tyPc.wpList_load rfl (.tmp 4) rfl (w.heap.size + 1) (0) rfl (b) (RowC.of_blk (H1.out.at (x := (w.heap.size + 1, 32, (encKI .u32 b).toArray)) (by simp))) ?_))
  refine (HL.out b a _).mono ?_
  rintro e w2 ⟨rfl, b2⟩
  rw [HY.out]
  have H2 := Lib.hid (H1.out.call b2)
  clear b2 H1
  have ca := (RowC.of_blk (H2.out.at (x := (w.heap.size, 32, (encKI .u32 a).toArray)) (by simp))).ki_int
  have cb := (RowC.of_blk (H2.out.at (x := (w.heap.size + 1, 32, (encKI .u32 b).toArray)) (by simp))).ki_int
  simp only [Nat.zero_add] at ca cb
  go_wp2_with (first
      | ((with_reducible refine at_loadg 3 ?_); refine tyPc.wpList_load (by rfl) (.tmp 3) rfl (w.heap.size) (0) rfl (a) (RowC.of_blk (H2.out.at (x := (w.heap.size, 32, (encKI .u32 a).toArray)) (by simp))) ?_)
      | ((with_reducible refine at_loadg 4 ?_); refine tyPc.wpList_load (by rfl) (.tmp 4) rfl (w.heap.size + 1) (0) rfl (b) (RowC.of_blk (H2.out.at (x := (w.heap.size + 1, 32, (encKI .u32 b).toArray)) (by simp))) ?_)
      | ((with_reducible refine at_loadg 5 ?_); refine tyPc.wpList_load (by rfl) (.tmp 5) rfl (w.heap.size + 2) (0) rfl (c) (RowC.of_blk (H2.out.at (x := (w.heap.size + 2, 32, (encKI .u32 c).toArray)) (by simp))) ?_)
      | ((with_reducible refine at_neqlg 25 26 ?_); refine wpList_neq_rowg (by rfl) 32 32 (.tmp 25) (.tmp 26) rfl (encKI .u32 a).toArray (encKI .u32 b).toArray rfl rfl (by kernel_rfl) true (fun V => (eqPt_run _ _ V).trans (by rw [HN.out])) ?_; simp only [Act.put, List.setIfInBounds_toArray, List.set_cons_succ, List.set_cons_zero])
      | ((with_reducible refine at_loadg 46 ?_); refine tyKc.wpList_load (by rfl) (.tmp 46) rfl (w.heap.size) (0) rfl (a.1) (RowC.ki_key (RowC.of_blk (H2.out.at (x := (w.heap.size, 32, (encKI .u32 a).toArray)) (by simp)))) ?_)
      | ((with_reducible refine at_loadg 48 ?_); refine tyKc.wpList_load (by rfl) (.tmp 48) rfl (w.heap.size + 1) (0) rfl (b.1) (RowC.ki_key (RowC.of_blk (H2.out.at (x := (w.heap.size + 1, 32, (encKI .u32 b).toArray)) (by simp)))) ?_)
      | ((with_reducible refine at_neqlg 47 49 ?_); refine wpList_neq_rowg (by rfl) 27 27 (.tmp 47) (.tmp 49) rfl (encK a.1).toArray (encK b.1).toArray rfl rfl (by kernel_rfl) true (fun V => (eqKy_run _ _ V).trans (by rw [HM.out])) ?_; simp only [Act.put, List.setIfInBounds_toArray, List.set_cons_succ, List.set_cons_zero]))
  refine (SH.out _).mono ?_
  rintro e w9 ⟨rfl, b9⟩
  have H9 := Lib.hid (H2.out.call b9)
  clear b9 H2
  go_wp2_with fail
  go_ret
  exact ⟨rfl, H9.out.below⟩
theorem cord_walk (HLE : LessOk) (HAP : ApplyOk) (a b c : PtV) (w : World) :
    Calls Try.prog 7 #[.agg (encKI .u32 a).toArray, .agg (encKI .u32 b).toArray, .agg (encKI .u32 c).toArray] w fun e w' => e = .returned (.bool true) ∧ Below w.heap.size w w' := by
  have hq : ∀ x y : PtV, x.1 = y.1 → ltP x y = decide (x.2.1 < y.2.1) := fun x y h => by unfold ltP; rw [h, ltK_irrefl]; simp
  cases hx : ltP a b with
  | true =>
    have hy := ordP.asym hx
    have hn : decide (a = b) = false := decide_eq_false fun e => by rw [e, ordP.irrefl] at hx; cases hx
    cases hv : ltP b c with
    | false =>
      by_cases hm : a.1 = b.1
      · exact cord_l0e HLE HAP a b c w hx hy hn (decide_eq_true hm) hv ((hq a b hm).symm.trans hx)
      · exact cord_l0m HLE HAP a b c w hx hy hn (decide_eq_false hm) hv
    | true =>
      by_cases hm : a.1 = b.1
      · exact cord_l1e HLE HAP a b c w hx hy hn (decide_eq_true hm) hv (ordP.trans hx hv) ((hq a b hm).symm.trans hx)
      · exact cord_l1m HLE HAP a b c w hx hy hn (decide_eq_false hm) hv (ordP.trans hx hv)
  | false =>
    cases hy : ltP b a with
    | true =>
      have hn : decide (a = b) = false := decide_eq_false fun e => by rw [e, ordP.irrefl] at hy; cases hy
      by_cases hm : a.1 = b.1
      · exact cord_ge HLE HAP a b c w hx hy hn (decide_eq_true hm) ((hq a b hm).symm.trans hx)
      · exact cord_gm HLE HAP a b c w hx hy hn (decide_eq_false hm)
    | false =>
      have e := ordP.tri hx hy
      exact cord_s HLE HAP a b c w hx hy (decide_eq_true e) (decide_eq_true (by rw [e])) (decide_eq_false (by rw [e]; omega))
end Go.Proofs.Ytkjgmhamglhggaa
