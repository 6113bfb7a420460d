/- AnchorEmpty: the statement's walk. Written by genLAe.py. -/
import Derived.Test.YtiifamfophbbcaaAncT
namespace Go.Proofs.Ytiifamfophbbcaa
open Go.RowKit
set_option maxRecDepth 20000 in
set_option maxHeartbeats 4000000 in
theorem aempty_walk (HNW : NewOk) (HPT : PutOk) (HBK : BackOk) (HHS : HasOk) (HLS : LastOk) (k : K32) (w : World) :
    Calls Try.prog 7 #[.agg (encK k).toArray] w fun e w' => e = .returned (.bool true) ∧ Below w.heap.size w w' := by
  have SH := Lib.hid (fun W => ashown_any HNW HPT HHS W)
  unfold PutOk at HPT
  unfold BackOk at HBK
  unfold HasOk at HHS
  unfold LastOk at HLS
  have HP := Lib.hid HPT
  have HB := Lib.hid HBK
  have HH := Lib.hid HHS
  have HL := Lib.hid HLS
  have H0 := Lib.hid ((Holds.nil w).box 24 (encK k).toArray)
  clear HNW HPT HBK HHS HLS
  have z1 : lastR [] = zeroKey := rfl
  have Z1 := Lib.hid z1
  have Z2 := Lib.hid (show decide (0 < ([] : List K32).length) = false from rfl)
  have Z3 := Lib.hid (show backR [] = [] ∧ backE [] = 166 from ⟨rfl, rfl⟩)
  have Z4 := Lib.hid (show putR [] k = [k] from rfl)
  have Z5 := Lib.hid (show hasR [] k = false from by unfold hasR; exact decide_eq_false (by simp [lastN]))
  have Z6 := Lib.hid (show hasR [k] k = true from decide_eq_true (by simp [lastN]))
  have Z7 := Lib.hid (show lastR [k] = k ∧ decide (0 < [k].length) = true from ⟨rfl, rfl⟩)
  clear z1
  have H1 := Lib.hid (show Holds w [(w.heap.size + 1, 27, #[.slice none 0 0]), (w.heap.size, 24, (encK k).toArray)] ((w.alloc (.cells (encK k).toArray 24)).alloc (.cells #[.slice none 0 0] 27)) from by
    have := H0.out.box 27 #[.slice none 0 0]
    rwa [World.size_alloc] at this)
  clear H0
  go_enter Try.func7, Try.ntmps7
  go_wp2_with fail
  refine (HL.out none 0 [] _ (by decide) (RowIn.nil (Nat.zero_le _))).mono ?_
  rintro e w2 ⟨rfl, b2⟩
  rw [Z1.out, Z2.out]
  have H2 := Lib.hid (H1.out.call b2)
  clear b2 H1
  go_wp2_with (first
      | ((with_reducible refine at_store 4 15 ?_); refine tyKc.wpList_store rfl (.tmp 4) (.tmp 15) rfl rfl w2.heap.size (zeroKey) rfl rfl 24 _ (Blk.new w2 24 _) rfl ?_; intro w3 o3 b3
         have H3 := Lib.hid (H2.out.put o3 b3)
         clear o3 b3)
      | ((with_reducible refine at_load 3 ?_); refine tyRg.wpList_load rfl (.tmp 3) rfl (w.heap.size + 1) 0 rfl (none, 0, 0) (RowC.of_blk (H3.out.at (x := (w.heap.size + 1, 27, #[.slice none 0 0])) (by simp))) ?_))
  refine (HB.out none 0 [] _ (by decide) (RowIn.nil (Nat.zero_le _))).mono ?_
  rintro e w4 ⟨A4, c4, rfl, r4, b4⟩
  rw [Z3.out.1, Z3.out.2]
  have H4 := Lib.hid (H3.out.call b4)
  clear b4 r4 H3
  go_wp2_with (first
      | ((with_reducible refine at_store 6 20 ?_); refine tyRg.wpList_store rfl (.tmp 6) (.tmp 20) rfl rfl w4.heap.size ((A4, 0, c4)) rfl rfl 27 _ (Blk.new w4 27 _) rfl ?_; intro w5 o5 b5
         have H5 := Lib.hid (H4.out.put o5 b5)
         clear o5 b5)
      | ((with_reducible refine at_load 3 ?_); refine tyRg.wpList_load rfl (.tmp 3) rfl (w.heap.size + 1) 0 rfl (none, 0, 0) (RowC.of_blk (H5.out.at (x := (w.heap.size + 1, 27, #[.slice none 0 0])) (by simp))) ?_)
      | ((with_reducible refine at_load 1 ?_); refine tyKc.wpList_load rfl (.tmp 1) rfl (w.heap.size) 0 rfl (k) (RowC.of_blk (H5.out.at (x := (w.heap.size, 24, (encK k).toArray)) (by simp))) ?_))
  refine (HP.out none 0 [] k _ (by decide) (RowIn.nil (Nat.zero_le _))).mono ?_
  rintro e w6 ⟨A, c, rfl, r6, _, b6⟩
  rw [Z4.out] at r6 ⊢
  have R6 := Lib.hid r6
  have H6 := Lib.hid (H5.out.call b6)
  clear b6 r6 H5
  go_wp2_with (first
      | ((with_reducible refine at_store 8 24 ?_); refine tyRg.wpList_store rfl (.tmp 8) (.tmp 24) rfl rfl w6.heap.size ((A, 1, c)) rfl rfl 27 _ (Blk.new w6 27 _) rfl ?_; intro w7 o7 b7
         have H7 := Lib.hid (H6.out.put o7 b7)
         have S7 := Lib.hid (show w6.heap.size ≤ w7.heap.size by rw [o7.size]; simp)
         have R7 := Lib.hid (show RowIn encK 32 w7 w7.heap.size A c [k] from ((R6.out.below ((Below.refl _ _).alloc (Nat.le_refl _) _)).below (o7.below (B := w6.heap.size) (by simp))).more S7.out)
         clear o7 b7)
      | ((with_reducible refine at_load 8 ?_); refine tyRg.wpList_load rfl (.tmp 8) rfl (w6.heap.size) 0 rfl (A, 1, c) (RowC.of_blk (H7.out.at (x := (w6.heap.size, 27, (encR (A, 1, c)).toArray)) (by simp))) ?_))
  refine (HL.out A c [k] _ (by simp) R7.out).mono ?_
  rintro e w8 ⟨rfl, b8⟩
  rw [Z7.out.1, Z7.out.2]
  have H8 := Lib.hid (H7.out.call b8)
  have R8 := Lib.hid ((R7.out.below b8).more b8.size)
  clear b8 H7 R7
  go_wp2_with (first
      | ((with_reducible refine at_store 9 28 ?_); refine tyKc.wpList_store rfl (.tmp 9) (.tmp 28) rfl rfl w8.heap.size (k) rfl rfl 24 _ (Blk.new w8 24 _) rfl ?_; intro w9 o9 b9
         have H9 := Lib.hid (H8.out.put o9 b9)
         have S9 := Lib.hid (show w8.heap.size ≤ w9.heap.size by rw [o9.size]; simp)
         have R9 := Lib.hid (show RowIn encK 32 w9 w9.heap.size A c [k] from ((R8.out.below ((Below.refl _ _).alloc (Nat.le_refl _) _)).below (o9.below (B := w8.heap.size) (by simp))).more S9.out)
         clear o9 b9)
      | ((with_reducible refine at_load 3 ?_); refine tyRg.wpList_load rfl (.tmp 3) rfl (w.heap.size + 1) 0 rfl (none, 0, 0) (RowC.of_blk (H9.out.at (x := (w.heap.size + 1, 27, #[.slice none 0 0])) (by simp))) ?_)
      | ((with_reducible refine at_load 1 ?_); refine tyKc.wpList_load rfl (.tmp 1) rfl (w.heap.size) 0 rfl (k) (RowC.of_blk (H9.out.at (x := (w.heap.size, 24, (encK k).toArray)) (by simp))) ?_))
  refine (HH.out none 0 [] k _ (by decide) (RowIn.nil (Nat.zero_le _))).mono ?_
  rintro e w10 ⟨rfl, b10⟩
  rw [Z5.out]
  have H10 := Lib.hid (H9.out.call b10)
  have R10 := Lib.hid ((R9.out.below b10).more b10.size)
  clear b10 H9 R9
  go_wp2_with (first
      | ((with_reducible refine at_loadg 4 ?_); refine tyKc.wpList_load (by rfl) (.tmp 4) rfl (w2.heap.size) 0 rfl (zeroKey) (RowC.of_blk (H10.out.at (x := (w2.heap.size, 24, (encK zeroKey).toArray)) (by simp))) ?_)
      | ((with_reducible refine at_build 40 ?_); refine wpList_unguard (by rfl) ?_; refine wpList_built rfl 24 #[] rfl (encK zeroKey).toArray (by kernel_rfl) ?_)
      | ((with_reducible refine at_eqlg 39 40 ?_); refine wpList_eql_rowg (by rfl) 24 24 (.tmp 39) (.tmp 40) rfl (encK zeroKey).toArray (encK zeroKey).toArray rfl rfl (by kernel_rfl) true (fun V => (eqKy_run _ _ V).trans (by simp)) ?_; simp only [Act.put, List.setIfInBounds_toArray, List.set_cons_succ, List.set_cons_zero])
      | ((with_reducible refine at_loadg 8 ?_); refine tyRg.wpList_load (by rfl) (.tmp 8) rfl (w6.heap.size) 0 rfl (A, 1, c) (RowC.of_blk (H10.out.at (x := (w6.heap.size, 27, (encR (A, 1, c)).toArray)) (by simp))) ?_)
      | ((with_reducible refine at_loadg 1 ?_); refine tyKc.wpList_load (by rfl) (.tmp 1) rfl (w.heap.size) 0 rfl (k) (RowC.of_blk (H10.out.at (x := (w.heap.size, 24, (encK k).toArray)) (by simp))) ?_))
  refine (HH.out A c [k] k _ (by simp) R10.out).mono ?_
  rintro e w11 ⟨rfl, b11⟩
  rw [Z6.out]
  have H11 := Lib.hid (H10.out.call b11)
  clear b11 H10
  go_wp2_with (first
      | ((with_reducible refine at_loadg 9 ?_); refine tyKc.wpList_load (by rfl) (.tmp 9) rfl (w8.heap.size) 0 rfl (k) (RowC.of_blk (H11.out.at (x := (w8.heap.size, 24, (encK k).toArray)) (by simp))) ?_)
      | ((with_reducible refine at_loadg 1 ?_); refine tyKc.wpList_load (by rfl) (.tmp 1) rfl (w.heap.size) 0 rfl (k) (RowC.of_blk (H11.out.at (x := (w.heap.size, 24, (encK k).toArray)) (by simp))) ?_)
      | ((with_reducible refine at_eqlg 56 57 ?_); refine wpList_eql_rowg (by rfl) 24 24 (.tmp 56) (.tmp 57) rfl (encK k).toArray (encK k).toArray rfl rfl (by kernel_rfl) true (fun V => (eqKy_run _ _ V).trans (by simp)) ?_; simp only [Act.put, List.setIfInBounds_toArray, List.set_cons_succ, List.set_cons_zero]))
  refine (SH.out _).mono ?_
  rintro e w12 ⟨rfl, b12⟩
  have H12 := Lib.hid (H11.out.call b12)
  clear b12 H11
  go_wp2_with fail
  go_ret
  exact ⟨rfl, H12.out.below⟩
end Go.Proofs.Ytiifamfophbbcaa
