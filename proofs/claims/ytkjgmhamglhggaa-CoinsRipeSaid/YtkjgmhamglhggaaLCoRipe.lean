/- CoinsRipe: the statement's walk. Written by genLCoR.py. -/
import Derived.Test.YtkjgmhamglhggaaCoiX
namespace Go.Proofs.Ytkjgmhamglhggaa
open Go.RowKit
def out7 : IntV .i64 × K32 := (⟨7, by decide⟩, zeroKey)
def coin7 (id : K32) (h : IntV .u32) (b : Bool) : CoinV := ⟨(id, i0), out7, h, b⟩
theorem ripe_apply1 (T : TxV) (id : K32) (h : IntV .u32) (b : Bool) (hi : T.ins = if b then [ptZ] else []) (ho : T.outs = [out7]) : applyR [] T id h = (([coin7 id h b], []), 0) := by
  have hc : coinF T = b := by
    cases b with
    | true => rw [coinF_one T (by rw [hi]; rfl)]; exact decide_eq_true (by simp [hi]; rfl)
    | false => exact coinF_no T (by rw [hi]; decide)
  rw [apply_made T id h (by cases b with
    | true => exact .inr hc
    | false => exact .inl hi) (by rw [ho]; decide), hc, ho]
  rfl
theorem ripe_apply2 (T : TxV) (id other : K32) (h h2 : IntV .u32) (b : Bool) (hi : T.ins = [(id, i0)]) (ho : T.outs = []) (hid : id ≠ zeroKey) :
    applyR [coin7 id h b] T other h2 = if ripeF (coin7 id h b) h2 then (([], [coin7 id h b]), 0) else (([], []), 160) := by
  rw [apply_one _ T other h2 (id, i0) hi ho hid]
  have hf : findK [coin7 id h b] (id, i0) = some (coin7 id h b) := by simp [findK, findC, coin7]
  rw [hf]
  simp only
  have hd : delC CoinV.at_ [coin7 id h b] (id, i0) = [] := by simp [delC, coin7]
  rw [hd]
set_option maxRecDepth 20000 in
set_option maxHeartbeats 4000000 in
theorem cripe_fz (HAP : ApplyOk) (HRP : RipeOk) (id other : K32) (n m : Int) (w : World) (hn : (Lit.int .u16 n).wf = true) (hm : (Lit.int .u8 m).wf = true) (hz : decide (id = zeroKey) = true) :
    Calls Try.prog 5 #[.agg (encK id).toArray, .agg (encK other).toArray, .int .u16 n, .int .u8 m, .bool false] w fun e w' => e = .returned (.bool true) ∧ Below w.heap.size w w' := by
  have SH := Lib.hid (fun W => coishown_any HAP W)
  have HP := Lib.hid HAP
  have HQ := Lib.hid HRP
  have HZ := Lib.hid hz
  have hn1 : 0 ≤ n ∧ n < 65536 := by
    simp [Lit.wf, IntKind.min, IntKind.max, IntKind.signed, IntKind.bits] at hn
    omega
  have hm1 : 0 ≤ m ∧ m < 256 := by
    simp [Lit.wf, IntKind.min, IntKind.max, IntKind.signed, IntKind.bits] at hm
    omega
  obtain ⟨h1, hh1⟩ : ∃ h : IntV .u32, h.1 = n := ⟨⟨n, wf_u32.2 (by omega)⟩, rfl⟩
  obtain ⟨h2, hh2⟩ : ∃ h : IntV .u32, h.1 = n + m := ⟨⟨n + m, wf_u32.2 (by omega)⟩, rfl⟩
  have hc1 : n % 4294967296 = n := by omega
  have hc2 : m % 4294967296 = m := by omega
  have hc3 : (n + m) % 4294967296 = n + m := by omega
  have HH1 := Lib.hid hh1
  have HH2 := Lib.hid hh2
  clear HAP HRP hh1 hh2 hn hm hn1 hm1 hz
  have H1 := Lib.hid (show Holds w [(w.heap.size + 2, 47, (cellsOf (encIK .i64) [out7]).toArray), (w.heap.size + 1, 27, (encK other).toArray), (w.heap.size, 27, (encK id).toArray)] (((w.alloc (.cells (encK id).toArray 27)).alloc (.cells (encK other).toArray 27)).alloc (.cells (cellsOf (encIK .i64) [out7]).toArray 47)) from by
    have := (((Holds.nil w).box 27 (encK id).toArray).box 27 (encK other).toArray).box 47 (cellsOf (encIK .i64) [out7]).toArray
    simpa only [World.size_alloc, Nat.add_assoc] using this)
  go_enter Try.func5, Try.ntmps5
  go_wp2_with (first
      | ((with_reducible refine at_build 20 ?_); refine wpList_built rfl 47 #[(0, .const (.int .i64 7))] rfl (encIK .i64 out7).toArray (by kernel_rfl) ?_)
      | ((with_reducible refine at_buildSlice 21 ?_); refine tyOut.wpList_build rfl zbOut 1 _ rfl [out7] rfl (by omega) (by omega) (by kernel_rfl) ?_; simp only [World.size_alloc])
      | ((with_reducible refine at_build 22 ?_); refine wpList_built rfl 30 #[(2, .tmp 21)] rfl (txIO [] none 0 [out7] (some ⟨w.heap.size + 2, 0, none⟩) 1).cells.toArray (by kernel_rfl) ?_)
      | ((with_reducible refine at_store 11 22 ?_); refine tyTx.wpList_store rfl (.tmp 11) (.tmp 22) rfl rfl _ (txIO [] none 0 [out7] (some ⟨w.heap.size + 2, 0, none⟩) 1) rfl rfl 30 _ (blk_new (g := w.heap.size + 1 + 1 + 1) 30 _ (by simp)) rfl ?_; intro w3 o3 b3
         have H3 := Lib.hid (show Holds w [(w.heap.size + 1 + 1 + 1, 30, (txIO [] none 0 [out7] (some ⟨w.heap.size + 2, 0, none⟩) 1).cells.toArray), (w.heap.size + 2, 47, (cellsOf (encIK .i64) [out7]).toArray), (w.heap.size + 1, 27, (encK other).toArray), (w.heap.size, 27, (encK id).toArray)] w3 from by have := H1.out.put (t := 30) (cs := (txIO [] none 0 [out7] (some ⟨w.heap.size + 2, 0, none⟩) 1).cells.toArray) (W' := w3) (by simpa using o3) (by simpa using b3); simpa using this)
         clear o3 b3)
      | ((with_reducible refine at_load 11 ?_); refine tyTx.wpList_load rfl (.tmp 11) rfl (w.heap.size + 1 + 1 + 1) (0) rfl (txIO [] none 0 [out7] (some ⟨w.heap.size + 2, 0, none⟩) 1) (RowC.of_blk (H3.out.at (x := (w.heap.size + 1 + 1 + 1, 30, (txIO [] none 0 [out7] (some ⟨w.heap.size + 2, 0, none⟩) 1).cells.toArray)) (by simp))) ?_)
      | ((with_reducible refine at_load 5 ?_); refine tyKc.wpList_load rfl (.tmp 5) rfl (w.heap.size) (0) rfl (id) (RowC.of_blk (H3.out.at (x := (w.heap.size, 27, (encK id).toArray)) (by simp))) ?_))
  refine (HP.out.at HH1.out (txIO [] none 0 [out7] (some ⟨w.heap.size + 2, 0, none⟩) 1) id none 0 [] _ (txIO_in (RowIn.nil (Nat.zero_le _)) (out_row (m := []) (H3.out.at (x := (w.heap.size + 2, 47, (cellsOf (encIK .i64) [out7]).toArray)) (by simp)) (by decide) (by decide))) (RowIn.nil (Nat.zero_le _)) (by decide) (show ([] : List PtV).length ≤ 300 by decide) (show ([out7] : List (IntV .i64 × K32)).length ≤ 300 by decide) .nil).mono ?_
  rw [ripe_apply1 _ id h1 false rfl rfl]
  rintro e w5 ⟨A1, c1, A2, c2, rfl, r1, _, b5⟩
  have H5 := Lib.hid (H3.out.call b5)
  obtain ⟨gc, oc, hA, _, _⟩ := r1.at encC_len (i := 0) (by simp)
  subst hA
  have R5 := Lib.hid (show RowIn encC 68 w5 w5.heap.size (some ⟨gc, oc, none⟩) c1 [coin7 id h1 false] from r1)
  have cb5 : w5.cell? ⟨gc, oc + 0 * 68 + 67, none⟩ = some (.bool false) := (crow_at R5.out 0 (by simp)).1.co_b
  clear r1 b5 H3
  go_wp2_with fail
  refine (SH.out _).mono ?_
  rintro e w6 ⟨rfl, b6⟩
  have H6 := Lib.hid (H5.out.call b6)
  have R6 := Lib.hid ((R5.out.below b6).more b6.size)
  have GC := Lib.hid (show gc < w6.heap.size from (crow_at R6.out 0 (by simp)).2)
  clear b6 H5 R5 cb5
  go_wp2_with (first
      | ((with_reducible refine at_load 5 ?_); refine tyKc.wpList_load rfl (.tmp 5) rfl (w.heap.size) (0) rfl (id) (RowC.of_blk (H6.out.at (x := (w.heap.size, 27, (encK id).toArray)) (by simp))) ?_)
      | ((with_reducible refine at_build 56 ?_); refine wpList_built rfl 32 #[(0, .tmp 55)] rfl (encKI .u32 (id, i0)).toArray ((congrArg (Try.prog.built 32) (show _ = [(0, Value.agg (encK id).toArray)] by kernel_rfl)).trans (built1_P _ rfl id)) ?_)
      | ((with_reducible refine at_build 58 ?_); refine wpList_built rfl 32 #[(0, .tmp 57)] rfl (encKI .u32 (id, i0)).toArray ((congrArg (Try.prog.built 32) (show _ = [(0, Value.agg (encK id).toArray)] by kernel_rfl)).trans (built1_P _ rfl id)) ?_)
      | ((with_reducible refine at_buildSlice 59 ?_); refine tyPt.wpList_build rfl zbPt 2 _ rfl [(id, i0), (id, i0)] rfl (by omega) (by omega) (by kernel_rfl) ?_)
      | ((with_reducible refine at_build 60 ?_); refine wpList_built rfl 30 #[(1, .tmp 59)] rfl (txIO [(id, i0), (id, i0)] (some ⟨w6.heap.size, 0, none⟩) 2 [] none 0).cells.toArray (by kernel_rfl) ?_)
      | ((with_reducible refine at_store 15 60 ?_); refine tyTx.wpList_store rfl (.tmp 15) (.tmp 60) rfl rfl _ (txIO [(id, i0), (id, i0)] (some ⟨w6.heap.size, 0, none⟩) 2 [] none 0) rfl rfl 30 _ (blk_new (g := w6.heap.size + 1) 30 _ (by simp)) rfl ?_; intro w8 o8 b8
         have H8 := Lib.hid (show Holds w ((w6.heap.size + 1, 30, (txIO [(id, i0), (id, i0)] (some ⟨w6.heap.size, 0, none⟩) 2 [] none 0).cells.toArray) :: (w6.heap.size, 32, (cellsOf (encKI .u32) [(id, i0), (id, i0)]).toArray) :: [(w.heap.size + 1 + 1 + 1, 30, (txIO [] none 0 [out7] (some ⟨w.heap.size + 2, 0, none⟩) 1).cells.toArray), (w.heap.size + 2, 47, (cellsOf (encIK .i64) [out7]).toArray), (w.heap.size + 1, 27, (encK other).toArray), (w.heap.size, 27, (encK id).toArray)]) w8 from by have := (H6.out.box 32 (cellsOf (encKI .u32) [(id, i0), (id, i0)]).toArray).put (t := 30) (cs := (txIO [(id, i0), (id, i0)] (some ⟨w6.heap.size, 0, none⟩) 2 [] none 0).cells.toArray) (W' := w8) (by simpa using o8) (by simpa using b8); simpa using this)
         have R8 := Lib.hid (show RowIn encC 68 w8 w8.heap.size (some ⟨gc, oc, none⟩) c1 [coin7 id h1 false] from ((R6.out.below (((Below.refl _ _).alloc (Nat.le_refl _) _).alloc (by simp) _)).below (o8.below (B := w6.heap.size) (by simp))).more (by rw [o8.size]; simp; omega))
         have G6 := Lib.hid (show w.heap.size + 1 + 1 + 1 < w6.heap.size from by have := H6.out.lt (x := (w.heap.size + 1 + 1 + 1, 30, (txIO [] none 0 [out7] (some ⟨w.heap.size + 2, 0, none⟩) 1).cells.toArray)) (by simp); simp at *; omega)
         have hs1 : ∀ W, (Instr.slice 24 (.slice (some ⟨w6.heap.size, 0, none⟩) 2 2) none (some (.int .i64 1)) none).run Try.prog W = .ok (.slice (some ⟨w6.heap.size, 0, none⟩) 1 2) W := fun W => tyPt.slice_to W (some ⟨w6.heap.size, 0, none⟩) 2 2 1 (by omega)
         have cs1 : w8.cell? ⟨w6.heap.size + 1, 1, none⟩ = some (.slice (some ⟨w6.heap.size, 0, none⟩) 2 2) := TxA.c1 (H8.out.at (x := (w6.heap.size + 1, 30, (txIO [(id, i0), (id, i0)] (some ⟨w6.heap.size, 0, none⟩) 2 [] none 0).cells.toArray)) (by simp) |> RowC.of_blk)
         clear o8 b8 H6 R6)
      | ((with_reducible refine at_store 64 63 ?_); refine wpList_store_cell rfl 24 (.tmp 64) (.tmp 63) rfl rfl (w6.heap.size + 1) 1 (.slice (some ⟨w6.heap.size, 0, none⟩) 1 2) rfl rfl rfl 30 (txIO [(id, i0), (id, i0)] (some ⟨w6.heap.size, 0, none⟩) 2 [] none 0).cells.toArray (H8.out.at (x := (w6.heap.size + 1, 30, (txIO [(id, i0), (id, i0)] (some ⟨w6.heap.size, 0, none⟩) 2 [] none 0).cells.toArray)) (by simp)) (by rw [tyTx.arr]; omega) (by kernel_rfl) ?_; intro w9 o9 b9
         have H9 := Lib.hid (H8.out.turn o9 (cs' := (txIO [(id, i0)] (some ⟨w6.heap.size, 0, none⟩) 2 [] none 0).cells.toArray) (txIO_ins [(id, i0), (id, i0)] [(id, i0)] (some ⟨w6.heap.size, 0, none⟩) (some ⟨w6.heap.size, 0, none⟩) none 2 2 0 [] ▸ b9) (by have := G6.out; omega) (by have := G6.out; simp; omega))
         have R9 := Lib.hid (show RowIn encC 68 w9 w9.heap.size (some ⟨gc, oc, none⟩) c1 [coin7 id h1 false] from by rw [o9.size]; exact crow_turn R8.out o9 (by have := GC.out; omega))
         clear o9 b9 H8 R8 cs1 hs1)
      | ((with_reducible refine at_load 5 ?_); refine tyKc.wpList_load rfl (.tmp 5) rfl (w.heap.size) (0) rfl (id) (RowC.of_blk (H9.out.at (x := (w.heap.size, 27, (encK id).toArray)) (by simp))) ?_)
      | ((with_reducible refine at_build 66 ?_); refine wpList_built rfl 27 #[] rfl (encK zeroKey).toArray (by kernel_rfl) ?_)
      | ((with_reducible refine at_eqlg 65 66 ?_); refine wpList_eql_rowg (by rfl) 27 27 (.tmp 65) (.tmp 66) rfl (encK id).toArray (encK zeroKey).toArray rfl rfl (by kernel_rfl) true (fun V => (eqKy_run _ _ V).trans (by rw [HZ.out])) ?_; simp only [Act.put, List.setIfInBounds_toArray, List.set_cons_succ, List.set_cons_zero]))
  go_ret
  exact ⟨rfl, H9.out.below⟩
set_option maxRecDepth 20000 in
set_option maxHeartbeats 4000000 in
theorem cripe_fn (HAP : ApplyOk) (HRP : RipeOk) (id other : K32) (n m : Int) (w : World) (hn : (Lit.int .u16 n).wf = true) (hm : (Lit.int .u8 m).wf = true) (hz : decide (id = zeroKey) = false) :
    Calls Try.prog 5 #[.agg (encK id).toArray, .agg (encK other).toArray, .int .u16 n, .int .u8 m, .bool false] w fun e w' => e = .returned (.bool true) ∧ Below w.heap.size w w' := by
  have SH := Lib.hid (fun W => coishown_any HAP W)
  have HP := Lib.hid HAP
  have HQ := Lib.hid HRP
  have HZ := Lib.hid hz
  have hn1 : 0 ≤ n ∧ n < 65536 := by
    simp [Lit.wf, IntKind.min, IntKind.max, IntKind.signed, IntKind.bits] at hn
    omega
  have hm1 : 0 ≤ m ∧ m < 256 := by
    simp [Lit.wf, IntKind.min, IntKind.max, IntKind.signed, IntKind.bits] at hm
    omega
  obtain ⟨h1, hh1⟩ : ∃ h : IntV .u32, h.1 = n := ⟨⟨n, wf_u32.2 (by omega)⟩, rfl⟩
  obtain ⟨h2, hh2⟩ : ∃ h : IntV .u32, h.1 = n + m := ⟨⟨n + m, wf_u32.2 (by omega)⟩, rfl⟩
  have hc1 : n % 4294967296 = n := by omega
  have hc2 : m % 4294967296 = m := by omega
  have hc3 : (n + m) % 4294967296 = n + m := by omega
  have HH1 := Lib.hid hh1
  have HH2 := Lib.hid hh2
  have hid : id ≠ zeroKey := of_decide_eq_false hz
  have HRI := Lib.hid (show ripeF (coin7 id h1 false) h2 = true from rfl)
  have HA2 := Lib.hid (show ∀ (A : Option Addr) (c : Nat), applyR [coin7 id h1 false] (txIO [(id, i0)] A c [] none 0).T other h2 = (([], [coin7 id h1 false]), 0) from fun A c => by rw [ripe_apply2 _ id other h1 h2 false rfl rfl hid, HRI.out]; rfl)
  clear HAP HRP hh1 hh2 hn hm hn1 hm1 hz
  have H1 := Lib.hid (show Holds w [(w.heap.size + 2, 47, (cellsOf (encIK .i64) [out7]).toArray), (w.heap.size + 1, 27, (encK other).toArray), (w.heap.size, 27, (encK id).toArray)] (((w.alloc (.cells (encK id).toArray 27)).alloc (.cells (encK other).toArray 27)).alloc (.cells (cellsOf (encIK .i64) [out7]).toArray 47)) from by
    have := (((Holds.nil w).box 27 (encK id).toArray).box 27 (encK other).toArray).box 47 (cellsOf (encIK .i64) [out7]).toArray
    simpa only [World.size_alloc, Nat.add_assoc] using this)
  go_enter Try.func5, Try.ntmps5
  go_wp2_with (first
      | ((with_reducible refine at_build 20 ?_); refine wpList_built rfl 47 #[(0, .const (.int .i64 7))] rfl (encIK .i64 out7).toArray (by kernel_rfl) ?_)
      | ((with_reducible refine at_buildSlice 21 ?_); refine tyOut.wpList_build rfl zbOut 1 _ rfl [out7] rfl (by omega) (by omega) (by kernel_rfl) ?_; simp only [World.size_alloc])
      | ((with_reducible refine at_build 22 ?_); refine wpList_built rfl 30 #[(2, .tmp 21)] rfl (txIO [] none 0 [out7] (some ⟨w.heap.size + 2, 0, none⟩) 1).cells.toArray (by kernel_rfl) ?_)
      | ((with_reducible refine at_store 11 22 ?_); refine tyTx.wpList_store rfl (.tmp 11) (.tmp 22) rfl rfl _ (txIO [] none 0 [out7] (some ⟨w.heap.size + 2, 0, none⟩) 1) rfl rfl 30 _ (blk_new (g := w.heap.size + 1 + 1 + 1) 30 _ (by simp)) rfl ?_; intro w3 o3 b3
         have H3 := Lib.hid (show Holds w [(w.heap.size + 1 + 1 + 1, 30, (txIO [] none 0 [out7] (some ⟨w.heap.size + 2, 0, none⟩) 1).cells.toArray), (w.heap.size + 2, 47, (cellsOf (encIK .i64) [out7]).toArray), (w.heap.size + 1, 27, (encK other).toArray), (w.heap.size, 27, (encK id).toArray)] w3 from by have := H1.out.put (t := 30) (cs := (txIO [] none 0 [out7] (some ⟨w.heap.size + 2, 0, none⟩) 1).cells.toArray) (W' := w3) (by simpa using o3) (by simpa using b3); simpa using this)
         clear o3 b3)
      | ((with_reducible refine at_load 11 ?_); refine tyTx.wpList_load rfl (.tmp 11) rfl (w.heap.size + 1 + 1 + 1) (0) rfl (txIO [] none 0 [out7] (some ⟨w.heap.size + 2, 0, none⟩) 1) (RowC.of_blk (H3.out.at (x := (w.heap.size + 1 + 1 + 1, 30, (txIO [] none 0 [out7] (some ⟨w.heap.size + 2, 0, none⟩) 1).cells.toArray)) (by simp))) ?_)
      | ((with_reducible refine at_load 5 ?_); refine tyKc.wpList_load rfl (.tmp 5) rfl (w.heap.size) (0) rfl (id) (RowC.of_blk (H3.out.at (x := (w.heap.size, 27, (encK id).toArray)) (by simp))) ?_))
  refine (HP.out.at HH1.out (txIO [] none 0 [out7] (some ⟨w.heap.size + 2, 0, none⟩) 1) id none 0 [] _ (txIO_in (RowIn.nil (Nat.zero_le _)) (out_row (m := []) (H3.out.at (x := (w.heap.size + 2, 47, (cellsOf (encIK .i64) [out7]).toArray)) (by simp)) (by decide) (by decide))) (RowIn.nil (Nat.zero_le _)) (by decide) (show ([] : List PtV).length ≤ 300 by decide) (show ([out7] : List (IntV .i64 × K32)).length ≤ 300 by decide) .nil).mono ?_
  rw [ripe_apply1 _ id h1 false rfl rfl]
  rintro e w5 ⟨A1, c1, A2, c2, rfl, r1, _, b5⟩
  have H5 := Lib.hid (H3.out.call b5)
  obtain ⟨gc, oc, hA, _, _⟩ := r1.at encC_len (i := 0) (by simp)
  subst hA
  have R5 := Lib.hid (show RowIn encC 68 w5 w5.heap.size (some ⟨gc, oc, none⟩) c1 [coin7 id h1 false] from r1)
  have cb5 : w5.cell? ⟨gc, oc + 0 * 68 + 67, none⟩ = some (.bool false) := (crow_at R5.out 0 (by simp)).1.co_b
  clear r1 b5 H3
  go_wp2_with fail
  refine (SH.out _).mono ?_
  rintro e w6 ⟨rfl, b6⟩
  have H6 := Lib.hid (H5.out.call b6)
  have R6 := Lib.hid ((R5.out.below b6).more b6.size)
  have GC := Lib.hid (show gc < w6.heap.size from (crow_at R6.out 0 (by simp)).2)
  clear b6 H5 R5 cb5
  go_wp2_with (first
      | ((with_reducible refine at_load 5 ?_); refine tyKc.wpList_load rfl (.tmp 5) rfl (w.heap.size) (0) rfl (id) (RowC.of_blk (H6.out.at (x := (w.heap.size, 27, (encK id).toArray)) (by simp))) ?_)
      | ((with_reducible refine at_build 56 ?_); refine wpList_built rfl 32 #[(0, .tmp 55)] rfl (encKI .u32 (id, i0)).toArray ((congrArg (Try.prog.built 32) (show _ = [(0, Value.agg (encK id).toArray)] by kernel_rfl)).trans (built1_P _ rfl id)) ?_)
      | ((with_reducible refine at_build 58 ?_); refine wpList_built rfl 32 #[(0, .tmp 57)] rfl (encKI .u32 (id, i0)).toArray ((congrArg (Try.prog.built 32) (show _ = [(0, Value.agg (encK id).toArray)] by kernel_rfl)).trans (built1_P _ rfl id)) ?_)
      | ((with_reducible refine at_buildSlice 59 ?_); refine tyPt.wpList_build rfl zbPt 2 _ rfl [(id, i0), (id, i0)] rfl (by omega) (by omega) (by kernel_rfl) ?_)
      | ((with_reducible refine at_build 60 ?_); refine wpList_built rfl 30 #[(1, .tmp 59)] rfl (txIO [(id, i0), (id, i0)] (some ⟨w6.heap.size, 0, none⟩) 2 [] none 0).cells.toArray (by kernel_rfl) ?_)
      | ((with_reducible refine at_store 15 60 ?_); refine tyTx.wpList_store rfl (.tmp 15) (.tmp 60) rfl rfl _ (txIO [(id, i0), (id, i0)] (some ⟨w6.heap.size, 0, none⟩) 2 [] none 0) rfl rfl 30 _ (blk_new (g := w6.heap.size + 1) 30 _ (by simp)) rfl ?_; intro w8 o8 b8
         have H8 := Lib.hid (show Holds w ((w6.heap.size + 1, 30, (txIO [(id, i0), (id, i0)] (some ⟨w6.heap.size, 0, none⟩) 2 [] none 0).cells.toArray) :: (w6.heap.size, 32, (cellsOf (encKI .u32) [(id, i0), (id, i0)]).toArray) :: [(w.heap.size + 1 + 1 + 1, 30, (txIO [] none 0 [out7] (some ⟨w.heap.size + 2, 0, none⟩) 1).cells.toArray), (w.heap.size + 2, 47, (cellsOf (encIK .i64) [out7]).toArray), (w.heap.size + 1, 27, (encK other).toArray), (w.heap.size, 27, (encK id).toArray)]) w8 from by have := (H6.out.box 32 (cellsOf (encKI .u32) [(id, i0), (id, i0)]).toArray).put (t := 30) (cs := (txIO [(id, i0), (id, i0)] (some ⟨w6.heap.size, 0, none⟩) 2 [] none 0).cells.toArray) (W' := w8) (by simpa using o8) (by simpa using b8); simpa using this)
         have R8 := Lib.hid (show RowIn encC 68 w8 w8.heap.size (some ⟨gc, oc, none⟩) c1 [coin7 id h1 false] from ((R6.out.below (((Below.refl _ _).alloc (Nat.le_refl _) _).alloc (by simp) _)).below (o8.below (B := w6.heap.size) (by simp))).more (by rw [o8.size]; simp; omega))
         have G6 := Lib.hid (show w.heap.size + 1 + 1 + 1 < w6.heap.size from by have := H6.out.lt (x := (w.heap.size + 1 + 1 + 1, 30, (txIO [] none 0 [out7] (some ⟨w.heap.size + 2, 0, none⟩) 1).cells.toArray)) (by simp); simp at *; omega)
         have hs1 : ∀ W, (Instr.slice 24 (.slice (some ⟨w6.heap.size, 0, none⟩) 2 2) none (some (.int .i64 1)) none).run Try.prog W = .ok (.slice (some ⟨w6.heap.size, 0, none⟩) 1 2) W := fun W => tyPt.slice_to W (some ⟨w6.heap.size, 0, none⟩) 2 2 1 (by omega)
         have cs1 : w8.cell? ⟨w6.heap.size + 1, 1, none⟩ = some (.slice (some ⟨w6.heap.size, 0, none⟩) 2 2) := TxA.c1 (H8.out.at (x := (w6.heap.size + 1, 30, (txIO [(id, i0), (id, i0)] (some ⟨w6.heap.size, 0, none⟩) 2 [] none 0).cells.toArray)) (by simp) |> RowC.of_blk)
         clear o8 b8 H6 R6)
      | ((with_reducible refine at_store 64 63 ?_); refine wpList_store_cell rfl 24 (.tmp 64) (.tmp 63) rfl rfl (w6.heap.size + 1) 1 (.slice (some ⟨w6.heap.size, 0, none⟩) 1 2) rfl rfl rfl 30 (txIO [(id, i0), (id, i0)] (some ⟨w6.heap.size, 0, none⟩) 2 [] none 0).cells.toArray (H8.out.at (x := (w6.heap.size + 1, 30, (txIO [(id, i0), (id, i0)] (some ⟨w6.heap.size, 0, none⟩) 2 [] none 0).cells.toArray)) (by simp)) (by rw [tyTx.arr]; omega) (by kernel_rfl) ?_; intro w9 o9 b9
         have H9 := Lib.hid (H8.out.turn o9 (cs' := (txIO [(id, i0)] (some ⟨w6.heap.size, 0, none⟩) 2 [] none 0).cells.toArray) (txIO_ins [(id, i0), (id, i0)] [(id, i0)] (some ⟨w6.heap.size, 0, none⟩) (some ⟨w6.heap.size, 0, none⟩) none 2 2 0 [] ▸ b9) (by have := G6.out; omega) (by have := G6.out; simp; omega))
         have R9 := Lib.hid (show RowIn encC 68 w9 w9.heap.size (some ⟨gc, oc, none⟩) c1 [coin7 id h1 false] from by rw [o9.size]; exact crow_turn R8.out o9 (by have := GC.out; omega))
         clear o9 b9 H8 R8 cs1 hs1)
      | ((with_reducible refine at_load 5 ?_); refine tyKc.wpList_load rfl (.tmp 5) rfl (w.heap.size) (0) rfl (id) (RowC.of_blk (H9.out.at (x := (w.heap.size, 27, (encK id).toArray)) (by simp))) ?_)
      | ((with_reducible refine at_build 66 ?_); refine wpList_built rfl 27 #[] rfl (encK zeroKey).toArray (by kernel_rfl) ?_)
      | ((with_reducible refine at_eqlg 65 66 ?_); refine wpList_eql_rowg (by rfl) 27 27 (.tmp 65) (.tmp 66) rfl (encK id).toArray (encK zeroKey).toArray rfl rfl (by kernel_rfl) false (fun V => (eqKy_run _ _ V).trans (by rw [HZ.out])) ?_; simp only [Act.put, List.setIfInBounds_toArray, List.set_cons_succ, List.set_cons_zero])
      | ((with_reducible refine at_load 15 ?_); refine tyTx.wpList_load rfl (.tmp 15) rfl (w6.heap.size + 1) (0) rfl (txIO [(id, i0)] (some ⟨w6.heap.size, 0, none⟩) 2 [] none 0) (RowC.of_blk (H9.out.at (x := (w6.heap.size + 1, 30, (txIO [(id, i0)] (some ⟨w6.heap.size, 0, none⟩) 2 [] none 0).cells.toArray)) (by simp))) ?_)
      | ((with_reducible refine at_load 6 ?_); refine tyKc.wpList_load rfl (.tmp 6) rfl (w.heap.size + 1) (0) rfl (other) (RowC.of_blk (H9.out.at (x := (w.heap.size + 1, 27, (encK other).toArray)) (by simp))) ?_))
  refine (HP.out.at HH2.out (txIO [(id, i0)] (some ⟨w6.heap.size, 0, none⟩) 2 [] none 0) other (some ⟨gc, oc, none⟩) c1 [coin7 id h1 false] _ (txIO_in (pt_row (l := [(id, i0)]) (m := [(id, i0)]) (H9.out.at (x := (w6.heap.size, 32, (cellsOf (encKI .u32) [(id, i0), (id, i0)]).toArray)) (by simp)) (by simp) (by decide)) (RowIn.nil (Nat.zero_le _))) R9.out (by simp) (show ([(id, i0)] : List PtV).length ≤ 300 by simp) (show ([] : List (IntV .i64 × K32)).length ≤ 300 by decide) (List.pairwise_singleton _ _)).mono ?_
  rw [HA2.out]
  rintro e w10 ⟨A3, c3, A4, c4, rfl, _, _, b10⟩
  have H10 := Lib.hid (H9.out.call b10)
  have R10 := Lib.hid ((R9.out.below b10).more b10.size)
  clear b10 H9 R9
  go_wp2_with (first
      | ((with_reducible refine at_loadg 100 ?_); refine tyCoc.wpList_load (by rfl) (.tmp 100) rfl (gc) (oc + 0 * 68) rfl (coin7 id h1 false) ((crow_at R10.out 0 (by simp)).1) ?_))
  refine (HQ.out.at HH2.out (coin7 id h1 false) _).mono ?_
  rintro e w11 ⟨rfl, b11⟩
  rw [HRI.out]
  have H11 := Lib.hid (H10.out.call b11)
  clear b11
  go_wp2_with fail
  go_ret
  exact ⟨rfl, H11.out.below⟩
set_option maxRecDepth 20000 in
set_option maxHeartbeats 4000000 in
theorem cripe_tz (HAP : ApplyOk) (HRP : RipeOk) (id other : K32) (n m : Int) (w : World) (hn : (Lit.int .u16 n).wf = true) (hm : (Lit.int .u8 m).wf = true) (hz : decide (id = zeroKey) = true) :
    Calls Try.prog 5 #[.agg (encK id).toArray, .agg (encK other).toArray, .int .u16 n, .int .u8 m, .bool true] w fun e w' => e = .returned (.bool true) ∧ Below w.heap.size w w' := by
  have SH := Lib.hid (fun W => coishown_any HAP W)
  have HP := Lib.hid HAP
  have HQ := Lib.hid HRP
  have HZ := Lib.hid hz
  have hn1 : 0 ≤ n ∧ n < 65536 := by
    simp [Lit.wf, IntKind.min, IntKind.max, IntKind.signed, IntKind.bits] at hn
    omega
  have hm1 : 0 ≤ m ∧ m < 256 := by
    simp [Lit.wf, IntKind.min, IntKind.max, IntKind.signed, IntKind.bits] at hm
    omega
  obtain ⟨h1, hh1⟩ : ∃ h : IntV .u32, h.1 = n := ⟨⟨n, wf_u32.2 (by omega)⟩, rfl⟩
  obtain ⟨h2, hh2⟩ : ∃ h : IntV .u32, h.1 = n + m := ⟨⟨n + m, wf_u32.2 (by omega)⟩, rfl⟩
  have hc1 : n % 4294967296 = n := by omega
  have hc2 : m % 4294967296 = m := by omega
  have hc3 : (n + m) % 4294967296 = n + m := by omega
  have HH1 := Lib.hid hh1
  have HH2 := Lib.hid hh2
  clear HAP HRP hh1 hh2 hn hm hn1 hm1 hz
  have H1 := Lib.hid (show Holds w [(w.heap.size + 2, 47, (cellsOf (encIK .i64) [out7]).toArray), (w.heap.size + 1, 27, (encK other).toArray), (w.heap.size, 27, (encK id).toArray)] (((w.alloc (.cells (encK id).toArray 27)).alloc (.cells (encK other).toArray 27)).alloc (.cells (cellsOf (encIK .i64) [out7]).toArray 47)) from by
    have := (((Holds.nil w).box 27 (encK id).toArray).box 27 (encK other).toArray).box 47 (cellsOf (encIK .i64) [out7]).toArray
    simpa only [World.size_alloc, Nat.add_assoc] using this)
  go_enter Try.func5, Try.ntmps5
  go_wp2_with (first
      | ((with_reducible refine at_build 20 ?_); refine wpList_built rfl 47 #[(0, .const (.int .i64 7))] rfl (encIK .i64 out7).toArray (by kernel_rfl) ?_)
      | ((with_reducible refine at_buildSlice 21 ?_); refine tyOut.wpList_build rfl zbOut 1 _ rfl [out7] rfl (by omega) (by omega) (by kernel_rfl) ?_; simp only [World.size_alloc])
      | ((with_reducible refine at_build 22 ?_); refine wpList_built rfl 30 #[(2, .tmp 21)] rfl (txIO [] none 0 [out7] (some ⟨w.heap.size + 2, 0, none⟩) 1).cells.toArray (by kernel_rfl) ?_)
      | ((with_reducible refine at_store 11 22 ?_); refine tyTx.wpList_store rfl (.tmp 11) (.tmp 22) rfl rfl _ (txIO [] none 0 [out7] (some ⟨w.heap.size + 2, 0, none⟩) 1) rfl rfl 30 _ (blk_new (g := w.heap.size + 1 + 1 + 1) 30 _ (by simp)) rfl ?_; intro w3 o3 b3
         have H3 := Lib.hid (show Holds w [(w.heap.size + 1 + 1 + 1, 30, (txIO [] none 0 [out7] (some ⟨w.heap.size + 2, 0, none⟩) 1).cells.toArray), (w.heap.size + 2, 47, (cellsOf (encIK .i64) [out7]).toArray), (w.heap.size + 1, 27, (encK other).toArray), (w.heap.size, 27, (encK id).toArray)] w3 from by have := H1.out.put (t := 30) (cs := (txIO [] none 0 [out7] (some ⟨w.heap.size + 2, 0, none⟩) 1).cells.toArray) (W' := w3) (by simpa using o3) (by simpa using b3); simpa using this)
         clear o3 b3)
      | ((with_reducible refine at_build 24 ?_); refine wpList_built rfl 32 #[] rfl (encKI .u32 ptZ).toArray (by kernel_rfl) ?_)
      | ((with_reducible refine at_buildSlice 25 ?_); refine tyPt.wpList_build rfl zbPt 1 _ rfl [ptZ] rfl (by omega) (by omega) (by kernel_rfl) ?_)
      | ((with_reducible refine at_store 26 25 ?_); refine wpList_store_cell rfl 24 (.tmp 26) (.tmp 25) rfl rfl (w.heap.size + 1 + 1 + 1) 1 (.slice (some ⟨w3.heap.size, 0, none⟩) 1 1) rfl rfl rfl 30 (txIO [] none 0 [out7] (some ⟨w.heap.size + 2, 0, none⟩) 1).cells.toArray ((H3.out.at (x := (w.heap.size + 1 + 1 + 1, 30, (txIO [] none 0 [out7] (some ⟨w.heap.size + 2, 0, none⟩) 1).cells.toArray)) (by simp)).alloc (.cells (cellsOf (encKI .u32) [ptZ]).toArray 32)) (by rw [tyTx.arr]; omega) (by kernel_rfl) ?_; intro w4 o4 b4
         have P4 := Lib.hid (o4.blk (Blk.new w3 32 (cellsOf (encKI .u32) [ptZ]).toArray) (by have := H3.out.lt (x := (w.heap.size + 1 + 1 + 1, 30, (txIO [] none 0 [out7] (some ⟨w.heap.size + 2, 0, none⟩) 1).cells.toArray)) (by simp); simp at this ⊢; omega))
         have H4 := Lib.hid ((H3.out.alloc (.cells (cellsOf (encKI .u32) [ptZ]).toArray 32)).turn o4 (cs' := (txIO [ptZ] (some ⟨w3.heap.size, 0, none⟩) 1 [out7] (some ⟨w.heap.size + 2, 0, none⟩) 1).cells.toArray) (txIO_ins [] [ptZ] none (some ⟨w3.heap.size, 0, none⟩) (some ⟨w.heap.size + 2, 0, none⟩) 0 1 1 [out7] ▸ b4) (by omega) (by simp; omega))
         clear o4 b4 H3)
      | ((with_reducible refine at_load 11 ?_); refine tyTx.wpList_load rfl (.tmp 11) rfl (w.heap.size + 1 + 1 + 1) (0) rfl (txIO [ptZ] (some ⟨w3.heap.size, 0, none⟩) 1 [out7] (some ⟨w.heap.size + 2, 0, none⟩) 1) (RowC.of_blk (H4.out.at (x := (w.heap.size + 1 + 1 + 1, 30, (txIO [ptZ] (some ⟨w3.heap.size, 0, none⟩) 1 [out7] (some ⟨w.heap.size + 2, 0, none⟩) 1).cells.toArray)) (by simp))) ?_)
      | ((with_reducible refine at_load 5 ?_); refine tyKc.wpList_load rfl (.tmp 5) rfl (w.heap.size) (0) rfl (id) (RowC.of_blk (H4.out.at (x := (w.heap.size, 27, (encK id).toArray)) (by simp))) ?_))
  refine (HP.out.at HH1.out (txIO [ptZ] (some ⟨w3.heap.size, 0, none⟩) 1 [out7] (some ⟨w.heap.size + 2, 0, none⟩) 1) id none 0 [] _ (txIO_in (pt_row (m := []) P4.out (by decide) (by decide)) (out_row (m := []) (H4.out.at (x := (w.heap.size + 2, 47, (cellsOf (encIK .i64) [out7]).toArray)) (by simp)) (by decide) (by decide))) (RowIn.nil (Nat.zero_le _)) (by decide) (show ([ptZ] : List PtV).length ≤ 300 by decide) (show ([out7] : List (IntV .i64 × K32)).length ≤ 300 by decide) .nil).mono ?_
  rw [ripe_apply1 _ id h1 true rfl rfl]
  rintro e w5 ⟨A1, c1, A2, c2, rfl, r1, _, b5⟩
  have H5 := Lib.hid (H4.out.call b5)
  obtain ⟨gc, oc, hA, _, _⟩ := r1.at encC_len (i := 0) (by simp)
  subst hA
  have R5 := Lib.hid (show RowIn encC 68 w5 w5.heap.size (some ⟨gc, oc, none⟩) c1 [coin7 id h1 true] from r1)
  have cb5 : w5.cell? ⟨gc, oc + 0 * 68 + 67, none⟩ = some (.bool true) := (crow_at R5.out 0 (by simp)).1.co_b
  clear r1 b5 H4 P4
  go_wp2_with fail
  refine (SH.out _).mono ?_
  rintro e w6 ⟨rfl, b6⟩
  have H6 := Lib.hid (H5.out.call b6)
  have R6 := Lib.hid ((R5.out.below b6).more b6.size)
  have GC := Lib.hid (show gc < w6.heap.size from (crow_at R6.out 0 (by simp)).2)
  clear b6 H5 R5 cb5
  go_wp2_with (first
      | ((with_reducible refine at_load 5 ?_); refine tyKc.wpList_load rfl (.tmp 5) rfl (w.heap.size) (0) rfl (id) (RowC.of_blk (H6.out.at (x := (w.heap.size, 27, (encK id).toArray)) (by simp))) ?_)
      | ((with_reducible refine at_build 56 ?_); refine wpList_built rfl 32 #[(0, .tmp 55)] rfl (encKI .u32 (id, i0)).toArray ((congrArg (Try.prog.built 32) (show _ = [(0, Value.agg (encK id).toArray)] by kernel_rfl)).trans (built1_P _ rfl id)) ?_)
      | ((with_reducible refine at_build 58 ?_); refine wpList_built rfl 32 #[(0, .tmp 57)] rfl (encKI .u32 (id, i0)).toArray ((congrArg (Try.prog.built 32) (show _ = [(0, Value.agg (encK id).toArray)] by kernel_rfl)).trans (built1_P _ rfl id)) ?_)
      | ((with_reducible refine at_buildSlice 59 ?_); refine tyPt.wpList_build rfl zbPt 2 _ rfl [(id, i0), (id, i0)] rfl (by omega) (by omega) (by kernel_rfl) ?_)
      | ((with_reducible refine at_build 60 ?_); refine wpList_built rfl 30 #[(1, .tmp 59)] rfl (txIO [(id, i0), (id, i0)] (some ⟨w6.heap.size, 0, none⟩) 2 [] none 0).cells.toArray (by kernel_rfl) ?_)
      | ((with_reducible refine at_store 15 60 ?_); refine tyTx.wpList_store rfl (.tmp 15) (.tmp 60) rfl rfl _ (txIO [(id, i0), (id, i0)] (some ⟨w6.heap.size, 0, none⟩) 2 [] none 0) rfl rfl 30 _ (blk_new (g := w6.heap.size + 1) 30 _ (by simp)) rfl ?_; intro w8 o8 b8
         have H8 := Lib.hid (show Holds w ((w6.heap.size + 1, 30, (txIO [(id, i0), (id, i0)] (some ⟨w6.heap.size, 0, none⟩) 2 [] none 0).cells.toArray) :: (w6.heap.size, 32, (cellsOf (encKI .u32) [(id, i0), (id, i0)]).toArray) :: [(w.heap.size + 1 + 1 + 1, 30, (txIO [ptZ] (some ⟨w3.heap.size, 0, none⟩) 1 [out7] (some ⟨w.heap.size + 2, 0, none⟩) 1).cells.toArray), (w.heap.size + 2, 47, (cellsOf (encIK .i64) [out7]).toArray), (w.heap.size + 1, 27, (encK other).toArray), (w.heap.size, 27, (encK id).toArray)]) w8 from by have := (H6.out.box 32 (cellsOf (encKI .u32) [(id, i0), (id, i0)]).toArray).put (t := 30) (cs := (txIO [(id, i0), (id, i0)] (some ⟨w6.heap.size, 0, none⟩) 2 [] none 0).cells.toArray) (W' := w8) (by simpa using o8) (by simpa using b8); simpa using this)
         have R8 := Lib.hid (show RowIn encC 68 w8 w8.heap.size (some ⟨gc, oc, none⟩) c1 [coin7 id h1 true] from ((R6.out.below (((Below.refl _ _).alloc (Nat.le_refl _) _).alloc (by simp) _)).below (o8.below (B := w6.heap.size) (by simp))).more (by rw [o8.size]; simp; omega))
         have G6 := Lib.hid (show w.heap.size + 1 + 1 + 1 < w6.heap.size from by have := H6.out.lt (x := (w.heap.size + 1 + 1 + 1, 30, (txIO [ptZ] (some ⟨w3.heap.size, 0, none⟩) 1 [out7] (some ⟨w.heap.size + 2, 0, none⟩) 1).cells.toArray)) (by simp); simp at *; omega)
         have hs1 : ∀ W, (Instr.slice 24 (.slice (some ⟨w6.heap.size, 0, none⟩) 2 2) none (some (.int .i64 1)) none).run Try.prog W = .ok (.slice (some ⟨w6.heap.size, 0, none⟩) 1 2) W := fun W => tyPt.slice_to W (some ⟨w6.heap.size, 0, none⟩) 2 2 1 (by omega)
         have cs1 : w8.cell? ⟨w6.heap.size + 1, 1, none⟩ = some (.slice (some ⟨w6.heap.size, 0, none⟩) 2 2) := TxA.c1 (H8.out.at (x := (w6.heap.size + 1, 30, (txIO [(id, i0), (id, i0)] (some ⟨w6.heap.size, 0, none⟩) 2 [] none 0).cells.toArray)) (by simp) |> RowC.of_blk)
         clear o8 b8 H6 R6)
      | ((with_reducible refine at_store 64 63 ?_); refine wpList_store_cell rfl 24 (.tmp 64) (.tmp 63) rfl rfl (w6.heap.size + 1) 1 (.slice (some ⟨w6.heap.size, 0, none⟩) 1 2) rfl rfl rfl 30 (txIO [(id, i0), (id, i0)] (some ⟨w6.heap.size, 0, none⟩) 2 [] none 0).cells.toArray (H8.out.at (x := (w6.heap.size + 1, 30, (txIO [(id, i0), (id, i0)] (some ⟨w6.heap.size, 0, none⟩) 2 [] none 0).cells.toArray)) (by simp)) (by rw [tyTx.arr]; omega) (by kernel_rfl) ?_; intro w9 o9 b9
         have H9 := Lib.hid (H8.out.turn o9 (cs' := (txIO [(id, i0)] (some ⟨w6.heap.size, 0, none⟩) 2 [] none 0).cells.toArray) (txIO_ins [(id, i0), (id, i0)] [(id, i0)] (some ⟨w6.heap.size, 0, none⟩) (some ⟨w6.heap.size, 0, none⟩) none 2 2 0 [] ▸ b9) (by have := G6.out; omega) (by have := G6.out; simp; omega))
         have R9 := Lib.hid (show RowIn encC 68 w9 w9.heap.size (some ⟨gc, oc, none⟩) c1 [coin7 id h1 true] from by rw [o9.size]; exact crow_turn R8.out o9 (by have := GC.out; omega))
         clear o9 b9 H8 R8 cs1 hs1)
      | ((with_reducible refine at_load 5 ?_); refine tyKc.wpList_load rfl (.tmp 5) rfl (w.heap.size) (0) rfl (id) (RowC.of_blk (H9.out.at (x := (w.heap.size, 27, (encK id).toArray)) (by simp))) ?_)
      | ((with_reducible refine at_build 66 ?_); refine wpList_built rfl 27 #[] rfl (encK zeroKey).toArray (by kernel_rfl) ?_)
      | ((with_reducible refine at_eqlg 65 66 ?_); refine wpList_eql_rowg (by rfl) 27 27 (.tmp 65) (.tmp 66) rfl (encK id).toArray (encK zeroKey).toArray rfl rfl (by kernel_rfl) true (fun V => (eqKy_run _ _ V).trans (by rw [HZ.out])) ?_; simp only [Act.put, List.setIfInBounds_toArray, List.set_cons_succ, List.set_cons_zero]))
  go_ret
  exact ⟨rfl, H9.out.below⟩
set_option maxRecDepth 20000 in
set_option maxHeartbeats 4000000 in
theorem cripe_tr (HAP : ApplyOk) (HRP : RipeOk) (id other : K32) (n m : Int) (w : World) (hn : (Lit.int .u16 n).wf = true) (hm : (Lit.int .u8 m).wf = true) (hz : decide (id = zeroKey) = false) (hr : decide (3 ≤ m) = true) :
    Calls Try.prog 5 #[.agg (encK id).toArray, .agg (encK other).toArray, .int .u16 n, .int .u8 m, .bool true] w fun e w' => e = .returned (.bool true) ∧ Below w.heap.size w w' := by
  have SH := Lib.hid (fun W => coishown_any HAP W)
  have HP := Lib.hid HAP
  have HQ := Lib.hid HRP
  have HZ := Lib.hid hz
  have hn1 : 0 ≤ n ∧ n < 65536 := by
    simp [Lit.wf, IntKind.min, IntKind.max, IntKind.signed, IntKind.bits] at hn
    omega
  have hm1 : 0 ≤ m ∧ m < 256 := by
    simp [Lit.wf, IntKind.min, IntKind.max, IntKind.signed, IntKind.bits] at hm
    omega
  obtain ⟨h1, hh1⟩ : ∃ h : IntV .u32, h.1 = n := ⟨⟨n, wf_u32.2 (by omega)⟩, rfl⟩
  obtain ⟨h2, hh2⟩ : ∃ h : IntV .u32, h.1 = n + m := ⟨⟨n + m, wf_u32.2 (by omega)⟩, rfl⟩
  have hc1 : n % 4294967296 = n := by omega
  have hc2 : m % 4294967296 = m := by omega
  have hc3 : (n + m) % 4294967296 = n + m := by omega
  have HH1 := Lib.hid hh1
  have HH2 := Lib.hid hh2
  have hid : id ≠ zeroKey := of_decide_eq_false hz
  have HRI := Lib.hid (show ripeF (coin7 id h1 true) h2 = true from by
    have := of_decide_eq_true hr
    unfold ripeF coin7
    simp only [hh1, hh2, Bool.not_true, Bool.false_or]
    exact decide_eq_true (by omega))
  have HA2 := Lib.hid (show ∀ (A : Option Addr) (c : Nat), applyR [coin7 id h1 true] (txIO [(id, i0)] A c [] none 0).T other h2 = (([], [coin7 id h1 true]), 0) from fun A c => by rw [ripe_apply2 _ id other h1 h2 true rfl rfl hid, HRI.out]; rfl)
  clear HAP HRP hh1 hh2 hn hm hn1 hm1 hz
  have H1 := Lib.hid (show Holds w [(w.heap.size + 2, 47, (cellsOf (encIK .i64) [out7]).toArray), (w.heap.size + 1, 27, (encK other).toArray), (w.heap.size, 27, (encK id).toArray)] (((w.alloc (.cells (encK id).toArray 27)).alloc (.cells (encK other).toArray 27)).alloc (.cells (cellsOf (encIK .i64) [out7]).toArray 47)) from by
    have := (((Holds.nil w).box 27 (encK id).toArray).box 27 (encK other).toArray).box 47 (cellsOf (encIK .i64) [out7]).toArray
    simpa only [World.size_alloc, Nat.add_assoc] using this)
  go_enter Try.func5, Try.ntmps5
  go_wp2_with (first
      | ((with_reducible refine at_build 20 ?_); refine wpList_built rfl 47 #[(0, .const (.int .i64 7))] rfl (encIK .i64 out7).toArray (by kernel_rfl) ?_)
      | ((with_reducible refine at_buildSlice 21 ?_); refine tyOut.wpList_build rfl zbOut 1 _ rfl [out7] rfl (by omega) (by omega) (by kernel_rfl) ?_; simp only [World.size_alloc])
      | ((with_reducible refine at_build 22 ?_); refine wpList_built rfl 30 #[(2, .tmp 21)] rfl (txIO [] none 0 [out7] (some ⟨w.heap.size + 2, 0, none⟩) 1).cells.toArray (by kernel_rfl) ?_)
      | ((with_reducible refine at_store 11 22 ?_); refine tyTx.wpList_store rfl (.tmp 11) (.tmp 22) rfl rfl _ (txIO [] none 0 [out7] (some ⟨w.heap.size + 2, 0, none⟩) 1) rfl rfl 30 _ (blk_new (g := w.heap.size + 1 + 1 + 1) 30 _ (by simp)) rfl ?_; intro w3 o3 b3
         have H3 := Lib.hid (show Holds w [(w.heap.size + 1 + 1 + 1, 30, (txIO [] none 0 [out7] (some ⟨w.heap.size + 2, 0, none⟩) 1).cells.toArray), (w.heap.size + 2, 47, (cellsOf (encIK .i64) [out7]).toArray), (w.heap.size + 1, 27, (encK other).toArray), (w.heap.size, 27, (encK id).toArray)] w3 from by have := H1.out.put (t := 30) (cs := (txIO [] none 0 [out7] (some ⟨w.heap.size + 2, 0, none⟩) 1).cells.toArray) (W' := w3) (by simpa using o3) (by simpa using b3); simpa using this)
         clear o3 b3)
      | ((with_reducible refine at_build 24 ?_); refine wpList_built rfl 32 #[] rfl (encKI .u32 ptZ).toArray (by kernel_rfl) ?_)
      | ((with_reducible refine at_buildSlice 25 ?_); refine tyPt.wpList_build rfl zbPt 1 _ rfl [ptZ] rfl (by omega) (by omega) (by kernel_rfl) ?_)
      | ((with_reducible refine at_store 26 25 ?_); refine wpList_store_cell rfl 24 (.tmp 26) (.tmp 25) rfl rfl (w.heap.size + 1 + 1 + 1) 1 (.slice (some ⟨w3.heap.size, 0, none⟩) 1 1) rfl rfl rfl 30 (txIO [] none 0 [out7] (some ⟨w.heap.size + 2, 0, none⟩) 1).cells.toArray ((H3.out.at (x := (w.heap.size + 1 + 1 + 1, 30, (txIO [] none 0 [out7] (some ⟨w.heap.size + 2, 0, none⟩) 1).cells.toArray)) (by simp)).alloc (.cells (cellsOf (encKI .u32) [ptZ]).toArray 32)) (by rw [tyTx.arr]; omega) (by kernel_rfl) ?_; intro w4 o4 b4
         have P4 := Lib.hid (o4.blk (Blk.new w3 32 (cellsOf (encKI .u32) [ptZ]).toArray) (by have := H3.out.lt (x := (w.heap.size + 1 + 1 + 1, 30, (txIO [] none 0 [out7] (some ⟨w.heap.size + 2, 0, none⟩) 1).cells.toArray)) (by simp); simp at this ⊢; omega))
         have H4 := Lib.hid ((H3.out.alloc (.cells (cellsOf (encKI .u32) [ptZ]).toArray 32)).turn o4 (cs' := (txIO [ptZ] (some ⟨w3.heap.size, 0, none⟩) 1 [out7] (some ⟨w.heap.size + 2, 0, none⟩) 1).cells.toArray) (txIO_ins [] [ptZ] none (some ⟨w3.heap.size, 0, none⟩) (some ⟨w.heap.size + 2, 0, none⟩) 0 1 1 [out7] ▸ b4) (by omega) (by simp; omega))
         clear o4 b4 H3)
      | ((with_reducible refine at_load 11 ?_); refine tyTx.wpList_load rfl (.tmp 11) rfl (w.heap.size + 1 + 1 + 1) (0) rfl (txIO [ptZ] (some ⟨w3.heap.size, 0, none⟩) 1 [out7] (some ⟨w.heap.size + 2, 0, none⟩) 1) (RowC.of_blk (H4.out.at (x := (w.heap.size + 1 + 1 + 1, 30, (txIO [ptZ] (some ⟨w3.heap.size, 0, none⟩) 1 [out7] (some ⟨w.heap.size + 2, 0, none⟩) 1).cells.toArray)) (by simp))) ?_)
      | ((with_reducible refine at_load 5 ?_); refine tyKc.wpList_load rfl (.tmp 5) rfl (w.heap.size) (0) rfl (id) (RowC.of_blk (H4.out.at (x := (w.heap.size, 27, (encK id).toArray)) (by simp))) ?_))
  refine (HP.out.at HH1.out (txIO [ptZ] (some ⟨w3.heap.size, 0, none⟩) 1 [out7] (some ⟨w.heap.size + 2, 0, none⟩) 1) id none 0 [] _ (txIO_in (pt_row (m := []) P4.out (by decide) (by decide)) (out_row (m := []) (H4.out.at (x := (w.heap.size + 2, 47, (cellsOf (encIK .i64) [out7]).toArray)) (by simp)) (by decide) (by decide))) (RowIn.nil (Nat.zero_le _)) (by decide) (show ([ptZ] : List PtV).length ≤ 300 by decide) (show ([out7] : List (IntV .i64 × K32)).length ≤ 300 by decide) .nil).mono ?_
  rw [ripe_apply1 _ id h1 true rfl rfl]
  rintro e w5 ⟨A1, c1, A2, c2, rfl, r1, _, b5⟩
  have H5 := Lib.hid (H4.out.call b5)
  obtain ⟨gc, oc, hA, _, _⟩ := r1.at encC_len (i := 0) (by simp)
  subst hA
  have R5 := Lib.hid (show RowIn encC 68 w5 w5.heap.size (some ⟨gc, oc, none⟩) c1 [coin7 id h1 true] from r1)
  have cb5 : w5.cell? ⟨gc, oc + 0 * 68 + 67, none⟩ = some (.bool true) := (crow_at R5.out 0 (by simp)).1.co_b
  clear r1 b5 H4 P4
  go_wp2_with fail
  refine (SH.out _).mono ?_
  rintro e w6 ⟨rfl, b6⟩
  have H6 := Lib.hid (H5.out.call b6)
  have R6 := Lib.hid ((R5.out.below b6).more b6.size)
  have GC := Lib.hid (show gc < w6.heap.size from (crow_at R6.out 0 (by simp)).2)
  clear b6 H5 R5 cb5
  go_wp2_with (first
      | ((with_reducible refine at_load 5 ?_); refine tyKc.wpList_load rfl (.tmp 5) rfl (w.heap.size) (0) rfl (id) (RowC.of_blk (H6.out.at (x := (w.heap.size, 27, (encK id).toArray)) (by simp))) ?_)
      | ((with_reducible refine at_build 56 ?_); refine wpList_built rfl 32 #[(0, .tmp 55)] rfl (encKI .u32 (id, i0)).toArray ((congrArg (Try.prog.built 32) (show _ = [(0, Value.agg (encK id).toArray)] by kernel_rfl)).trans (built1_P _ rfl id)) ?_)
      | ((with_reducible refine at_build 58 ?_); refine wpList_built rfl 32 #[(0, .tmp 57)] rfl (encKI .u32 (id, i0)).toArray ((congrArg (Try.prog.built 32) (show _ = [(0, Value.agg (encK id).toArray)] by kernel_rfl)).trans (built1_P _ rfl id)) ?_)
      | ((with_reducible refine at_buildSlice 59 ?_); refine tyPt.wpList_build rfl zbPt 2 _ rfl [(id, i0), (id, i0)] rfl (by omega) (by omega) (by kernel_rfl) ?_)
      | ((with_reducible refine at_build 60 ?_); refine wpList_built rfl 30 #[(1, .tmp 59)] rfl (txIO [(id, i0), (id, i0)] (some ⟨w6.heap.size, 0, none⟩) 2 [] none 0).cells.toArray (by kernel_rfl) ?_)
      | ((with_reducible refine at_store 15 60 ?_); refine tyTx.wpList_store rfl (.tmp 15) (.tmp 60) rfl rfl _ (txIO [(id, i0), (id, i0)] (some ⟨w6.heap.size, 0, none⟩) 2 [] none 0) rfl rfl 30 _ (blk_new (g := w6.heap.size + 1) 30 _ (by simp)) rfl ?_; intro w8 o8 b8
         have H8 := Lib.hid (show Holds w ((w6.heap.size + 1, 30, (txIO [(id, i0), (id, i0)] (some ⟨w6.heap.size, 0, none⟩) 2 [] none 0).cells.toArray) :: (w6.heap.size, 32, (cellsOf (encKI .u32) [(id, i0), (id, i0)]).toArray) :: [(w.heap.size + 1 + 1 + 1, 30, (txIO [ptZ] (some ⟨w3.heap.size, 0, none⟩) 1 [out7] (some ⟨w.heap.size + 2, 0, none⟩) 1).cells.toArray), (w.heap.size + 2, 47, (cellsOf (encIK .i64) [out7]).toArray), (w.heap.size + 1, 27, (encK other).toArray), (w.heap.size, 27, (encK id).toArray)]) w8 from by have := (H6.out.box 32 (cellsOf (encKI .u32) [(id, i0), (id, i0)]).toArray).put (t := 30) (cs := (txIO [(id, i0), (id, i0)] (some ⟨w6.heap.size, 0, none⟩) 2 [] none 0).cells.toArray) (W' := w8) (by simpa using o8) (by simpa using b8); simpa using this)
         have R8 := Lib.hid (show RowIn encC 68 w8 w8.heap.size (some ⟨gc, oc, none⟩) c1 [coin7 id h1 true] from ((R6.out.below (((Below.refl _ _).alloc (Nat.le_refl _) _).alloc (by simp) _)).below (o8.below (B := w6.heap.size) (by simp))).more (by rw [o8.size]; simp; omega))
         have G6 := Lib.hid (show w.heap.size + 1 + 1 + 1 < w6.heap.size from by have := H6.out.lt (x := (w.heap.size + 1 + 1 + 1, 30, (txIO [ptZ] (some ⟨w3.heap.size, 0, none⟩) 1 [out7] (some ⟨w.heap.size + 2, 0, none⟩) 1).cells.toArray)) (by simp); simp at *; omega)
         have hs1 : ∀ W, (Instr.slice 24 (.slice (some ⟨w6.heap.size, 0, none⟩) 2 2) none (some (.int .i64 1)) none).run Try.prog W = .ok (.slice (some ⟨w6.heap.size, 0, none⟩) 1 2) W := fun W => tyPt.slice_to W (some ⟨w6.heap.size, 0, none⟩) 2 2 1 (by omega)
         have cs1 : w8.cell? ⟨w6.heap.size + 1, 1, none⟩ = some (.slice (some ⟨w6.heap.size, 0, none⟩) 2 2) := TxA.c1 (H8.out.at (x := (w6.heap.size + 1, 30, (txIO [(id, i0), (id, i0)] (some ⟨w6.heap.size, 0, none⟩) 2 [] none 0).cells.toArray)) (by simp) |> RowC.of_blk)
         clear o8 b8 H6 R6)
      | ((with_reducible refine at_store 64 63 ?_); refine wpList_store_cell rfl 24 (.tmp 64) (.tmp 63) rfl rfl (w6.heap.size + 1) 1 (.slice (some ⟨w6.heap.size, 0, none⟩) 1 2) rfl rfl rfl 30 (txIO [(id, i0), (id, i0)] (some ⟨w6.heap.size, 0, none⟩) 2 [] none 0).cells.toArray (H8.out.at (x := (w6.heap.size + 1, 30, (txIO [(id, i0), (id, i0)] (some ⟨w6.heap.size, 0, none⟩) 2 [] none 0).cells.toArray)) (by simp)) (by rw [tyTx.arr]; omega) (by kernel_rfl) ?_; intro w9 o9 b9
         have H9 := Lib.hid (H8.out.turn o9 (cs' := (txIO [(id, i0)] (some ⟨w6.heap.size, 0, none⟩) 2 [] none 0).cells.toArray) (txIO_ins [(id, i0), (id, i0)] [(id, i0)] (some ⟨w6.heap.size, 0, none⟩) (some ⟨w6.heap.size, 0, none⟩) none 2 2 0 [] ▸ b9) (by have := G6.out; omega) (by have := G6.out; simp; omega))
         have R9 := Lib.hid (show RowIn encC 68 w9 w9.heap.size (some ⟨gc, oc, none⟩) c1 [coin7 id h1 true] from by rw [o9.size]; exact crow_turn R8.out o9 (by have := GC.out; omega))
         clear o9 b9 H8 R8 cs1 hs1)
      | ((with_reducible refine at_load 5 ?_); refine tyKc.wpList_load rfl (.tmp 5) rfl (w.heap.size) (0) rfl (id) (RowC.of_blk (H9.out.at (x := (w.heap.size, 27, (encK id).toArray)) (by simp))) ?_)
      | ((with_reducible refine at_build 66 ?_); refine wpList_built rfl 27 #[] rfl (encK zeroKey).toArray (by kernel_rfl) ?_)
      | ((with_reducible refine at_eqlg 65 66 ?_); refine wpList_eql_rowg (by rfl) 27 27 (.tmp 65) (.tmp 66) rfl (encK id).toArray (encK zeroKey).toArray rfl rfl (by kernel_rfl) false (fun V => (eqKy_run _ _ V).trans (by rw [HZ.out])) ?_; simp only [Act.put, List.setIfInBounds_toArray, List.set_cons_succ, List.set_cons_zero])
      | ((with_reducible refine at_load 15 ?_); refine tyTx.wpList_load rfl (.tmp 15) rfl (w6.heap.size + 1) (0) rfl (txIO [(id, i0)] (some ⟨w6.heap.size, 0, none⟩) 2 [] none 0) (RowC.of_blk (H9.out.at (x := (w6.heap.size + 1, 30, (txIO [(id, i0)] (some ⟨w6.heap.size, 0, none⟩) 2 [] none 0).cells.toArray)) (by simp))) ?_)
      | ((with_reducible refine at_load 6 ?_); refine tyKc.wpList_load rfl (.tmp 6) rfl (w.heap.size + 1) (0) rfl (other) (RowC.of_blk (H9.out.at (x := (w.heap.size + 1, 27, (encK other).toArray)) (by simp))) ?_))
  refine (HP.out.at HH2.out (txIO [(id, i0)] (some ⟨w6.heap.size, 0, none⟩) 2 [] none 0) other (some ⟨gc, oc, none⟩) c1 [coin7 id h1 true] _ (txIO_in (pt_row (l := [(id, i0)]) (m := [(id, i0)]) (H9.out.at (x := (w6.heap.size, 32, (cellsOf (encKI .u32) [(id, i0), (id, i0)]).toArray)) (by simp)) (by simp) (by decide)) (RowIn.nil (Nat.zero_le _))) R9.out (by simp) (show ([(id, i0)] : List PtV).length ≤ 300 by simp) (show ([] : List (IntV .i64 × K32)).length ≤ 300 by decide) (List.pairwise_singleton _ _)).mono ?_
  rw [HA2.out]
  rintro e w10 ⟨A3, c3, A4, c4, rfl, _, _, b10⟩
  have H10 := Lib.hid (H9.out.call b10)
  have R10 := Lib.hid ((R9.out.below b10).more b10.size)
  clear b10 H9 R9
  have hr' : decide (3 ≤ m) = true := hr
  go_wp2_with (first
      | ((with_reducible refine at_loadg 100 ?_); refine tyCoc.wpList_load (by rfl) (.tmp 100) rfl (gc) (oc + 0 * 68) rfl (coin7 id h1 true) ((crow_at R10.out 0 (by simp)).1) ?_))
  refine (HQ.out.at HH2.out (coin7 id h1 true) _).mono ?_
  rintro e w11 ⟨rfl, b11⟩
  rw [HRI.out]
  have H11 := Lib.hid (H10.out.call b11)
  clear b11
  go_wp2_with fail
  go_ret
  exact ⟨rfl, H11.out.below⟩
set_option maxRecDepth 20000 in
set_option maxHeartbeats 4000000 in
theorem cripe_tu (HAP : ApplyOk) (HRP : RipeOk) (id other : K32) (n m : Int) (w : World) (hn : (Lit.int .u16 n).wf = true) (hm : (Lit.int .u8 m).wf = true) (hz : decide (id = zeroKey) = false) (hr : decide (3 ≤ m) = false) :
    Calls Try.prog 5 #[.agg (encK id).toArray, .agg (encK other).toArray, .int .u16 n, .int .u8 m, .bool true] w fun e w' => e = .returned (.bool true) ∧ Below w.heap.size w w' := by
  have SH := Lib.hid (fun W => coishown_any HAP W)
  have HP := Lib.hid HAP
  have HQ := Lib.hid HRP
  have HZ := Lib.hid hz
  have hn1 : 0 ≤ n ∧ n < 65536 := by
    simp [Lit.wf, IntKind.min, IntKind.max, IntKind.signed, IntKind.bits] at hn
    omega
  have hm1 : 0 ≤ m ∧ m < 256 := by
    simp [Lit.wf, IntKind.min, IntKind.max, IntKind.signed, IntKind.bits] at hm
    omega
  obtain ⟨h1, hh1⟩ : ∃ h : IntV .u32, h.1 = n := ⟨⟨n, wf_u32.2 (by omega)⟩, rfl⟩
  obtain ⟨h2, hh2⟩ : ∃ h : IntV .u32, h.1 = n + m := ⟨⟨n + m, wf_u32.2 (by omega)⟩, rfl⟩
  have hc1 : n % 4294967296 = n := by omega
  have hc2 : m % 4294967296 = m := by omega
  have hc3 : (n + m) % 4294967296 = n + m := by omega
  have HH1 := Lib.hid hh1
  have HH2 := Lib.hid hh2
  have hid : id ≠ zeroKey := of_decide_eq_false hz
  have HRI := Lib.hid (show ripeF (coin7 id h1 true) h2 = false from by
    have := of_decide_eq_false hr
    unfold ripeF coin7
    simp only [hh1, hh2, Bool.not_true, Bool.false_or]
    exact decide_eq_false (by omega))
  have HA2 := Lib.hid (show ∀ (A : Option Addr) (c : Nat), applyR [coin7 id h1 true] (txIO [(id, i0)] A c [] none 0).T other h2 = (([], []), 160) from fun A c => by rw [ripe_apply2 _ id other h1 h2 true rfl rfl hid, HRI.out]; rfl)
  clear HAP HRP hh1 hh2 hn hm hn1 hm1 hz
  have H1 := Lib.hid (show Holds w [(w.heap.size + 2, 47, (cellsOf (encIK .i64) [out7]).toArray), (w.heap.size + 1, 27, (encK other).toArray), (w.heap.size, 27, (encK id).toArray)] (((w.alloc (.cells (encK id).toArray 27)).alloc (.cells (encK other).toArray 27)).alloc (.cells (cellsOf (encIK .i64) [out7]).toArray 47)) from by
    have := (((Holds.nil w).box 27 (encK id).toArray).box 27 (encK other).toArray).box 47 (cellsOf (encIK .i64) [out7]).toArray
    simpa only [World.size_alloc, Nat.add_assoc] using this)
  go_enter Try.func5, Try.ntmps5
  go_wp2_with (first
      | ((with_reducible refine at_build 20 ?_); refine wpList_built rfl 47 #[(0, .const (.int .i64 7))] rfl (encIK .i64 out7).toArray (by kernel_rfl) ?_)
      | ((with_reducible refine at_buildSlice 21 ?_); refine tyOut.wpList_build rfl zbOut 1 _ rfl [out7] rfl (by omega) (by omega) (by kernel_rfl) ?_; simp only [World.size_alloc])
      | ((with_reducible refine at_build 22 ?_); refine wpList_built rfl 30 #[(2, .tmp 21)] rfl (txIO [] none 0 [out7] (some ⟨w.heap.size + 2, 0, none⟩) 1).cells.toArray (by kernel_rfl) ?_)
      | ((with_reducible refine at_store 11 22 ?_); refine tyTx.wpList_store rfl (.tmp 11) (.tmp 22) rfl rfl _ (txIO [] none 0 [out7] (some ⟨w.heap.size + 2, 0, none⟩) 1) rfl rfl 30 _ (blk_new (g := w.heap.size + 1 + 1 + 1) 30 _ (by simp)) rfl ?_; intro w3 o3 b3
         have H3 := Lib.hid (show Holds w [(w.heap.size + 1 + 1 + 1, 30, (txIO [] none 0 [out7] (some ⟨w.heap.size + 2, 0, none⟩) 1).cells.toArray), (w.heap.size + 2, 47, (cellsOf (encIK .i64) [out7]).toArray), (w.heap.size + 1, 27, (encK other).toArray), (w.heap.size, 27, (encK id).toArray)] w3 from by have := H1.out.put (t := 30) (cs := (txIO [] none 0 [out7] (some ⟨w.heap.size + 2, 0, none⟩) 1).cells.toArray) (W' := w3) (by simpa using o3) (by simpa using b3); simpa using this)
         clear o3 b3)
      | ((with_reducible refine at_build 24 ?_); refine wpList_built rfl 32 #[] rfl (encKI .u32 ptZ).toArray (by kernel_rfl) ?_)
      | ((with_reducible refine at_buildSlice 25 ?_); refine tyPt.wpList_build rfl zbPt 1 _ rfl [ptZ] rfl (by omega) (by omega) (by kernel_rfl) ?_)
      | ((with_reducible refine at_store 26 25 ?_); refine wpList_store_cell rfl 24 (.tmp 26) (.tmp 25) rfl rfl (w.heap.size + 1 + 1 + 1) 1 (.slice (some ⟨w3.heap.size, 0, none⟩) 1 1) rfl rfl rfl 30 (txIO [] none 0 [out7] (some ⟨w.heap.size + 2, 0, none⟩) 1).cells.toArray ((H3.out.at (x := (w.heap.size + 1 + 1 + 1, 30, (txIO [] none 0 [out7] (some ⟨w.heap.size + 2, 0, none⟩) 1).cells.toArray)) (by simp)).alloc (.cells (cellsOf (encKI .u32) [ptZ]).toArray 32)) (by rw [tyTx.arr]; omega) (by kernel_rfl) ?_; intro w4 o4 b4
         have P4 := Lib.hid (o4.blk (Blk.new w3 32 (cellsOf (encKI .u32) [ptZ]).toArray) (by have := H3.out.lt (x := (w.heap.size + 1 + 1 + 1, 30, (txIO [] none 0 [out7] (some ⟨w.heap.size + 2, 0, none⟩) 1).cells.toArray)) (by simp); simp at this ⊢; omega))
         have H4 := Lib.hid ((H3.out.alloc (.cells (cellsOf (encKI .u32) [ptZ]).toArray 32)).turn o4 (cs' := (txIO [ptZ] (some ⟨w3.heap.size, 0, none⟩) 1 [out7] (some ⟨w.heap.size + 2, 0, none⟩) 1).cells.toArray) (txIO_ins [] [ptZ] none (some ⟨w3.heap.size, 0, none⟩) (some ⟨w.heap.size + 2, 0, none⟩) 0 1 1 [out7] ▸ b4) (by omega) (by simp; omega))
         clear o4 b4 H3)
      | ((with_reducible refine at_load 11 ?_); refine tyTx.wpList_load rfl (.tmp 11) rfl (w.heap.size + 1 + 1 + 1) (0) rfl (txIO [ptZ] (some ⟨w3.heap.size, 0, none⟩) 1 [out7] (some ⟨w.heap.size + 2, 0, none⟩) 1) (RowC.of_blk (H4.out.at (x := (w.heap.size + 1 + 1 + 1, 30, (txIO [ptZ] (some ⟨w3.heap.size, 0, none⟩) 1 [out7] (some ⟨w.heap.size + 2, 0, none⟩) 1).cells.toArray)) (by simp))) ?_)
      | ((with_reducible refine at_load 5 ?_); refine tyKc.wpList_load rfl (.tmp 5) rfl (w.heap.size) (0) rfl (id) (RowC.of_blk (H4.out.at (x := (w.heap.size, 27, (encK id).toArray)) (by simp))) ?_))
  refine (HP.out.at HH1.out (txIO [ptZ] (some ⟨w3.heap.size, 0, none⟩) 1 [out7] (some ⟨w.heap.size + 2, 0, none⟩) 1) id none 0 [] _ (txIO_in (pt_row (m := []) P4.out (by decide) (by decide)) (out_row (m := []) (H4.out.at (x := (w.heap.size + 2, 47, (cellsOf (encIK .i64) [out7]).toArray)) (by simp)) (by decide) (by decide))) (RowIn.nil (Nat.zero_le _)) (by decide) (show ([ptZ] : List PtV).length ≤ 300 by decide) (show ([out7] : List (IntV .i64 × K32)).length ≤ 300 by decide) .nil).mono ?_
  rw [ripe_apply1 _ id h1 true rfl rfl]
  rintro e w5 ⟨A1, c1, A2, c2, rfl, r1, _, b5⟩
  have H5 := Lib.hid (H4.out.call b5)
  obtain ⟨gc, oc, hA, _, _⟩ := r1.at encC_len (i := 0) (by simp)
  subst hA
  have R5 := Lib.hid (show RowIn encC 68 w5 w5.heap.size (some ⟨gc, oc, none⟩) c1 [coin7 id h1 true] from r1)
  have cb5 : w5.cell? ⟨gc, oc + 0 * 68 + 67, none⟩ = some (.bool true) := (crow_at R5.out 0 (by simp)).1.co_b
  clear r1 b5 H4 P4
  go_wp2_with fail
  refine (SH.out _).mono ?_
  rintro e w6 ⟨rfl, b6⟩
  have H6 := Lib.hid (H5.out.call b6)
  have R6 := Lib.hid ((R5.out.below b6).more b6.size)
  have GC := Lib.hid (show gc < w6.heap.size from (crow_at R6.out 0 (by simp)).2)
  clear b6 H5 R5 cb5
  go_wp2_with (first
      | ((with_reducible refine at_load 5 ?_); refine tyKc.wpList_load rfl (.tmp 5) rfl (w.heap.size) (0) rfl (id) (RowC.of_blk (H6.out.at (x := (w.heap.size, 27, (encK id).toArray)) (by simp))) ?_)
      | ((with_reducible refine at_build 56 ?_); refine wpList_built rfl 32 #[(0, .tmp 55)] rfl (encKI .u32 (id, i0)).toArray ((congrArg (Try.prog.built 32) (show _ = [(0, Value.agg (encK id).toArray)] by kernel_rfl)).trans (built1_P _ rfl id)) ?_)
      | ((with_reducible refine at_build 58 ?_); refine wpList_built rfl 32 #[(0, .tmp 57)] rfl (encKI .u32 (id, i0)).toArray ((congrArg (Try.prog.built 32) (show _ = [(0, Value.agg (encK id).toArray)] by kernel_rfl)).trans (built1_P _ rfl id)) ?_)
      | ((with_reducible refine at_buildSlice 59 ?_); refine tyPt.wpList_build rfl zbPt 2 _ rfl [(id, i0), (id, i0)] rfl (by omega) (by omega) (by kernel_rfl) ?_)
      | ((with_reducible refine at_build 60 ?_); refine wpList_built rfl 30 #[(1, .tmp 59)] rfl (txIO [(id, i0), (id, i0)] (some ⟨w6.heap.size, 0, none⟩) 2 [] none 0).cells.toArray (by kernel_rfl) ?_)
      | ((with_reducible refine at_store 15 60 ?_); refine tyTx.wpList_store rfl (.tmp 15) (.tmp 60) rfl rfl _ (txIO [(id, i0), (id, i0)] (some ⟨w6.heap.size, 0, none⟩) 2 [] none 0) rfl rfl 30 _ (blk_new (g := w6.heap.size + 1) 30 _ (by simp)) rfl ?_; intro w8 o8 b8
         have H8 := Lib.hid (show Holds w ((w6.heap.size + 1, 30, (txIO [(id, i0), (id, i0)] (some ⟨w6.heap.size, 0, none⟩) 2 [] none 0).cells.toArray) :: (w6.heap.size, 32, (cellsOf (encKI .u32) [(id, i0), (id, i0)]).toArray) :: [(w.heap.size + 1 + 1 + 1, 30, (txIO [ptZ] (some ⟨w3.heap.size, 0, none⟩) 1 [out7] (some ⟨w.heap.size + 2, 0, none⟩) 1).cells.toArray), (w.heap.size + 2, 47, (cellsOf (encIK .i64) [out7]).toArray), (w.heap.size + 1, 27, (encK other).toArray), (w.heap.size, 27, (encK id).toArray)]) w8 from by have := (H6.out.box 32 (cellsOf (encKI .u32) [(id, i0), (id, i0)]).toArray).put (t := 30) (cs := (txIO [(id, i0), (id, i0)] (some ⟨w6.heap.size, 0, none⟩) 2 [] none 0).cells.toArray) (W' := w8) (by simpa using o8) (by simpa using b8); simpa using this)
         have R8 := Lib.hid (show RowIn encC 68 w8 w8.heap.size (some ⟨gc, oc, none⟩) c1 [coin7 id h1 true] from ((R6.out.below (((Below.refl _ _).alloc (Nat.le_refl _) _).alloc (by simp) _)).below (o8.below (B := w6.heap.size) (by simp))).more (by rw [o8.size]; simp; omega))
         have G6 := Lib.hid (show w.heap.size + 1 + 1 + 1 < w6.heap.size from by have := H6.out.lt (x := (w.heap.size + 1 + 1 + 1, 30, (txIO [ptZ] (some ⟨w3.heap.size, 0, none⟩) 1 [out7] (some ⟨w.heap.size + 2, 0, none⟩) 1).cells.toArray)) (by simp); simp at *; omega)
         have hs1 : ∀ W, (Instr.slice 24 (.slice (some ⟨w6.heap.size, 0, none⟩) 2 2) none (some (.int .i64 1)) none).run Try.prog W = .ok (.slice (some ⟨w6.heap.size, 0, none⟩) 1 2) W := fun W => tyPt.slice_to W (some ⟨w6.heap.size, 0, none⟩) 2 2 1 (by omega)
         have cs1 : w8.cell? ⟨w6.heap.size + 1, 1, none⟩ = some (.slice (some ⟨w6.heap.size, 0, none⟩) 2 2) := TxA.c1 (H8.out.at (x := (w6.heap.size + 1, 30, (txIO [(id, i0), (id, i0)] (some ⟨w6.heap.size, 0, none⟩) 2 [] none 0).cells.toArray)) (by simp) |> RowC.of_blk)
         clear o8 b8 H6 R6)
      | ((with_reducible refine at_store 64 63 ?_); refine wpList_store_cell rfl 24 (.tmp 64) (.tmp 63) rfl rfl (w6.heap.size + 1) 1 (.slice (some ⟨w6.heap.size, 0, none⟩) 1 2) rfl rfl rfl 30 (txIO [(id, i0), (id, i0)] (some ⟨w6.heap.size, 0, none⟩) 2 [] none 0).cells.toArray (H8.out.at (x := (w6.heap.size + 1, 30, (txIO [(id, i0), (id, i0)] (some ⟨w6.heap.size, 0, none⟩) 2 [] none 0).cells.toArray)) (by simp)) (by rw [tyTx.arr]; omega) (by kernel_rfl) ?_; intro w9 o9 b9
         have H9 := Lib.hid (H8.out.turn o9 (cs' := (txIO [(id, i0)] (some ⟨w6.heap.size, 0, none⟩) 2 [] none 0).cells.toArray) (txIO_ins [(id, i0), (id, i0)] [(id, i0)] (some ⟨w6.heap.size, 0, none⟩) (some ⟨w6.heap.size, 0, none⟩) none 2 2 0 [] ▸ b9) (by have := G6.out; omega) (by have := G6.out; simp; omega))
         have R9 := Lib.hid (show RowIn encC 68 w9 w9.heap.size (some ⟨gc, oc, none⟩) c1 [coin7 id h1 true] from by rw [o9.size]; exact crow_turn R8.out o9 (by have := GC.out; omega))
         clear o9 b9 H8 R8 cs1 hs1)
      | ((with_reducible refine at_load 5 ?_); refine tyKc.wpList_load rfl (.tmp 5) rfl (w.heap.size) (0) rfl (id) (RowC.of_blk (H9.out.at (x := (w.heap.size, 27, (encK id).toArray)) (by simp))) ?_)
      | ((with_reducible refine at_build 66 ?_); refine wpList_built rfl 27 #[] rfl (encK zeroKey).toArray (by kernel_rfl) ?_)
      | ((with_reducible refine at_eqlg 65 66 ?_); refine wpList_eql_rowg (by rfl) 27 27 (.tmp 65) (.tmp 66) rfl (encK id).toArray (encK zeroKey).toArray rfl rfl (by kernel_rfl) false (fun V => (eqKy_run _ _ V).trans (by rw [HZ.out])) ?_; simp only [Act.put, List.setIfInBounds_toArray, List.set_cons_succ, List.set_cons_zero])
      | ((with_reducible refine at_load 15 ?_); refine tyTx.wpList_load rfl (.tmp 15) rfl (w6.heap.size + 1) (0) rfl (txIO [(id, i0)] (some ⟨w6.heap.size, 0, none⟩) 2 [] none 0) (RowC.of_blk (H9.out.at (x := (w6.heap.size + 1, 30, (txIO [(id, i0)] (some ⟨w6.heap.size, 0, none⟩) 2 [] none 0).cells.toArray)) (by simp))) ?_)
      | ((with_reducible refine at_load 6 ?_); refine tyKc.wpList_load rfl (.tmp 6) rfl (w.heap.size + 1) (0) rfl (other) (RowC.of_blk (H9.out.at (x := (w.heap.size + 1, 27, (encK other).toArray)) (by simp))) ?_))
  refine (HP.out.at HH2.out (txIO [(id, i0)] (some ⟨w6.heap.size, 0, none⟩) 2 [] none 0) other (some ⟨gc, oc, none⟩) c1 [coin7 id h1 true] _ (txIO_in (pt_row (l := [(id, i0)]) (m := [(id, i0)]) (H9.out.at (x := (w6.heap.size, 32, (cellsOf (encKI .u32) [(id, i0), (id, i0)]).toArray)) (by simp)) (by simp) (by decide)) (RowIn.nil (Nat.zero_le _))) R9.out (by simp) (show ([(id, i0)] : List PtV).length ≤ 300 by simp) (show ([] : List (IntV .i64 × K32)).length ≤ 300 by decide) (List.pairwise_singleton _ _)).mono ?_
  rw [HA2.out]
  rintro e w10 ⟨A3, c3, A4, c4, rfl, _, _, b10⟩
  have H10 := Lib.hid (H9.out.call b10)
  have R10 := Lib.hid ((R9.out.below b10).more b10.size)
  clear b10 H9 R9
  have hr' : decide (3 ≤ m) = false := hr
  go_wp2_with (first
      | ((with_reducible refine at_loadg 100 ?_); refine tyCoc.wpList_load (by rfl) (.tmp 100) rfl (gc) (oc + 0 * 68) rfl (coin7 id h1 true) ((crow_at R10.out 0 (by simp)).1) ?_))
  refine (HQ.out.at HH2.out (coin7 id h1 true) _).mono ?_
  rintro e w11 ⟨rfl, b11⟩
  rw [HRI.out]
  have H11 := Lib.hid (H10.out.call b11)
  clear b11
  go_wp2_with fail
  go_ret
  exact ⟨rfl, H11.out.below⟩
theorem cripe_walk (HAP : ApplyOk) (HRP : RipeOk) (id other : K32) (n m : Int) (b : Bool) (w : World) (hn : (Lit.int .u16 n).wf = true) (hm : (Lit.int .u8 m).wf = true) :
    Calls Try.prog 5 #[.agg (encK id).toArray, .agg (encK other).toArray, .int .u16 n, .int .u8 m, .bool b] w fun e w' => e = .returned (.bool true) ∧ Below w.heap.size w w' := by
  cases b with
  | false => cases hz : decide (id = zeroKey) with
    | true => exact cripe_fz HAP HRP id other n m w hn hm hz
    | false => exact cripe_fn HAP HRP id other n m w hn hm hz
  | true => cases hz : decide (id = zeroKey) with
    | true => exact cripe_tz HAP HRP id other n m w hn hm hz
    | false => cases hr : decide (3 ≤ m) with
      | true => exact cripe_tr HAP HRP id other n m w hn hm hz hr
      | false => exact cripe_tu HAP HRP id other n m w hn hm hz hr
end Go.Proofs.Ytkjgmhamglhggaa
