/- The project's Values, and what may be wrong with a transaction; Fight. Written by genChV.py. -/
import Derived.Test.YticphjnabecanaaChkN
import Derived.Test.YticphjnabecanaaChkB
import Derived.Test.YticphjnabecanaaMonD
import Derived.Test.YticphjnabecanaaKeyD
namespace Go.Proofs.Yticphjnabecanaa
open Go.RowKit
theorem tyOu : CellTy Try.prog 45 (encIK .i64) 33 := ⟨by kernel_rfl, encIK_len _, encIK_one _, Try.isAgg45⟩
/-- what lies there when j of them have been laid -/
def valR (z : List Int) (j : Nat) : Array Value := (ints (z.take j) ++ List.replicate (z.length - j) (Value.int .i64 0)).toArray
theorem valR_zero (z : List Int) : madeCells #[.int .i64 0] z.length = valR z 0 := by
  apply Array.ext'
  rw [toList_madeCells_one]
  simp [valR, ints]
theorem valR_size (z : List Int) (j : Nat) (h : j ≤ z.length) : (valR z j).size = z.length := by
  simp [valR, ints]
  omega
theorem valR_set (z : List Int) (j : Nat) (h : j < z.length) : (valR z j).setIfInBounds j (.int .i64 z[j]) = valR z (j + 1) := by
  unfold valR
  rw [List.setIfInBounds_toArray]
  congr 1
  have hl : (ints (z.take j)).length = j := by simp [ints]; omega
  obtain ⟨m, hm⟩ : ∃ m, z.length - j = m + 1 := ⟨z.length - j - 1, by omega⟩
  rw [hm, List.set_append_right _ _ (by omega), hl, Nat.sub_self, List.replicate_succ, List.set_cons_zero, List.take_succ_eq_append_getElem h, show z.length - (j + 1) = m by omega]
  unfold ints
  rw [List.map_append, List.append_assoc]
  rfl
theorem valR_all (z : List Int) : valR z z.length = (ints z).toArray := by
  simp [valR]
set_option maxRecDepth 20000 in
set_option maxHeartbeats 4000000 in
theorem pValues_c : ValuesOk := by
  intro a w ha hn
  have HM0 := Lib.hid (show Holds w [(w.heap.size, 29, a.cells.toArray)] (w.alloc (.cells a.cells.toArray 29)) from (Holds.nil w).box 29 a.cells.toArray)
  have IN := Lib.hid ha
  obtain ⟨Z, hZ⟩ : ∃ Z, valsF a.T = Z := ⟨_, rfl⟩
  have HZ := Lib.hid hZ
  have HZL := Lib.hid (show Z.length = a.T.outs.length by rw [← hZ]; unfold valsF; rw [List.length_map])
  have hmk : ∀ W, (Instr.makeSlice 32 (.int .i64 (a.T.outs.length : Int)) (.int .i64 (a.T.outs.length : Int))).run Try.prog W = .ok (.slice (some ⟨W.heap.size, 0, none⟩) a.T.outs.length a.T.outs.length) (W.alloc (.cells (valR Z 0) 2)) := fun W => by
    rw [← valR_zero, HZL.out]
    exact run_make_one _ _ _ 8 Try.underlying32 chInfo rfl (by omega) .i64 .i64 a.T.outs.length (by have := hn.o; omega) W
  have k0 : (w.alloc (.cells a.cells.toArray 29)).cell? ⟨w.heap.size, 2, none⟩ = some (.slice a.Ao a.T.outs.length a.co) := TxA.c2 (RowC.of_blk (HM0.out.at (x := (w.heap.size, 29, a.cells.toArray)) (by simp)))
  have h0 := HM0.out.alloc (.cells (valR Z 0) 2)
  have HH := Lib.hid h0
  have HM := Lib.hid (blk_new (w := (w.alloc (.cells a.cells.toArray 29))) (g := w.heap.size + 1) 2 (valR Z 0) (by simp))
  have k2 : ((w.alloc (.cells a.cells.toArray 29)).alloc (.cells (valR Z 0) 2)).cell? ⟨w.heap.size, 2, none⟩ = some (.slice a.Ao a.T.outs.length a.co) := TxA.c2 (RowC.of_blk (HH.out.at (x := (w.heap.size, 29, a.cells.toArray)) (by simp)))
  have hm0 : a.T.outs.length ≤ 9223372036854775807 := by have := hn.o; omega
  have HN := Lib.hid hn
  clear ha hn hZ h0 HM0
  go_enter Try.func11, Try.ntmps11
  go_wp2_with fail
  clear hmk k0 k2
  go_loopw [4, 13] (fun _ si wr => ∃ j : Nat, si = .int .i64 j ∧ j ≤ a.T.outs.length ∧ Hid (Blk wr (w.heap.size + 1) 2 (valR Z j)) ∧ Hid (Holds w [(w.heap.size, 29, a.cells.toArray)] wr)) (fun _ si _ => a.T.outs.length - (intOf si).toNat)
  case atStart => exact ⟨0, rfl, Nat.zero_le _, HM, HH⟩
  case round =>
    clear HH HM
    obtain ⟨j, rfl, hj, HM, HH⟩ := hrel
    have k2 : wr.cell? ⟨w.heap.size, 2, none⟩ = some (.slice a.Ao a.T.outs.length a.co) := TxA.c2 (RowC.of_blk (HH.out.at (x := (w.heap.size, 29, a.cells.toArray)) (by simp)))
    by_cases hlt : j < a.T.outs.length
    · have hd : decide ((j : Int) < (a.T.outs.length : Int)) = true := by simp; omega
      have hi0 : (0 : Int) ≤ (j : Int) := by omega
      have hi1 : (j : Int) < (a.T.outs.length : Int) := by omega
      obtain ⟨g, o, hA, hg, hc⟩ := (IN.out.on HH.out.below (Nat.le_refl _)).outs.at (encIK_len _) hlt
      obtain ⟨x, hx⟩ : ∃ x, a.T.outs[j]'hlt = x := ⟨_, rfl⟩
      rw [hx] at hc
      have HX := Lib.hid hc
      have HZJ := Lib.hid (show (valR Z j).setIfInBounds j (.int .i64 x.1.1) = valR Z (j + 1) by
        rw [← valR_set Z j (by rw [HZL.out]; exact hlt)]
        congr 2
        have hz : Z = valsF a.T := HZ.out.symm
        subst hz
        simp only [valsF, List.getElem_map]
        rw [hx])
      have HLT := Lib.hid hlt
      have HSZ := Lib.hid (valR_size Z j (by rw [HZL.out]; omega))
      rw [hA] at k2 ⊢
      clear hc hx hg hA
      go_wp2_with (first
        | ((with_reducible refine at_load 16 ?_); refine tyOu.wpList_load rfl (.tmp 16) rfl g (o + j * 33) rfl x HX.out ?_)
        | ((with_reducible refine at_store 5 17 ?_); refine tyOu.wpList_store rfl (.tmp 5) (.tmp 17) rfl rfl wr.heap.size x rfl rfl 45 _ (Blk.new wr 45 _) rfl ?_; intro w2 o2 b2
           have BE := ((Below.refl wr.heap.size wr).alloc (Nat.le_refl _) _).trans (o2.below (by simp))
           have M2 := Lib.hid (below_blk BE HM.out HM.out.lt)
           have H2 := Lib.hid (HH.out.call BE)
           have KX : w2.cell? ⟨wr.heap.size, 0, none⟩ = some (.int .i64 x.1.1) := RowC.ik_int (RowC.of_blk b2)
           clear o2 b2 BE HM HH k2
           have HM := M2
           have HH := H2
           clear M2 H2)
        | ((with_reducible refine at_store 22 21 ?_); refine wpList_store_cell rfl 2 (.tmp 22) (.tmp 21) rfl rfl (w.heap.size + 1) j (.int .i64 x.1.1) rfl rfl rfl 2 _ HM.out (by have h1 := HSZ.out; have h2 := HZL.out; have h3 := HLT.out; omega) (by kernel_rfl) ?_; intro w3 o3 b3
           rw [HZJ.out] at b3
           have M2 := Lib.hid b3
           have H2 := Lib.hid (show Holds w [(w.heap.size, 29, a.cells.toArray)] w3 from HH.out.low (o3.below (B := w.heap.size + 1) (by simp)) (by omega) (by simp))
           clear o3 b3 HM HH KX
           have HM := M2
           have HH := H2
           clear M2 H2))
      go_roundw
      case rel => exact ⟨j + 1, by go_num, HLT.out, HM, HH⟩
      case measure => have := HLT.out; simp [intOf]; omega
    · have hd : decide ((j : Int) < (a.T.outs.length : Int)) = false := by simp; omega
      have hjl : j = Z.length := by rw [HZL.out]; omega
      have h9 := HM.out
      rw [hjl, valR_all] at h9
      have R9 := Lib.hid (show RowIn (enc1 .i64) 1 wr wr.heap.size (some ⟨w.heap.size + 1, 0, none⟩) (valsV a.T).length (valsV a.T) from
        ⟨Nat.le_refl _, by have h1 := valsV_len a.T; have h2 := HN.out.o; unfold maxLen; omega, fun _ => ⟨w.heap.size + 1, 0, rfl, h9.lt, by
          have h8 := RowC.of_blk h9
          rw [vals_cells, HZ.out]
          simpa using h8⟩⟩)
      have HVL := Lib.hid (valsV_len a.T)
      clear h9 hjl
      go_wp2_with fail
      go_ret
      rw [← HVL.out]
      exact ⟨_, _, rfl, R9.out, HH.out.below⟩
set_option maxRecDepth 20000 in
set_option maxHeartbeats 4000000 in
theorem chZero_any (x : PtC) (W : World) : Calls Try.prog 62 #[.agg (encKI .u32 x).toArray] W fun e w' => e = .returned (.bool (decide (x.1 = zeroKey))) ∧ Below W.heap.size W w' := by
  have X0 := Lib.hid (Blk.new W 40 (encKI .u32 x).toArray)
  obtain ⟨q, hq⟩ : ∃ q, decide (x.1 = zeroKey) = q := ⟨_, rfl⟩
  have HQ := Lib.hid hq
  rw [hq]
  clear hq
  go_enter Try.func62, Try.ntmps62
  go_wp2_with (first
    | ((with_reducible refine at_load 3 ?_); refine tyKc.wpList_load rfl (.tmp 3) rfl W.heap.size 0 rfl x.1 (RowC.ki_key (RowC.of_blk X0.out)) ?_)
    | ((with_reducible refine at_build 5 ?_); refine wpList_built rfl 26 #[] rfl (encK zeroKey).toArray (by kernel_rfl) ?_)
    | ((with_reducible refine at_eqlg 4 5 ?_); refine wpList_eql_rowg (by rfl) 26 26 (.tmp 4) (.tmp 5) rfl (encK x.1).toArray (encK zeroKey).toArray rfl rfl (by kernel_rfl) q (fun V => (eqKy_run _ _ V).trans (by rw [HQ.out])) ?_))
  go_ret
  exact ⟨rfl, (Below.refl _ _).alloc (Nat.le_refl _) _⟩
theorem chEntersZ : ∀ args w, (callFunc 62 args).run Try.prog w = .ok (.enter 62 args) w := enters_of Try.func62 (by kernel_rfl) rfl
set_option maxRecDepth 20000 in
set_option maxHeartbeats 4000000 in
theorem chMis_true (a : TxA) (w : World) (ha : a.In w w.heap.size) :
    Calls Try.prog 42 #[.agg a.cells.toArray, .bool true] w fun e w' => e = .returned (.bool (coinBad a.T true)) ∧ Below w.heap.size w w' := by
  have HH := Lib.hid (show Holds w [(w.heap.size, 29, a.cells.toArray)] (w.alloc (.cells a.cells.toArray 29)) from (Holds.nil w).box 29 a.cells.toArray)
  have IN := Lib.hid ha
  obtain ⟨cf, hcf⟩ : ∃ cf, coinF a.T = cf := ⟨_, rfl⟩
  have HC := Lib.hid (fun W (h : Holds w [(w.heap.size, 29, a.cells.toArray)] W) => coin_any a W (IN.out.on h.below (Nat.le_refl _)))
  rw [hcf] at HC
  obtain ⟨y, hy⟩ : ∃ y, decide ((0 : Int) < (a.T.nulls.length : Int)) = y := ⟨_, rfl⟩
  have hy2 : decide (0 < a.T.nulls.length) = y := by rw [← hy, Bool.eq_iff_iff, decide_eq_true_iff, decide_eq_true_iff]; omega
  have HR := Lib.hid (show coinBad a.T true = (!cf || y) by
    unfold coinBad
    have : decide (0 < a.T.nulls.length) = y := by rw [← hy, Bool.eq_iff_iff, decide_eq_true_iff, decide_eq_true_iff]; omega
    rw [this, hcf]
    cases cf <;> simp)
  rw [HR.out]
  clear ha hcf HR
  go_enter Try.func42, Try.ntmps42
  go_wp2_with ((with_reducible refine at_load 2 ?_); refine tyTx.wpList_load rfl (.tmp 2) rfl w.heap.size 0 rfl a (RowC.of_blk (HH.out.at (x := (w.heap.size, 29, a.cells.toArray)) (by simp))) ?_)
  with_reducible refine (HC.out _ HH.out).mono ?_
  rintro e w1 ⟨rfl, bq⟩
  have HQ := Lib.hid (HH.out.call bq)
  clear bq HH
  have HH := HQ
  clear HQ
  clear HC
  have k4 : w1.cell? ⟨w.heap.size, 35, none⟩ = some (.slice a.An a.T.nulls.length a.cn) := TxA.c4 (RowC.of_blk (HH.out.at (x := (w.heap.size, 29, a.cells.toArray)) (by simp)))
  cases cf with
  | false =>
    clear hy hy2
    go_wp2_with fail
    go_ret
    exact ⟨rfl, HH.out.below⟩
  | true =>
    go_wp2_with fail
    go_ret
    exact ⟨rfl, HH.out.below⟩
theorem chMis_false (a : TxA) (w : World) (ha : a.In w w.heap.size) (hn : Some120 a.T) :
    Calls Try.prog 42 #[.agg a.cells.toArray, .bool false] w fun e w' => e = .returned (.bool (coinBad a.T false)) ∧ Below w.heap.size w w' := by
  have HH := Lib.hid (show Holds w [(w.heap.size, 29, a.cells.toArray)] (w.alloc (.cells a.cells.toArray 29)) from (Holds.nil w).box 29 a.cells.toArray)
  have IN := Lib.hid ha
  have HC := Lib.hid (fun W (h : Holds w [(w.heap.size, 29, a.cells.toArray)] W) => ptContainsFunc_any a.Ai a.ci a.T.ins W.heap.size W (by have := hn.i; omega) (Nat.le_refl _) (IN.out.on h.below (Nat.le_refl _)).ins 62 #[] (fun p => decide (p.1 = zeroKey)) chEntersZ (fun x V _ => chZero_any x V))
  obtain ⟨z, hz⟩ : ∃ z, (a.T.ins.any fun p => decide (p.1 = zeroKey)) = z := ⟨_, rfl⟩
  rw [hz] at HC
  have HR := Lib.hid (show coinBad a.T false = z by
    unfold coinBad zeroIn
    rw [hz]
    cases hcf : coinF a.T with
    | false => simp
    | true =>
      unfold coinF at hcf
      split at hcf
      · rename_i p hp
        rw [hp] at hz
        simp at hz hcf
        simp [← hz, hcf]
      · cases hcf)
  rw [HR.out]
  clear ha hn hz HR
  have k1 : (w.alloc (.cells a.cells.toArray 29)).cell? ⟨w.heap.size, 1, none⟩ = some (.slice a.Ai a.T.ins.length a.ci) := TxA.c1 (RowC.of_blk (HH.out.at (x := (w.heap.size, 29, a.cells.toArray)) (by simp)))
  go_enter Try.func42, Try.ntmps42
  go_wp2_with fail
  with_reducible refine (HC.out _ HH.out).mono ?_
  rintro e w1 ⟨rfl, bq⟩
  have HQ := Lib.hid (HH.out.call bq)
  clear bq HH
  have HH := HQ
  clear HQ
  clear HC k1
  go_wp2_with fail
  go_ret
  exact ⟨rfl, HH.out.below⟩
theorem chMis_any (a : TxA) (b : Bool) (w : World) (ha : a.In w w.heap.size) (hn : Some120 a.T) :
    Calls Try.prog 42 #[.agg a.cells.toArray, .bool b] w fun e w' => e = .returned (.bool (coinBad a.T b)) ∧ Below w.heap.size w w' := by
  cases b
  · exact chMis_false a w ha hn
  · exact chMis_true a w ha
set_option maxRecDepth 20000 in
set_option maxHeartbeats 4000000 in
theorem chCoin_any (a : TxA) (b : Bool) (g : Nat) (w : World) (hg : w.cell? ⟨g, 0, none⟩ = some (.bool b)) (ha : a.In w w.heap.size) (hn : Some120 a.T) :
    Calls Try.prog 41 #[.agg a.cells.toArray, .pointer (some ⟨g, 0, none⟩)] w fun e w' => e = .returned (.bool (coinBad a.T b)) ∧ Below w.heap.size w w' := by
  have HH := Lib.hid (show Holds w [(w.heap.size, 29, a.cells.toArray)] (w.alloc (.cells a.cells.toArray 29)) from (Holds.nil w).box 29 a.cells.toArray)
  have IN := Lib.hid ha
  have HC := Lib.hid (fun W (h : Holds w [(w.heap.size, 29, a.cells.toArray)] W) => chMis_any a b W (IN.out.on h.below (Nat.le_refl _)) hn)
  obtain ⟨r, hr⟩ : ∃ r, coinBad a.T b = r := ⟨_, rfl⟩
  rw [hr] at HC ⊢
  have kg : (w.alloc (.cells a.cells.toArray 29)).cell? ⟨g, 0, none⟩ = some (.bool b) := (HH.out.below.cell (World.block_lt_of_cell? w ⟨g, 0, none⟩ hg)).trans hg
  clear ha hn hr hg
  go_enter Try.func41, Try.ntmps41
  go_wp2_with ((with_reducible refine at_load 2 ?_); refine tyTx.wpList_load rfl (.tmp 2) rfl w.heap.size 0 rfl a (RowC.of_blk (HH.out.at (x := (w.heap.size, 29, a.cells.toArray)) (by simp))) ?_)
  with_reducible refine (HC.out _ HH.out).mono ?_
  rintro e w1 ⟨rfl, bq⟩
  have HQ := Lib.hid (HH.out.call bq)
  clear bq HH
  have HH := HQ
  clear HQ
  go_wp2_with fail
  go_ret
  exact ⟨rfl, HH.out.below⟩
set_option maxRecDepth 20000 in
set_option maxHeartbeats 4000000 in
theorem chEmpty_any (a : TxA) (w : World) (hn : Some120 a.T) :
    Calls Try.prog 43 #[.agg a.cells.toArray] w fun e w' => e = .returned (.bool (noneF a.T)) ∧ Below w.heap.size w w' := by
  have HH := Lib.hid (show Holds w [(w.heap.size, 29, a.cells.toArray)] (w.alloc (.cells a.cells.toArray 29)) from (Holds.nil w).box 29 a.cells.toArray)
  have i1 := hn.i
  have i2 := hn.o
  have i3 := hn.n
  have i4 := hn.t
  have hw1 : IntKind.i64.wrap ((a.T.ins.length : Int) + (a.T.nulls.length : Int)) = (a.T.ins.length : Int) + (a.T.nulls.length : Int) := by rw [IntKind.wrap_i64]; omega
  have hw2 : IntKind.i64.wrap ((a.T.outs.length : Int) + (a.T.notes.length : Int)) = (a.T.outs.length : Int) + (a.T.notes.length : Int) := by rw [IntKind.wrap_i64]; omega
  obtain ⟨x1, hx1⟩ : ∃ x, ((a.T.ins.length : Int) + (a.T.nulls.length : Int) == 0) = x := ⟨_, rfl⟩
  obtain ⟨x2, hx2⟩ : ∃ x, ((a.T.outs.length : Int) + (a.T.notes.length : Int) == 0) = x := ⟨_, rfl⟩
  have HNX := Lib.hid (show noneF a.T = (x1 || x2) by
    unfold noneF
    have h1 : decide (a.T.ins.length + a.T.nulls.length = 0) = x1 := by rw [← hx1, Bool.eq_iff_iff, decide_eq_true_iff, beq_iff_eq]; omega
    have h2 : decide (a.T.outs.length + a.T.notes.length = 0) = x2 := by rw [← hx2, Bool.eq_iff_iff, decide_eq_true_iff, beq_iff_eq]; omega
    rw [h1, h2])
  rw [HNX.out]
  clear i1 i2 i3 i4 HNX hn
  have k1 : (w.alloc (.cells a.cells.toArray 29)).cell? ⟨w.heap.size, 1, none⟩ = some (.slice a.Ai a.T.ins.length a.ci) := TxA.c1 (RowC.of_blk (HH.out.at (x := (w.heap.size, 29, a.cells.toArray)) (by simp)))
  have k2 : (w.alloc (.cells a.cells.toArray 29)).cell? ⟨w.heap.size, 2, none⟩ = some (.slice a.Ao a.T.outs.length a.co) := TxA.c2 (RowC.of_blk (HH.out.at (x := (w.heap.size, 29, a.cells.toArray)) (by simp)))
  have k4 : (w.alloc (.cells a.cells.toArray 29)).cell? ⟨w.heap.size, 35, none⟩ = some (.slice a.An a.T.nulls.length a.cn) := TxA.c4 (RowC.of_blk (HH.out.at (x := (w.heap.size, 29, a.cells.toArray)) (by simp)))
  have k5 : (w.alloc (.cells a.cells.toArray 29)).cell? ⟨w.heap.size, 36, none⟩ = some (.slice a.At a.T.notes.length a.ct) := TxA.c5 (RowC.of_blk (HH.out.at (x := (w.heap.size, 29, a.cells.toArray)) (by simp)))
  go_enter Try.func43, Try.ntmps43
  cases x1 <;> cases x2 <;> (go_wp2_with fail; go_ret; exact ⟨rfl, HH.out.below⟩)
set_option maxRecDepth 20000 in
set_option maxHeartbeats 4000000 in
theorem chRep_any (a : TxA) (w : World) (ha : a.In w w.heap.size) (hn : Some120 a.T) :
    Calls Try.prog 44 #[.agg a.cells.toArray] w fun e w' => e = .returned (.bool (twiceF a.T)) ∧ Below w.heap.size w w' := by
  have HH := Lib.hid (show Holds w [(w.heap.size, 29, a.cells.toArray)] (w.alloc (.cells a.cells.toArray 29)) from (Holds.nil w).box 29 a.cells.toArray)
  have IN := Lib.hid ha
  have HN := Lib.hid hn
  obtain ⟨p, hp⟩ : ∃ p, decide a.T.ins.Nodup = p := ⟨_, rfl⟩
  obtain ⟨d, hd⟩ : ∃ d, decide a.T.nulls.Nodup = d := ⟨_, rfl⟩
  have HT := Lib.hid (show twiceF a.T = (!p || !d) by unfold twiceF; rw [hp, hd])
  rw [HT.out]
  have HPO := Lib.hid (fun W (h : Holds w [(w.heap.size, 29, a.cells.toArray)] W) => chPoints_g a.Ai a.ci a.T.ins W (IN.out.on h.below (Nat.le_refl _)).ins (by have := HN.out.i; omega))
  have HDI := Lib.hid (fun W (h : Holds w [(w.heap.size, 29, a.cells.toArray)] W) => distinct_any a.An a.cn a.T.nulls W.heap.size W (by have := HN.out.n; omega) (Nat.le_refl _) (IN.out.on h.below (Nat.le_refl _)).nulls)
  rw [hp] at HPO
  rw [hd] at HDI
  have k1 : (w.alloc (.cells a.cells.toArray 29)).cell? ⟨w.heap.size, 1, none⟩ = some (.slice a.Ai a.T.ins.length a.ci) := TxA.c1 (RowC.of_blk (HH.out.at (x := (w.heap.size, 29, a.cells.toArray)) (by simp)))
  clear ha hn hp hd HT
  go_enter Try.func44, Try.ntmps44
  go_wp2_with fail
  with_reducible refine (HPO.out _ HH.out).mono ?_
  rintro e w1 ⟨rfl, bq⟩
  have HQ := Lib.hid (HH.out.call bq)
  clear bq HH
  have HH := HQ
  clear HQ
  clear HPO k1
  have k4 : w1.cell? ⟨w.heap.size, 35, none⟩ = some (.slice a.An a.T.nulls.length a.cn) := TxA.c4 (RowC.of_blk (HH.out.at (x := (w.heap.size, 29, a.cells.toArray)) (by simp)))
  cases p with
  | false =>
    go_wp2_with fail
    go_ret
    exact ⟨rfl, HH.out.below⟩
  | true =>
    go_wp2_with fail
    with_reducible refine (HDI.out _ HH.out).mono ?_
    rintro e w2 ⟨rfl, bq⟩
    have HQ := Lib.hid (HH.out.call bq)
    clear bq HH
    have HH := HQ
    clear HQ
    clear HDI
    go_wp2_with fail
    go_ret
    exact ⟨rfl, HH.out.below⟩
set_option maxRecDepth 20000 in
set_option maxHeartbeats 4000000 in
theorem pFight_c : FightOk := by
  intro a b w ha hb hna hnb
  have HH := Lib.hid (show Holds w [(w.heap.size + 1, 29, b.cells.toArray), (w.heap.size, 29, a.cells.toArray)] ((w.alloc (.cells a.cells.toArray 29)).alloc (.cells b.cells.toArray 29)) from by
    have h := ((Holds.nil w).box 29 a.cells.toArray).box 29 b.cells.toArray
    simpa using h)
  have IA := Lib.hid ha
  have IB := Lib.hid hb
  obtain ⟨q1, hq1⟩ : ∃ q, (b.T.ins.any fun p => decide (p ∈ a.T.ins)) = q := ⟨_, rfl⟩
  obtain ⟨q2, hq2⟩ : ∃ q, meetF a.T.nulls b.T.nulls = q := ⟨_, rfl⟩
  have HF := Lib.hid (show fightF a.T b.T = (q1 || q2) by
    unfold fightF
    rw [hq2, ← hq1]
    congr 1
    rw [Bool.eq_iff_iff]
    simp only [List.any_eq_true, decide_eq_true_iff]
    exact ⟨fun ⟨x, h1, h2⟩ => ⟨x, h2, h1⟩, fun ⟨x, h1, h2⟩ => ⟨x, h2, h1⟩⟩)
  rw [HF.out]
  have HM := Lib.hid (fun W (h : Holds w [(w.heap.size + 1, 29, b.cells.toArray), (w.heap.size, 29, a.cells.toArray)] W) => chMeet_g a.Ai b.Ai a.ci b.ci a.T.ins b.T.ins W (IA.out.on h.below (Nat.le_refl _)).ins (IB.out.on h.below (Nat.le_refl _)).ins (by have := hna.i; omega) (by have := hnb.i; omega))
  have HK := Lib.hid (fun W (h : Holds w [(w.heap.size + 1, 29, b.cells.toArray), (w.heap.size, 29, a.cells.toArray)] W) => meet_any a.An a.cn a.T.nulls b.An b.cn b.T.nulls W.heap.size (by have := hna.n; omega) (by have := hnb.n; omega) W (Nat.le_refl _) (IA.out.on h.below (Nat.le_refl _)).nulls (IB.out.on h.below (Nat.le_refl _)).nulls)
  rw [hq1] at HM
  rw [hq2] at HK
  have k1 : ((w.alloc (.cells a.cells.toArray 29)).alloc (.cells b.cells.toArray 29)).cell? ⟨w.heap.size, 1, none⟩ = some (.slice a.Ai a.T.ins.length a.ci) := TxA.c1 (RowC.of_blk (HH.out.at (x := (w.heap.size, 29, a.cells.toArray)) (by simp)))
  have j1 : ((w.alloc (.cells a.cells.toArray 29)).alloc (.cells b.cells.toArray 29)).cell? ⟨w.heap.size + 1, 1, none⟩ = some (.slice b.Ai b.T.ins.length b.ci) := TxA.c1 (RowC.of_blk (HH.out.at (x := (w.heap.size + 1, 29, b.cells.toArray)) (by simp)))
  clear ha hb hna hnb hq1 hq2 HF
  go_enter Try.func15, Try.ntmps15
  go_wp2_with fail
  with_reducible refine (HM.out _ HH.out).mono ?_
  rintro e w1 ⟨rfl, bq⟩
  have HQ := Lib.hid (HH.out.call bq)
  clear bq HH
  have HH := HQ
  clear HQ
  clear HM k1 j1
  have k4 : w1.cell? ⟨w.heap.size, 35, none⟩ = some (.slice a.An a.T.nulls.length a.cn) := TxA.c4 (RowC.of_blk (HH.out.at (x := (w.heap.size, 29, a.cells.toArray)) (by simp)))
  have j4 : w1.cell? ⟨w.heap.size + 1, 35, none⟩ = some (.slice b.An b.T.nulls.length b.cn) := TxA.c4 (RowC.of_blk (HH.out.at (x := (w.heap.size + 1, 29, b.cells.toArray)) (by simp)))
  cases q1 with
  | true =>
    go_wp2_with fail
    go_ret
    exact ⟨rfl, HH.out.below⟩
  | false =>
    go_wp2_with fail
    with_reducible refine (HK.out _ HH.out).mono ?_
    rintro e w2 ⟨rfl, bq⟩
    have HQ := Lib.hid (HH.out.call bq)
    clear bq HH
    have HH := HQ
    clear HQ
    clear HK
    go_wp2_with fail
    go_ret
    exact ⟨rfl, HH.out.below⟩
set_option maxRecDepth 20000 in
set_option maxHeartbeats 4000000 in
theorem chUns_any (a : TxA) (w : World) (ha : a.In w w.heap.size) (hn : Some120 a.T) :
    Calls Try.prog 45 #[.agg a.cells.toArray] w fun e w' => e = .returned (.bool (moneyF a.T)) ∧ Below w.heap.size w w' := by
  have HH := Lib.hid (show Holds w [(w.heap.size, 29, a.cells.toArray)] (w.alloc (.cells a.cells.toArray 29)) from (Holds.nil w).box 29 a.cells.toArray)
  have IN := Lib.hid ha
  have HN := Lib.hid hn
  obtain ⟨mo, hmo⟩ : ∃ mo, moneyF a.T = mo := ⟨_, rfl⟩
  rw [hmo]
  have HMO := Lib.hid hmo
  clear hmo
  have HV := Lib.hid (fun W (h : Holds w [(w.heap.size, 29, a.cells.toArray)] W) => pValues_c a W (IN.out.on h.below (Nat.le_refl _)) HN.out)
  clear ha hn
  go_enter Try.func45, Try.ntmps45
  go_wp2_with ((with_reducible refine at_load 1 ?_); refine tyTx.wpList_load rfl (.tmp 1) rfl w.heap.size 0 rfl a (RowC.of_blk (HH.out.at (x := (w.heap.size, 29, a.cells.toArray)) (by simp))) ?_)
  with_reducible refine (HV.out _ HH.out).mono ?_
  rintro e w1 ⟨A8, c8, rfl, r8, bq⟩
  have HQ := Lib.hid (HH.out.call bq)
  clear bq HH
  have HH := HQ
  clear HQ
  clear HV
  have HSU := Lib.hid (gsum_any (valsF a.T) A8 (valsV a.T).length c8 w1.heap.size w1 (by rw [← vals_cells]; exact r8.reads (enc1_len _)) (Nat.le_refl _) (by have := HN.out.o; have h := valsV_len a.T; unfold maxLen; omega))
  obtain ⟨so, hso⟩ : ∃ so, sumO 0 (valsF a.T) = so := ⟨_, rfl⟩
  rw [hso] at HSU
  have HMY := Lib.hid (show mo = (so.isNone || balF a.T) by rw [← HMO.out]; unfold moneyF; rw [hso])
  clear hso r8 HMO
  go_wp2_with fail
  with_reducible refine (HSU.out).mono ?_
  rintro e w2 ⟨rfl, bq⟩
  have HQ := Lib.hid (HH.out.call bq)
  clear bq HH
  have HH := HQ
  clear HQ
  clear HSU
  cases so with
  | none =>
    have hvn : valO none = 0 := rfl
    have hen : errO none = 20 := rfl
    unfold resO
    rw [hvn, hen]
    clear hvn hen
    go_wp2_with fail
    go_ret
    exact ⟨by rw [HMY.out]; rfl, HH.out.below⟩
  | some s0 =>
    have hvn : valO (some s0) = s0 := rfl
    have hen : errO (some s0) = 0 := rfl
    unfold resO
    rw [hvn, hen]
    clear hvn hen
    have k4 : w2.cell? ⟨w.heap.size, 35, none⟩ = some (.slice a.An a.T.nulls.length a.cn) := TxA.c4 (RowC.of_blk (HH.out.at (x := (w.heap.size, 29, a.cells.toArray)) (by simp)))
    have k5 : w2.cell? ⟨w.heap.size, 36, none⟩ = some (.slice a.At a.T.notes.length a.ct) := TxA.c5 (RowC.of_blk (HH.out.at (x := (w.heap.size, 29, a.cells.toArray)) (by simp)))
    have k6 : w2.cell? ⟨w.heap.size, 37, none⟩ = some (.int .i64 a.T.bal.1) := TxA.c6 (RowC.of_blk (HH.out.at (x := (w.heap.size, 29, a.cells.toArray)) (by simp)))
    obtain ⟨q1, hq1⟩ : ∃ q, decide (a.T.bal.1 < -2100000000000000) = q := ⟨_, rfl⟩
    obtain ⟨q2, hq2⟩ : ∃ q, decide (2100000000000000 < a.T.bal.1) = q := ⟨_, rfl⟩
    obtain ⟨q3, hq3⟩ : ∃ q, decide (0 < a.T.bal.1) = q := ⟨_, rfl⟩
    obtain ⟨q4, hq4⟩ : ∃ q, decide (a.T.bal.1 < 0) = q := ⟨_, rfl⟩
    obtain ⟨x3, hx3⟩ : ∃ q, ((a.T.nulls.length : Int) == 0) = q := ⟨_, rfl⟩
    obtain ⟨x4, hx4⟩ : ∃ q, ((a.T.notes.length : Int) == 0) = q := ⟨_, rfl⟩
    have HBF := Lib.hid (show mo = (q1 || q2 || (q3 && x3) || (q4 && x4)) by
      rw [HMY.out]
      unfold balF
      rw [hq1, hq2, hq3, hq4]
      have h3 : decide (a.T.nulls.length = 0) = x3 := by rw [← hx3, Bool.eq_iff_iff, decide_eq_true_iff, beq_iff_eq]; omega
      have h4 : decide (a.T.notes.length = 0) = x4 := by rw [← hx4, Bool.eq_iff_iff, decide_eq_true_iff, beq_iff_eq]; omega
      rw [h3, h4]
      rfl)
    clear HMY
    cases q1 <;> cases q2 <;> cases q3 <;> cases q4 <;> cases x3 <;> cases x4 <;> (go_wp2_with fail; go_ret; exact ⟨by rw [HBF.out]; rfl, HH.out.below⟩)
end Go.Proofs.Yticphjnabecanaa
