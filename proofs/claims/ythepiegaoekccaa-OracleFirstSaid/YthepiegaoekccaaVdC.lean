/- The project's Look, All, Good, Items. Written by genVdC.py. -/
import Derived.Test.YthepiegaoekccaaLVd
namespace Go.Proofs.Ythepiegaoekccaa
open Go.RowKit
theorem von_iff (x : VdV) (id : K32) (it : IntV .i64) : decide (x = ⟨id, it, x.good⟩) = decide (x.tx = id ∧ x.item.1 = it.1) := by
  obtain ⟨a, b, c⟩ := x
  rw [Bool.eq_iff_iff, decide_eq_true_iff, decide_eq_true_iff, VdV.mk.injEq]
  exact ⟨fun e => ⟨e.1, congrArg Subtype.val e.2.1⟩, fun e => ⟨e.1, Subtype.ext e.2, rfl⟩⟩
set_option maxRecDepth 20000 in
set_option maxHeartbeats 4000000 in
theorem pOn_v (x : VdV) (id : K32) (it : Int) (h : vi64o it) (w : World) :
    Calls Try.prog 17 #[.agg (encVd x).toArray, .agg (encK id).toArray, .int .i64 it] w fun e w' => e = .returned (.bool (decide (x.tx = id ∧ x.item.1 = it))) ∧ Below w.heap.size w w' := by
  obtain ⟨z, rfl⟩ : ∃ z : IntV .i64, z.1 = it := ⟨⟨it, by rw [wf_i64]; have := h.1; have := h.2; omega⟩, rfl⟩
  obtain ⟨r, hr⟩ : ∃ r, decide (x.tx = id ∧ x.item.1 = z.1) = r := ⟨_, rfl⟩
  rw [hr]
  have HR := Lib.hid ((von_iff x id z).trans hr)
  have HV := Lib.hid (vbuilt 37 (.inr rfl) id z x.good)
  have H0 := Lib.hid (show Holds w [(w.heap.size + 1, 27, (encK id).toArray), (w.heap.size, 37, (encVd x).toArray)] ((w.alloc (.cells (encVd x).toArray 37)).alloc (.cells (encK id).toArray 27)) from by
    have := ((Holds.nil w).box 37 (encVd x).toArray).box 27 (encK id).toArray
    simpa only [World.size_alloc, Nat.add_assoc] using this)
  have hgood : ((w.alloc (.cells (encVd x).toArray 37)).alloc (.cells (encK id).toArray 27)).cell? ⟨w.heap.size, 0 + 33, none⟩ = some (.bool x.good) := (RowC.of_blk (H0.out.at (x := (w.heap.size, 37, (encVd x).toArray)) (by simp))).vd_good
  clear hr h
  go_enter Try.func17, Try.ntmps17
  go_wp2_with (first
    | ((with_reducible refine at_load 3 ?_); refine tyVdc.wpList_load rfl (.tmp 3) rfl w.heap.size 0 rfl x (RowC.of_blk (H0.out.at (x := (w.heap.size, 37, (encVd x).toArray)) (by simp))) ?_)
    | ((with_reducible refine at_load 4 ?_); refine tyKc.wpList_load rfl (.tmp 4) rfl (w.heap.size + 1) 0 rfl id (RowC.of_blk (H0.out.at (x := (w.heap.size + 1, 27, (encK id).toArray)) (by simp))) ?_)
    | ((with_reducible refine at_build 12 ?_); refine wpList_built rfl 37 #[(0, .tmp 8), (1, .tmp 9), (2, .tmp 11)] rfl (encVd ⟨id, z, x.good⟩).toArray ((congrArg (Try.prog.built 37) (show _ = [(0, Value.agg (encK id).toArray), (1, Value.int .i64 z.1), (2, Value.bool x.good)] by kernel_rfl)).trans HV.out) ?_)
    | ((with_reducible refine at_eqlg 7 12 ?_); refine wpList_eql_rowg (by rfl) 37 37 (.tmp 7) (.tmp 12) rfl (encVd x).toArray (encVd ⟨id, z, x.good⟩).toArray rfl rfl (by kernel_rfl) r (fun V => (eqVd_run _ _ V).trans (by rw [HR.out])) ?_; simp only [Act.put, List.setIfInBounds_toArray, List.set_cons_succ, List.set_cons_zero]))
  go_ret
  exact ⟨rfl, H0.out.below⟩
set_option maxRecDepth 20000 in
set_option maxHeartbeats 4000000 in
theorem pItems_v : OItemsOk := by
  intro a w ha
  have hb : RowC (w.alloc (.cells a.cells.toArray 30)) w.heap.size 0 a.cells := RowC.of_blk (Blk.new _ _ _)
  have c1 := TxA.c1 hb
  have c4 := TxA.c4 hb
  have c5 := TxA.c5 hb
  obtain ⟨r, hr⟩ : ∃ r, itemsF a.T = r := ⟨_, rfl⟩
  rw [hr]
  have HR := Lib.hid hr
  clear hb hr ha
  go_enter Try.func10, Try.ntmps10
  go_wp2_with fail
  go_ret
  exact ⟨by rw [← HR.out]; rfl, (Below.refl _ _).alloc (Nat.le_refl _) _⟩
set_option maxRecDepth 20000 in
set_option maxHeartbeats 4000000 in
theorem pLook_v : OLookOk := by
  intro A c l id it w hl hn hv
  obtain ⟨r, hr⟩ : ∃ r, lookF l id it = r := ⟨_, rfl⟩
  rw [hr]
  have H0 := Lib.hid (show Holds w [(w.heap.size, 27, (encK id).toArray)] (w.alloc (.cells (encK id).toArray 27)) from (Holds.nil w).box 27 (encK id).toArray)
  have HL := Lib.hid hl
  have R0 := Lib.hid (show lookF (l.drop 0) id it = r from hr)
  have HV := Lib.hid hv
  clear hr hl hv
  go_enter Try.func12, Try.ntmps12
  go_wp2_with fail
  go_loopw [11] (fun si wr => ∃ j : Nat, si = .int .i64 j ∧ j ≤ l.length ∧ Hid (lookF (l.drop j) id it = r) ∧ Hid (Holds w [(w.heap.size, 27, (encK id).toArray)] wr)) (fun si _ => l.length - (intOf si).toNat)
  case atStart => exact ⟨0, rfl, Nat.zero_le _, R0, H0⟩
  case round =>
    clear R0 H0
    obtain ⟨j, rfl, hj, HR, HB⟩ := hrel
    by_cases hlt : j < l.length
    · have hd : decide ((j : Int) < (l.length : Int)) = true := by simp; omega
      have hi0 : (0 : Int) ≤ (j : Int) := by omega
      have hi1 : (j : Int) < (l.length : Int) := by omega
      obtain ⟨g, o, hA, hg, hc⟩ := (HL.out.below HB.out.below).at encVd_len hlt
      obtain ⟨x, hx⟩ : ∃ x, l[j]'hlt = x := ⟨_, rfl⟩
      rw [hx] at hc
      subst hA
      have HDR := Lib.hid (show l.drop j = x :: l.drop (j + 1) by rw [List.drop_eq_getElem_cons hlt, hx])
      have HG := Lib.hid (Nat.lt_of_lt_of_le hg HB.out.below.size)
      have HC := Lib.hid hc
      have HJ := Lib.hid (show j + 1 ≤ l.length from hlt)
      clear hx hc hg hlt
      obtain ⟨q, hq⟩ : ∃ q, decide (x.tx = id ∧ x.item.1 = it) = q := ⟨_, rfl⟩
      have HQ := Lib.hid hq
      have HO := Lib.hid (fun W => hq ▸ pOn_v x id it HV.out W)
      clear hq
      go_wp2_with (first
        | ((with_reducible refine at_load 13 ?_); refine tyVdc.wpList_load rfl (.tmp 13) rfl g (o + j * 34) rfl x HC.out ?_)
        | ((with_reducible refine at_store 8 14 ?_); refine tyVdc.wpList_store rfl (.tmp 8) (.tmp 14) rfl rfl wr.heap.size x rfl rfl 37 _ (Blk.new _ _ _) rfl ?_; intro w3 o3 b3; have H3 := Lib.hid (HB.out.put o3 b3); clear o3 b3 HB HC HG)
        | ((with_reducible refine at_load 8 ?_); refine tyVdc.wpList_load rfl (.tmp 8) rfl wr.heap.size 0 rfl x (RowC.of_blk (H3.out.at (x := (wr.heap.size, 37, (encVd x).toArray)) (by simp))) ?_)
        | ((with_reducible refine at_load 4 ?_); refine tyKc.wpList_load rfl (.tmp 4) rfl w.heap.size 0 rfl id (RowC.of_blk (H3.out.at (x := (w.heap.size, 27, (encK id).toArray)) (by simp))) ?_)
        | (go_at_call 17; refine (HO.out _).mono ?_; rintro e w4 ⟨rfl, b4⟩; have H4 := Lib.hid (H3.out.call b4); have k4 : w4.cell? ⟨wr.heap.size, 33, none⟩ = some (.bool x.good) := (RowC.of_blk (H4.out.at (x := (wr.heap.size, 37, (encVd x).toArray)) (by simp))).vd_good; clear b4 H3 HO; cases q))
      · go_roundw
        case rel => exact ⟨j + 1, by go_num, HJ.out, Lib.hid (by rw [← HR.out, HDR.out]; exact (lookF_miss (of_decide_eq_false HQ.out)).symm), Lib.hid H4.out.drop⟩
        case measure => have := HJ.out; simp [intOf]; omega
      · have HX := Lib.hid (show r = x.good by rw [← HR.out, HDR.out]; have := of_decide_eq_true HQ.out; exact lookF_hit this.1 this.2)
        go_ret
        exact ⟨by rw [HX.out]; rfl, H4.out.below⟩
    · have hd : decide ((j : Int) < (l.length : Int)) = false := by simp; omega
      have HX := Lib.hid (show r = false by rw [← HR.out, List.drop_of_length_le (by omega)]; rfl)
      obtain rfl : j = l.length := by omega
      go_wp2_with fail
      go_ret
      exact ⟨by rw [HX.out]; rfl, HB.out.below⟩
set_option maxRecDepth 20000 in
set_option maxHeartbeats 4000000 in
theorem pAll_v : OAllOk := by
  intro A c l id n w hl hn hv
  obtain ⟨r, hr⟩ : ∃ r, allVd l id n = r := ⟨_, rfl⟩
  rw [hr]
  have H0 := Lib.hid (show Holds w [(w.heap.size, 27, (encK id).toArray)] (w.alloc (.cells (encK id).toArray 27)) from (Holds.nil w).box 27 (encK id).toArray)
  have HL := Lib.hid hl
  have HR := Lib.hid hr
  have hn2 : n ≤ 9223372036854775807 := hv.2
  clear hr hl hv
  go_enter Try.func15, Try.ntmps15
  go_wp2_with fail
  go_step3
  go_wp2_with fail
  go_step3
  go_wp2_with fail
  go_loopw [11] (fun si wr => ∃ j : Nat, si = .int .i64 j ∧ Hid (∀ i : Nat, i < j → lookF l id (i : Int) = true) ∧ Hid (Holds w [(w.heap.size, 27, (encK id).toArray)] wr)) (fun si _ => n.toNat - (intOf si).toNat)
  case atStart => exact ⟨0, rfl, Lib.hid (fun i hi => absurd hi (Nat.not_lt_zero _)), H0⟩
  case round =>
    clear H0
    obtain ⟨j, rfl, HA, HB⟩ := hrel
    by_cases hlt : (j : Int) < n
    · have hd : decide ((j : Int) < n) = true := decide_eq_true hlt
      have HLT := Lib.hid hlt
      have HW := Lib.hid (show vi64o (j : Int) from ⟨by omega, by omega⟩)
      obtain ⟨s, hs⟩ : ∃ s, lookF l id (j : Int) = s := ⟨_, rfl⟩
      have HS := Lib.hid hs
      have R0 := Lib.hid (show lookF (l.drop 0) id (j : Int) = s from hs)
      have HN := Lib.hid (show s = true → ∀ i : Nat, i < j + 1 → lookF l id (i : Int) = true from fun e i hi => by
        by_cases h : i = j
        · rw [h, hs, e]
        · exact HA.out i (by omega))
      have HF := Lib.hid (show s = false → r = false from fun e => by rw [← HR.out]; exact allVd_bad HLT.out (hs.trans e))
      clear hs hlt HA
      go_wp2_with fail
      go_loopw [16] (fun si wx => ∃ k : Nat, si = .int .i64 k ∧ k ≤ l.length ∧ Hid (lookF (l.drop k) id (j : Int) = s) ∧ Hid (Holds w [(w.heap.size, 27, (encK id).toArray)] wx)) (fun si _ => l.length - (intOf si).toNat)
      case atStart => exact ⟨0, rfl, Nat.zero_le _, R0, HB⟩
      case round =>
        clear R0 HB
        obtain ⟨k, rfl, hk, HQR, HB⟩ := hrel
        by_cases hlt : k < l.length
        · have hd2 : decide ((k : Int) < (l.length : Int)) = true := by simp; omega
          have hi0 : (0 : Int) ≤ (k : Int) := by omega
          have hi1 : (k : Int) < (l.length : Int) := by omega
          obtain ⟨g, o, hA, hg, hc⟩ := (HL.out.below HB.out.below).at encVd_len hlt
          obtain ⟨x, hx⟩ : ∃ x, l[k]'hlt = x := ⟨_, rfl⟩
          rw [hx] at hc
          subst hA
          have HDR := Lib.hid (show l.drop k = x :: l.drop (k + 1) by rw [List.drop_eq_getElem_cons hlt, hx])
          have HC := Lib.hid hc
          have HJ := Lib.hid (show k + 1 ≤ l.length from hlt)
          clear hx hc hg hlt
          obtain ⟨q, hq⟩ : ∃ q, decide (x.tx = id ∧ x.item.1 = (j : Int)) = q := ⟨_, rfl⟩
          have HQ := Lib.hid hq
          have HO := Lib.hid (fun W => hq ▸ pOn_v x id (j : Int) HW.out W)
          obtain ⟨b, hb⟩ : ∃ b, x.good = b := ⟨_, rfl⟩
          have HG := Lib.hid hb
          have hjn : (j : Int) < n := HLT.out
          clear hq hb
          go_wp2_with (first
            | ((with_reducible refine at_load 18 ?_); refine tyVdc.wpList_load rfl (.tmp 18) rfl g (o + k * 34) rfl x HC.out ?_)
            | ((with_reducible refine at_store 9 19 ?_); refine tyVdc.wpList_store rfl (.tmp 9) (.tmp 19) rfl rfl wr.heap.size x rfl rfl 37 _ (Blk.new _ _ _) rfl ?_; intro w3 o3 b3; have H3 := Lib.hid (HB.out.put o3 b3); clear o3 b3 HB HC)
            | ((with_reducible refine at_load 9 ?_); refine tyVdc.wpList_load rfl (.tmp 9) rfl wr.heap.size 0 rfl x (RowC.of_blk (H3.out.at (x := (wr.heap.size, 37, (encVd x).toArray)) (by simp))) ?_)
            | ((with_reducible refine at_load 4 ?_); refine tyKc.wpList_load rfl (.tmp 4) rfl w.heap.size 0 rfl id (RowC.of_blk (H3.out.at (x := (w.heap.size, 27, (encK id).toArray)) (by simp))) ?_)
            | (go_at_call 17; refine (HO.out _).mono ?_; rintro e w4 ⟨rfl, b4⟩; have H4 := Lib.hid (H3.out.call b4); have k4 : w4.cell? ⟨wr.heap.size, 33, none⟩ = some (.bool b) := HG.out ▸ (RowC.of_blk (H4.out.at (x := (wr.heap.size, 37, (encVd x).toArray)) (by simp))).vd_good; clear b4 H3 HO; cases q <;> cases b))
          iterate 2
            · go_roundw
              case rel => exact ⟨k + 1, by go_num, HJ.out, Lib.hid (by rw [← HQR.out, HDR.out]; exact (lookF_miss (of_decide_eq_false HQ.out)).symm), Lib.hid H4.out.drop⟩
              case measure => have := HJ.out; simp [intOf]; omega
          · have HX := Lib.hid (show r = false by refine HF.out ?_; rw [← HQR.out, HDR.out, ← HG.out]; have := of_decide_eq_true HQ.out; exact lookF_hit this.1 this.2)
            try rw [Exit.noGoto_ret]
            go_ret
            exact ⟨by rw [HX.out]; rfl, H4.out.below⟩
          · have HX := Lib.hid (HN.out (by rw [← HQR.out, HDR.out, ← HG.out]; have := of_decide_eq_true HQ.out; exact lookF_hit this.1 this.2))
            go_roundw
            case rel => exact ⟨j + 1, by go_num, HX, Lib.hid H4.out.drop⟩
            case measure => have := HLT.out; simp [intOf]; omega
        · have hd2 : decide ((k : Int) < (l.length : Int)) = false := by simp; omega
          have hd3 : decide (k < l.length) = false := by simp; omega
          have HX := Lib.hid (show r = false by refine HF.out ?_; rw [← HQR.out, List.drop_of_length_le (by omega)]; rfl)
          clear hlt
          go_wp2_with fail
          try rw [Exit.noGoto_ret]
          go_ret
          exact ⟨by rw [HX.out]; rfl, HB.out.below⟩
    · have hd : decide ((j : Int) < n) = false := decide_eq_false hlt
      have HX := Lib.hid (show r = true by rw [← HR.out]; exact allVd_iff.2 fun i hi => HA.out i (by omega))
      go_wp2_with fail
      try rw [Exit.noGoto_ret]
      go_ret
      exact ⟨by rw [HX.out]; rfl, HB.out.below⟩
def zeroVd : VdV := ⟨zeroKey, vdI 0, false⟩
theorem good_set (id : K32) (n j : Nat) (h : j < n) : (goodL id j ++ List.replicate (n - j) zeroVd).set j ⟨id, vdI j, true⟩ = goodL id (j + 1) ++ List.replicate (n - (j + 1)) zeroVd := by
  obtain ⟨m, rfl⟩ : ∃ m, n = j + 1 + m := ⟨n - (j + 1), by omega⟩
  rw [show j + 1 + m - j = m + 1 by omega, show j + 1 + m - (j + 1) = m by omega, List.set_append_right _ _ (by rw [goodL_len]; omega), goodL_len, Nat.sub_self, List.replicate_succ, List.set_cons_zero, ← goodL_next, List.append_assoc]
  rfl
theorem zvVd : ∃ zv : Value, (Try.prog.info? 37).map (fun i => (i.zero, i.bytes)) = some (some zv, 48) ∧ zv.cells = (encVd zeroVd).toArray :=
  ⟨.agg (encVd zeroVd).toArray, by kernel_rfl, rfl⟩
set_option maxRecDepth 20000 in
set_option maxHeartbeats 4000000 in
theorem pGood_v : OGoodOk := by
  intro id n w hv
  obtain ⟨X, hX⟩ : ∃ X, goodF id n = X := ⟨_, rfl⟩
  rw [hX]
  have HX := Lib.hid hX
  have H0 := Lib.hid (show Holds w [(w.heap.size, 27, (encK id).toArray)] (w.alloc (.cells (encK id).toArray 27)) from (Holds.nil w).box 27 (encK id).toArray)
  clear hX
  by_cases hb : n < 0
  · have hd : decide (n < (0 : Int)) = true := decide_eq_true hb
    have HE := Lib.hid (show X = [] by rw [← HX.out]; unfold goodF; rw [if_neg (by omega), show n.toNat = 0 by omega]; rfl)
    clear hb
    go_enter Try.func8, Try.ntmps8
    go_wp2_with fail
    go_ret
    have hx := HE.out
    subst hx
    exact ⟨none, 0, rfl, RowIn.nil (Nat.zero_le _), H0.out.below⟩
  by_cases hc : (1000 : Int) < n
  · have hd : decide (n < (0 : Int)) = false := decide_eq_false hb
    have hd2 : decide ((1000 : Int) < n) = true := decide_eq_true hc
    have HE := Lib.hid (show X = [] by rw [← HX.out]; unfold goodF; rw [if_pos hc])
    clear hb hc
    go_enter Try.func8, Try.ntmps8
    go_wp2_with fail
    go_ret
    have hx := HE.out
    subst hx
    exact ⟨none, 0, rfl, RowIn.nil (Nat.zero_le _), H0.out.below⟩
  have hd : decide (n < (0 : Int)) = false := decide_eq_false hb
  have hd2 : decide ((1000 : Int) < n) = false := decide_eq_false hc
  have HE := Lib.hid (show X = goodL id n.toNat by rw [← HX.out]; unfold goodF; rw [if_neg hc])
  obtain ⟨m, rfl⟩ : ∃ m : Nat, (m : Int) = n := ⟨n.toNat, by omega⟩
  obtain ⟨zv, hz1, hz2⟩ := zvVd
  have hmk : ∀ W, (Instr.makeSlice 22 (.int .i64 (m : Int)) (.int .i64 (m : Int))).run Try.prog W = .ok (.slice (some ⟨W.heap.size, 0, none⟩) m m) (W.alloc (.cells (cellsOf encVd (List.replicate m zeroVd)).toArray 37)) := fun W => tyVd.made W zeroVd zv 48 hz1 hz2 (by omega) .i64 .i64 m (by omega)
  have hm : m ≤ 1000 := by omega
  have HM := Lib.hid hm
  have H1 := Lib.hid (show Holds w [(w.heap.size + 1, 37, (cellsOf encVd (goodL id 0 ++ List.replicate (m - 0) zeroVd)).toArray), (w.heap.size, 27, (encK id).toArray)] ((w.alloc (.cells (encK id).toArray 27)).alloc (.cells (cellsOf encVd (List.replicate m zeroVd)).toArray 37)) from by
    have := H0.out.box 37 (cellsOf encVd (List.replicate m zeroVd)).toArray
    rw [show goodL id 0 ++ List.replicate (m - 0) zeroVd = List.replicate m zeroVd from rfl]
    simpa only [World.size_alloc, Nat.add_assoc] using this)
  clear hz1 hz2 hb hc H0 hv
  go_enter Try.func8, Try.ntmps8
  go_wp2_with fail
  clear hmk
  go_loopw [6, 17] (fun _ si wr => ∃ j : Nat, si = .int .i64 j ∧ j ≤ m ∧ Hid (Holds w [(w.heap.size + 1, 37, (cellsOf encVd (goodL id j ++ List.replicate (m - j) zeroVd)).toArray), (w.heap.size, 27, (encK id).toArray)] wr)) (fun _ si _ => m - (intOf si).toNat)
  case atStart => exact ⟨0, rfl, Nat.zero_le _, H1⟩
  case round =>
    clear H1
    obtain ⟨j, rfl, hj, HB⟩ := hrel
    by_cases hlt : j < m
    · have hd : decide ((j : Int) < (m : Int)) = true := by simp; omega
      have hd3 : decide (j < m) = true := decide_eq_true hlt
      have hi0 : (0 : Int) ≤ (j : Int) := by omega
      have hi1 : (j : Int) < (m : Int) := by omega
      have HV := Lib.hid (show (vdI j).1 = (j : Int) from vdI_val (by omega))
      have HJ := Lib.hid hlt
      have HT := Lib.hid (vbuilt 37 (.inr rfl) id (vdI j) true)
      go_wp2_with (first
        | ((with_reducible refine at_load 2 ?_); refine tyKc.wpList_load rfl (.tmp 2) rfl w.heap.size 0 rfl id (RowC.of_blk (HB.out.at (x := (w.heap.size, 27, (encK id).toArray)) (by simp))) ?_)
        | ((with_reducible refine at_build 24 ?_); refine wpList_built rfl 37 #[(0, .tmp 22), (1, .tmp 23), (2, .const (.bool true))] rfl (encVd ⟨id, vdI j, true⟩).toArray ((congrArg (Try.prog.built 37) ((show _ = [(0, Value.agg (encK id).toArray), (1, Value.int .i64 (j : Int)), (2, Value.bool true)] by kernel_rfl).trans (congrArg (fun z => [(0, Value.agg (encK id).toArray), (1, Value.int .i64 z), (2, Value.bool true)]) HV.out.symm))).trans HT.out) ?_)
        | ((with_reducible refine at_store 25 24 ?_); refine tyVd.wpList_store rfl (.tmp 25) (.tmp 24) rfl rfl (w.heap.size + 1) j ⟨id, vdI j, true⟩ (by first | rfl | (simp only [Nat.zero_add]; rfl)) rfl 37 _ (HB.out.at (x := (w.heap.size + 1, 37, (cellsOf encVd (goodL id j ++ List.replicate (m - j) zeroVd)).toArray)) (by simp)) (by rw [List.length_append, goodL_len, List.length_replicate]; have := HJ.out; omega) ?_; intro w3 o3 b3
           rw [good_set id m j HJ.out] at b3
           have H3 := Lib.hid (HB.out.turn o3 b3 (by omega) (by simp))
           clear b3 o3))
      go_roundw
      case rel => exact ⟨j + 1, by go_num, HJ.out, H3⟩
      case measure => have := HJ.out; simp [intOf]; omega
    · have hd : decide ((j : Int) < (m : Int)) = false := by simp; omega
      have hd3 : decide (j < m) = false := decide_eq_false hlt
      obtain rfl : j = m := by omega
      go_wp2_with fail
      go_ret
      have hx := HE.out
      rw [Int.toNat_natCast] at hx
      subst hx
      have hB := HB.out.at (x := (w.heap.size + 1, 37, (cellsOf encVd (goodL id j ++ List.replicate (j - j) zeroVd)).toArray)) (by simp)
      rw [Nat.sub_self, List.replicate_zero, List.append_nil] at hB
      exact ⟨some ⟨w.heap.size + 1, 0, none⟩, j, by rw [goodL_len]; rfl, ⟨by rw [goodL_len]; exact Nat.le_refl _, by have := HM.out; unfold maxLen; omega, fun _ => ⟨_, _, rfl, hB.lt, RowC.of_blk hB⟩⟩, HB.out.below⟩
end Go.Proofs.Ythepiegaoekccaa
