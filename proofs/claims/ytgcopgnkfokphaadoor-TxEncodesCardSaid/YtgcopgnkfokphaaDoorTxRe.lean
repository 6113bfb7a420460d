/- The document's Encode of a transaction. Written by genREnc.py. -/
import Derived.Test.YtgcopgnkfokphaaDoorTxW
import Derived.Test.YtgcopgnkfokphaaDoorGenA
import Derived.Test.YtgcopgnkfokphaaDoorCodAll
namespace Go.Proofs.YtgcopgnkfokphaaDoor
open Go.RowKit
theorem rPut_r (n wd : Nat) (h1 : 1 ≤ wd) (h8 : wd ≤ 8) (w : World) :
    Calls Tryd.prog 29 #[.int .u64 n, .int .i64 wd] w fun e w' => e = .returned (.string ⟨(putL n wd).toArray⟩) ∧ Below w.heap.size w w' := by
  have h := refPut_any n wd w
  rw [show putF n (wd : Int) = putL n wd by unfold putF; rw [if_neg (by omega)]; rfl] at h
  exact h
theorem rPut4_r (n : Nat) (w : World) :
    Calls Tryd.prog 29 #[.int .u64 n, .int .i64 4] w fun e w' => e = .returned (.string ⟨(putL n 4).toArray⟩) ∧ Below w.heap.size w w' := rPut_r n 4 (by omega) (by omega) w
theorem rPut8_r (n : Nat) (w : World) :
    Calls Tryd.prog 29 #[.int .u64 n, .int .i64 8] w fun e w' => e = .returned (.string ⟨(putL n 8).toArray⟩) ∧ Below w.heap.size w w' := rPut_r n 8 (by omega) (by omega) w
theorem rBytes_r (k : K32) (w : World) :
    Calls Tryd.prog 31 #[.agg (encK k).toArray] w fun e w' => e = .returned (.string ⟨k.1.toArray⟩) ∧ Below w.heap.size w w' := by
  rw [encK_arr]
  exact crefBytes_any k.1 k.2 w
/-- what lies there while Encode is at work -/
structure EnS (w0 : World) (a : TxA) (w : World) : Prop where
  below : Below w0.heap.size w0 w
  ka : Blk w w0.heap.size 29 a.cells.toArray
  ia : a.In w w.heap.size
theorem EnS.call {w0 w w' : World} {a : TxA} (h : EnS w0 a w) (hb : Below w.heap.size w w') : EnS w0 a w' where
  below := h.below.trans (hb.mono h.below.size)
  ka := below_blk hb h.ka h.ka.lt
  ia := h.ia.on hb (Nat.le_refl _)
theorem EnS.one {w0 : World} {a : TxA} (h : a.In w0 w0.heap.size) : EnS w0 a (w0.alloc (.cells a.cells.toArray 29)) where
  below := (Below.refl _ _).alloc (Nat.le_refl _) _
  ka := Blk.new _ _ _
  ia := h.on ((Below.refl _ _).alloc (Nat.le_refl _) _) (Nat.le_refl _)
theorem below_cell {B : Nat} {w w' : World} (h : Below B w w') {p : Addr} {v : Value} (hc : w.cell? p = some v) (hp : p.block < B) : w'.cell? p = some v := (h.cell hp).trans hc
theorem take_flat {α : Type} (W : α → List UInt8) (P : List UInt8) (l : List α) (j : Nat) (hj : j < l.length) : P ++ (l.take (j + 1)).flatMap W = (P ++ (l.take j).flatMap W) ++ W l[j] := by
  rw [List.take_succ_eq_append_getElem hj, List.flatMap_append, List.append_assoc]
  simp
theorem take_all {α : Type} (W : α → List UInt8) (P : List UInt8) (l : List α) : P ++ (l.take l.length).flatMap W = P ++ l.flatMap W := by rw [List.take_length]
set_option maxRecDepth 20000 in
theorem rEnc_many (a : TxA) (w : World) (hx : 40 < a.T.ins.length ∨ 40 < a.T.outs.length ∨ 40 < a.T.nulls.length ∨ 40 < a.T.notes.length) :
    Calls Tryd.prog 9 #[.agg a.cells.toArray] w fun e w' => e = .returned (encV (encF a.T)) ∧ Below w.heap.size w w' := by
  rw [show encF a.T = ([], 51) by unfold encF; rw [if_pos hx]]
  have hb : RowC (w.alloc (.cells a.cells.toArray 29)) w.heap.size 0 a.cells := RowC.of_blk (Blk.new _ _ _)
  have c1 := TxA.c1 hb
  have c2 := TxA.c2 hb
  have c4 := TxA.c4 hb
  have c5 := TxA.c5 hb
  have B := Lib.hid (show Below w.heap.size w (w.alloc (.cells a.cells.toArray 29)) from (Below.refl _ _).alloc (Nat.le_refl _) _)
  clear hb
  unfold encV
  by_cases h1 : 40 < a.T.ins.length
  · have hd0 : decide ((40 : Int) < (a.T.ins.length : Int)) = true := by simp; omega
    go_enter Tryd.func9, Tryd.ntmps9
    go_wp2
    go_ret2
    exact ⟨rfl, B.out⟩
  by_cases h2 : 40 < a.T.outs.length
  · have hd0 : decide ((40 : Int) < (a.T.ins.length : Int)) = false := by simp; omega
    have hd1 : decide ((40 : Int) < (a.T.outs.length : Int)) = true := by simp; omega
    go_enter Tryd.func9, Tryd.ntmps9
    go_wp2
    go_ret2
    exact ⟨rfl, B.out⟩
  by_cases h3 : 40 < a.T.nulls.length
  · have hd0 : decide ((40 : Int) < (a.T.ins.length : Int)) = false := by simp; omega
    have hd1 : decide ((40 : Int) < (a.T.outs.length : Int)) = false := by simp; omega
    have hd2 : decide ((40 : Int) < (a.T.nulls.length : Int)) = true := by simp; omega
    go_enter Tryd.func9, Tryd.ntmps9
    go_wp2
    go_ret2
    exact ⟨rfl, B.out⟩
  have h4 : 40 < a.T.notes.length := by omega
  have hd0 : decide ((40 : Int) < (a.T.ins.length : Int)) = false := by simp; omega
  have hd1 : decide ((40 : Int) < (a.T.outs.length : Int)) = false := by simp; omega
  have hd2 : decide ((40 : Int) < (a.T.nulls.length : Int)) = false := by simp; omega
  have hd3 : decide ((40 : Int) < (a.T.notes.length : Int)) = true := by simp; omega
  go_enter Tryd.func9, Tryd.ntmps9
  go_wp2
  go_ret2
  exact ⟨rfl, B.out⟩
set_option maxRecDepth 20000 in
theorem rEnc_arg (a : TxA) (w : World) (hx : a.T.ins.length ≤ 40 ∧ a.T.outs.length ≤ 40 ∧ a.T.nulls.length ≤ 40 ∧ a.T.notes.length ≤ 40) (h0 : a.T.nulls.length = 0) (ha : a.T.anchor ≠ zeroKey) :
    Calls Tryd.prog 9 #[.agg a.cells.toArray] w fun e w' => e = .returned (encV (encF a.T)) ∧ Below w.heap.size w w' := by
  rw [encF_arg a.T hx h0 ha]
  have HR := Lib.hid (show decide (a.T.anchor = zeroKey) = false by simpa using ha)
  have hb : RowC (w.alloc (.cells a.cells.toArray 29)) w.heap.size 0 a.cells := RowC.of_blk (Blk.new _ _ _)
  have c1 := TxA.c1 hb
  have c2 := TxA.c2 hb
  have c4 := TxA.c4 hb
  have c5 := TxA.c5 hb
  have HK := Lib.hid (TxA.c3 hb)
  have B := Lib.hid (show Below w.heap.size w (w.alloc (.cells a.cells.toArray 29)) from (Below.refl _ _).alloc (Nat.le_refl _) _)
  obtain ⟨x1, x2, x3, x4⟩ := hx
  have hd0 : decide ((40 : Int) < (a.T.ins.length : Int)) = false := by simp; omega
  have hd1 : decide ((40 : Int) < (a.T.outs.length : Int)) = false := by simp; omega
  have hd2 : decide ((40 : Int) < (a.T.nulls.length : Int)) = false := by simp; omega
  have hd3 : decide ((40 : Int) < (a.T.notes.length : Int)) = false := by simp; omega
  have hn0 : ((a.T.nulls.length : Int) == 0) = true := by rw [h0]; rfl
  clear hb ha h0 x1 x2 x3 x4
  unfold encV
  go_enter Tryd.func9, Tryd.ntmps9
  go_wp2_with (first
    | ((with_reducible refine at_loadg 36 ?_); refine tyKy.wpList_load (by rfl) (.tmp 36) rfl w.heap.size 3 rfl a.T.anchor HK.out ?_)
    | ((with_reducible refine at_neqlg 37 38 ?_); refine wpList_neq_rowg (by rfl) 26 26 (.tmp 37) (.tmp 38) rfl (encK a.T.anchor).toArray (encK zeroKey).toArray rfl (congrArg Value.agg lit32k) (by kernel_rfl) false (fun V => by rw [eqKy_run, HR.out]) ?_; simp only [Act.put, List.setIfInBounds_toArray, List.set_cons_succ, List.set_cons_zero]))
  go_ret2
  exact ⟨rfl, B.out⟩
set_option maxRecDepth 20000 in
set_option maxHeartbeats 8000000 in
theorem rEnc_ok (a : TxA) (w : World) (h : a.In w w.heap.size) (hok : OkTx a.T) :
    Calls Tryd.prog 9 #[.agg a.cells.toArray] w fun e w' => e = .returned (encV (txB a.T, 0)) ∧ Below w.heap.size w w' := by
  have ST := Lib.hid (EnS.one h)
  have HOK := Lib.hid hok
  obtain ⟨x1, x2, x3, x4, x5⟩ := hok
  have hd0 : decide ((40 : Int) < (a.T.ins.length : Int)) = false := by simp; omega
  have hd1 : decide ((40 : Int) < (a.T.outs.length : Int)) = false := by simp; omega
  have hd2 : decide ((40 : Int) < (a.T.nulls.length : Int)) = false := by simp; omega
  have hd3 : decide ((40 : Int) < (a.T.notes.length : Int)) = false := by simp; omega
  obtain ⟨r, hr⟩ : ∃ r, decide (a.T.anchor = zeroKey) = r := ⟨_, rfl⟩
  have HR := Lib.hid hr
  have HK := Lib.hid (TxA.c3 (RowC.of_blk ST.out.ka))
  have c1 := TxA.c1 (RowC.of_blk ST.out.ka)
  have c2 := TxA.c2 (RowC.of_blk ST.out.ka)
  have c4 := TxA.c4 (RowC.of_blk ST.out.ka)
  have c5 := TxA.c5 (RowC.of_blk ST.out.ka)
  have L0 := Lib.hid (And.intro x1 (And.intro x2 (And.intro x3 x4)))
  obtain ⟨E, hE⟩ : ∃ E : Nat, a.T.exp.1.toNat = E := ⟨_, rfl⟩
  have hcE : IntKind.u64.wrap a.T.exp.1 = (E : Int) := by have := wf_u32.1 a.T.exp.2; rw [IntKind.wrap_u64]; omega
  have hcI : IntKind.u64.wrap (a.T.ins.length : Int) = (a.T.ins.length : Int) := by rw [IntKind.wrap_u64]; omega
  have hcO : IntKind.u64.wrap (a.T.outs.length : Int) = (a.T.outs.length : Int) := by rw [IntKind.wrap_u64]; omega
  have hcN : IntKind.u64.wrap (a.T.nulls.length : Int) = (a.T.nulls.length : Int) := by rw [IntKind.wrap_u64]; omega
  have hcT : IntKind.u64.wrap (a.T.notes.length : Int) = (a.T.notes.length : Int) := by rw [IntKind.wrap_u64]; omega
  have hcB : IntKind.u64.wrap a.T.bal.1 = (ofI64 a.T.bal : Int) := by rw [IntKind.wrap_u64]; unfold ofI64; omega
  have HE := Lib.hid hE
  have b0 := cmpL_le a.T.ins.length
  have hadd0 : ∀ V, (Op.stringOp .add ⟨(putL E 4).toArray⟩ ⟨(cmpL a.T.ins.length).toArray⟩).run Tryd.prog V = .ok (.string ⟨(putL E 4 ++ cmpL a.T.ins.length).toArray⟩) V := fun V => run_string_add_lists V _ _ (by rw [putL_len]; omega) (by omega)
  have HP0 := Lib.hid (show (putL E 4 ++ cmpL a.T.ins.length).length ≤ 13 by rw [List.length_append, putL_len]; omega)
  clear hE hr b0
  have hgo : (a.T.nulls.length = 0 → r = true) := fun q => by rw [← HR.out]; simpa using x5 q
  clear x1 x2 x3 x4 x5 h
  unfold encV
  by_cases hz : a.T.nulls.length = 0
  · obtain rfl : r = true := hgo hz
    have hn0 : ((a.T.nulls.length : Int) == 0) = true := by rw [hz]; rfl
    have HZ0 := Lib.hid hz
    clear hgo hz
    go_enter Tryd.func9, Tryd.ntmps9
    go_wp2_with (first
        | ((with_reducible refine at_loadg 36 ?_); refine tyKy.wpList_load (by rfl) (.tmp 36) rfl w.heap.size 3 rfl a.T.anchor HK.out ?_)
        | ((with_reducible refine at_neqlg 37 38 ?_); refine wpList_neq_rowg (by rfl) 26 26 (.tmp 37) (.tmp 38) rfl (encK a.T.anchor).toArray (encK zeroKey).toArray rfl (congrArg Value.agg lit32k) (by kernel_rfl) true (fun V => by rw [eqKy_run, HR.out]) ?_; simp only [Act.put, List.setIfInBounds_toArray, List.set_cons_succ, List.set_cons_zero]))
    refine wp_region_from (by kernel_rfl) (by kernel_rfl) ?_
    repeat (first
      | go_big_quiet_skip
      | ((with_reducible refine at_qload 41 ?_); refine wpQuiet_load_one (by rfl) 22 (.tmp 41) rfl ⟨w.heap.size, 0, none⟩ rfl _ Tryd.isAgg22 (fun W hC => TxA.c0 (RowC.of_blk (below_blk hC.below ST.out.ka ST.out.ka.lt))) ?_; simp only [Act.put, List.setIfInBounds_toArray, List.set_cons_succ, List.set_cons_zero])
      | ((with_reducible refine at_qload 45 ?_); refine wpQuiet_load_one (by rfl) 23 (.tmp 45) rfl ⟨w.heap.size, 1, none⟩ rfl _ Tryd.isAgg23 (fun W hC => TxA.c1 (RowC.of_blk (below_blk hC.below ST.out.ka ST.out.ka.lt))) ?_; simp only [Act.put, List.setIfInBounds_toArray, List.set_cons_succ, List.set_cons_zero])
      | (go_big_quiet_want; go_big_quiet_op; refine ⟨_, fun _ _ => by with_reducible rfl, ?_⟩; go_big_quiet_on)
      | go_big_quiet_step ((intro hC; first
          | (go_at_call 29; with_reducible exact (rPut4_r E _).mono fun _ _ h => ⟨h.1, hC.call h.2⟩)
          | (go_at_call 30; with_reducible exact (refCompact_any a.T.ins.length _).mono fun _ _ h => ⟨h.1, hC.call h.2⟩)
          | fail)))
    refine wpQuiet_nil ?_
    intro w9 hC
    have ST' := Lib.hid (ST.out.call hC.below)
    clear hC
    clear ST; have ST := ST'; clear ST'
    clear c1 c2 c4 c5
    obtain ⟨P0, hP0⟩ : ∃ P, putL E 4 ++ cmpL a.T.ins.length = P := ⟨_, rfl⟩
    rw [hP0]
    have HP13 := Lib.hid (show P0.length ≤ 13 by rw [← hP0]; exact HP0.out)
    have HQ0 := Lib.hid hP0
    clear hP0 hadd0 HP0
    go_wp2_with fail
    go_loopw [4, 5] (fun s i wr => ∃ (j : Nat) (L : List UInt8), j ≤ a.T.ins.length ∧ i = .int .i64 j ∧ s = .string ⟨L.toArray⟩ ∧ Hid (L = P0 ++ (a.T.ins.take j).flatMap ptB) ∧ Hid (EnS w a wr)) (fun _ i _ => a.T.ins.length - (intOf i).toNat)
    case atStart => exact ⟨0, P0, Nat.zero_le _, rfl, rfl, Lib.hid (by simp), ST⟩
    case round =>
      clear ST
      obtain ⟨wo, rfl⟩ : ∃ q, q = wr := ⟨_, rfl⟩
      obtain ⟨j, L1, hj, rfl, rfl, HL, ST⟩ := hrel
      have HB := Lib.hid (show L1.length ≤ 13 + 36 * j by
        rw [HL.out, List.length_append, flat_len ptB 36 ptB_len, List.length_take]
        have := HP13.out
        have : min j a.T.ins.length ≤ j := Nat.min_le_left _ _
        omega)
      by_cases hlt : j < a.T.ins.length
      · obtain ⟨g1, o1, e1, l1, rc1⟩ := (show RowIn (encKI .u32) 33 wo wo.heap.size a.Ai a.ci a.T.ins from ST.out.ia.ins).at (encKI_len _) hlt
        obtain ⟨x, hx⟩ : ∃ x, a.T.ins[j] = x := ⟨_, rfl⟩
        rw [hx] at rc1
        have HT := Lib.hid (show P0 ++ (a.T.ins.take (j + 1)).flatMap ptB = L1 ++ ptB x by rw [take_flat _ _ _ _ hlt, hx, HL.out])
        have CC := Lib.hid (show wo.cell? ⟨w.heap.size, 1, none⟩ = some (.slice (some ⟨g1, o1, none⟩) a.T.ins.length a.ci) by rw [← e1]; exact TxA.c1 (RowC.of_blk ST.out.ka))
        have RC := Lib.hid rc1
        have hj39 : j ≤ 39 := by have := L0.out; omega
        have HJ := Lib.hid hj39
        clear hx rc1 e1
        have cc := CC.out
        obtain ⟨z, hz4⟩ : ∃ z : Nat, x.2.1.toNat = z := ⟨_, rfl⟩
        have hcx : IntKind.u64.wrap x.2.1 = (z : Int) := by have := wf_u32.1 x.2.2; rw [IntKind.wrap_u64]; omega
        have ha1 : ∀ V, (Op.stringOp .add ⟨(L1).toArray⟩ ⟨(x.1.1).toArray⟩).run Tryd.prog V = .ok (.string ⟨(L1 ++ x.1.1).toArray⟩) V := fun V => run_string_add_lists V _ _ (by have := HB.out; have := HJ.out; omega) (by rw [x.1.2]; omega)
        have ha2 : ∀ V, (Op.stringOp .add ⟨(L1 ++ x.1.1).toArray⟩ ⟨(putL z 4).toArray⟩).run Tryd.prog V = .ok (.string ⟨(L1 ++ x.1.1 ++ putL z 4).toArray⟩) V := fun V => run_string_add_lists V _ _ (by have := HB.out; have := HJ.out; rw [List.length_append, x.1.2]; omega) (by rw [putL_len]; omega)
        have HZ := Lib.hid hz4
        clear hz4
        go_wp2_with fail
        refine wp_region_from (by kernel_rfl) (by kernel_rfl) ?_
        repeat (first
          | go_big_quiet_skip
          | ((with_reducible refine at_qload 59 ?_); refine wpQuiet_load_one (by rfl) 23 (.tmp 59) rfl ⟨w.heap.size, 1, none⟩ rfl _ Tryd.isAgg23 (fun W hC => (below_cell hC.below CC.out ST.out.ka.lt)) ?_; simp only [Act.put, List.setIfInBounds_toArray, List.set_cons_succ, List.set_cons_zero])
          | ((with_reducible refine at_qload 67 ?_); refine wpQuiet_load_one (by rfl) 23 (.tmp 67) rfl ⟨w.heap.size, 1, none⟩ rfl _ Tryd.isAgg23 (fun W hC => (below_cell hC.below CC.out ST.out.ka.lt)) ?_; simp only [Act.put, List.setIfInBounds_toArray, List.set_cons_succ, List.set_cons_zero])
          | ((with_reducible refine at_qload 63 ?_); refine tyKy.wpQuiet_load (by rfl) (.tmp 63) rfl g1 (o1 + j * 33) rfl x.1 (fun W hC => (RC.out.below hC.below l1).ki_key) ?_; simp only [Act.put, List.setIfInBounds_toArray, List.set_cons_succ, List.set_cons_zero])
          | ((with_reducible refine at_qload 71 ?_); refine wpQuiet_load_one (by rfl) 22 (.tmp 71) rfl ⟨g1, o1 + j * 33 + 32, none⟩ rfl _ Tryd.isAgg22 (fun W hC => (RC.out.below hC.below l1).ki_int) ?_; simp only [Act.put, List.setIfInBounds_toArray, List.set_cons_succ, List.set_cons_zero])
          | (go_big_quiet_want; go_big_quiet_op; refine ⟨_, fun _ _ => by with_reducible rfl, ?_⟩; go_big_quiet_on)
          | go_big_quiet_step ((intro hC; first
              | (go_at_call 31; with_reducible exact (rBytes_r x.1 _).mono fun _ _ h => ⟨h.1, hC.call h.2⟩)
              | (go_at_call 29; with_reducible exact (rPut4_r z _).mono fun _ _ h => ⟨h.1, hC.call h.2⟩)
              | fail)))
        refine wpQuiet_nil ?_
        intro w9 hC
        have ST' := Lib.hid (ST.out.call hC.below)
        clear hC
        clear ST; have ST := ST'; clear ST'
        clear ha1 ha2 hcx cc
        go_wp2_with fail
        go_roundw
        case rel => exact ⟨j + 1, (L1 ++ (x.1.1 ++ putL z 4)), by omega, by go_num, rfl, Lib.hid (HT.out.trans (by unfold ptB; rw [HZ.out])).symm, ST⟩
        case measure => simp [intOf]; omega
      · have hje : j = a.T.ins.length := by omega
        have hd : decide ((j : Int) < (a.T.ins.length : Int)) = false := by simp; omega
        have HW1 := Lib.hid (show L1 = P0 ++ a.T.ins.flatMap ptB by rw [HL.out, hje, List.take_length])
        have cc := TxA.c1 (RowC.of_blk ST.out.ka)
        have HBL := Lib.hid (show L1.length ≤ 1453 by have := HB.out; have := L0.out; omega)
        clear HL HB hje hj
        have cc2 := TxA.c2 (RowC.of_blk ST.out.ka)
        obtain ⟨P2, hP2⟩ : ∃ P, L1 ++ cmpL a.T.outs.length = P := ⟨_, rfl⟩
        have hac : ∀ V, (Op.stringOp .add ⟨(L1).toArray⟩ ⟨(cmpL a.T.outs.length).toArray⟩).run Tryd.prog V = .ok (.string ⟨P2.toArray⟩) V := fun V => hP2 ▸ run_string_add_lists V _ _ (by have := HBL.out; omega) (by have := cmpL_le a.T.outs.length; omega)
        have HP1462 := Lib.hid (show P2.length ≤ 1462 by rw [← hP2, List.length_append]; have := HBL.out; have := cmpL_le a.T.outs.length; omega)
        have HQ2 := Lib.hid hP2
        clear hP2
        go_wp2_with fail
        refine (refCompact_any a.T.outs.length _).mono ?_
        rintro e w9 ⟨rfl, hb⟩
        have ST' := Lib.hid (ST.out.call hb)
        clear hb
        clear ST; have ST := ST'; clear ST'
        go_wp2_with fail
        go_loopw [4, 6] (fun s i wr => ∃ (j : Nat) (L : List UInt8), j ≤ a.T.outs.length ∧ i = .int .i64 j ∧ s = .string ⟨L.toArray⟩ ∧ Hid (L = P2 ++ (a.T.outs.take j).flatMap outB) ∧ Hid (EnS w a wr)) (fun _ i _ => a.T.outs.length - (intOf i).toNat)
        case atStart => exact ⟨0, P2, Nat.zero_le _, rfl, rfl, Lib.hid (by simp), ST⟩
        case round =>
          clear ST
          obtain ⟨wo, rfl⟩ : ∃ q, q = wr := ⟨_, rfl⟩
          obtain ⟨j, L2, hj, rfl, rfl, HL, ST⟩ := hrel
          have HB := Lib.hid (show L2.length ≤ 1462 + 40 * j by
            rw [HL.out, List.length_append, flat_len outB 40 outB_len, List.length_take]
            have := HP1462.out
            have : min j a.T.outs.length ≤ j := Nat.min_le_left _ _
            omega)
          by_cases hlt : j < a.T.outs.length
          · obtain ⟨g1, o1, e1, l1, rc1⟩ := (show RowIn (encIK .i64) 33 wo wo.heap.size a.Ao a.co a.T.outs from ST.out.ia.outs).at (encIK_len _) hlt
            obtain ⟨x, hx⟩ : ∃ x, a.T.outs[j] = x := ⟨_, rfl⟩
            rw [hx] at rc1
            have HT := Lib.hid (show P2 ++ (a.T.outs.take (j + 1)).flatMap outB = L2 ++ outB x by rw [take_flat _ _ _ _ hlt, hx, HL.out])
            have CC := Lib.hid (show wo.cell? ⟨w.heap.size, 2, none⟩ = some (.slice (some ⟨g1, o1, none⟩) a.T.outs.length a.co) by rw [← e1]; exact TxA.c2 (RowC.of_blk ST.out.ka))
            have RC := Lib.hid rc1
            have hj39 : j ≤ 39 := by have := L0.out; omega
            have HJ := Lib.hid hj39
            clear hx rc1 e1
            have cc := CC.out
            obtain ⟨z, hz4⟩ : ∃ z : Nat, ofI64 x.1 = z := ⟨_, rfl⟩
            have hcx : IntKind.u64.wrap x.1.1 = (z : Int) := by rw [IntKind.wrap_u64, ← hz4]; unfold ofI64; omega
            have ha1 : ∀ V, (Op.stringOp .add ⟨(L2).toArray⟩ ⟨(putL z 8).toArray⟩).run Tryd.prog V = .ok (.string ⟨(L2 ++ putL z 8).toArray⟩) V := fun V => run_string_add_lists V _ _ (by have := HB.out; have := HJ.out; omega) (by rw [putL_len]; omega)
            have ha2 : ∀ V, (Op.stringOp .add ⟨(L2 ++ putL z 8).toArray⟩ ⟨(x.2.1).toArray⟩).run Tryd.prog V = .ok (.string ⟨(L2 ++ putL z 8 ++ x.2.1).toArray⟩) V := fun V => run_string_add_lists V _ _ (by have := HB.out; have := HJ.out; rw [List.length_append, putL_len]; omega) (by rw [x.2.2]; omega)
            have HZ := Lib.hid hz4
            clear hz4
            go_wp2_with fail
            refine wp_region_from (by kernel_rfl) (by kernel_rfl) ?_
            repeat (first
              | go_big_quiet_skip
              | ((with_reducible refine at_qload 91 ?_); refine wpQuiet_load_one (by rfl) 24 (.tmp 91) rfl ⟨w.heap.size, 2, none⟩ rfl _ Tryd.isAgg24 (fun W hC => (below_cell hC.below CC.out ST.out.ka.lt)) ?_; simp only [Act.put, List.setIfInBounds_toArray, List.set_cons_succ, List.set_cons_zero])
              | ((with_reducible refine at_qload 100 ?_); refine wpQuiet_load_one (by rfl) 24 (.tmp 100) rfl ⟨w.heap.size, 2, none⟩ rfl _ Tryd.isAgg24 (fun W hC => (below_cell hC.below CC.out ST.out.ka.lt)) ?_; simp only [Act.put, List.setIfInBounds_toArray, List.set_cons_succ, List.set_cons_zero])
              | ((with_reducible refine at_qload 95 ?_); refine wpQuiet_load_one (by rfl) 2 (.tmp 95) rfl ⟨g1, o1 + j * 33, none⟩ rfl _ Tryd.isAgg2 (fun W hC => (RC.out.below hC.below l1).ik_int) ?_; simp only [Act.put, List.setIfInBounds_toArray, List.set_cons_succ, List.set_cons_zero])
              | ((with_reducible refine at_qload 104 ?_); refine tyKy.wpQuiet_load (by rfl) (.tmp 104) rfl g1 (o1 + j * 33 + 1) rfl x.2 (fun W hC => (RC.out.below hC.below l1).ik_key) ?_; simp only [Act.put, List.setIfInBounds_toArray, List.set_cons_succ, List.set_cons_zero])
              | (go_big_quiet_want; go_big_quiet_op; refine ⟨_, fun _ _ => by with_reducible rfl, ?_⟩; go_big_quiet_on)
              | go_big_quiet_step ((intro hC; first
                  | (go_at_call 31; with_reducible exact (rBytes_r x.2 _).mono fun _ _ h => ⟨h.1, hC.call h.2⟩)
                  | (go_at_call 29; with_reducible exact (rPut8_r z _).mono fun _ _ h => ⟨h.1, hC.call h.2⟩)
                  | fail)))
            refine wpQuiet_nil ?_
            intro w9 hC
            have ST' := Lib.hid (ST.out.call hC.below)
            clear hC
            clear ST; have ST := ST'; clear ST'
            clear ha1 ha2 hcx cc
            go_wp2_with fail
            go_roundw
            case rel => exact ⟨j + 1, (L2 ++ (putL z 8 ++ x.2.1)), by omega, by go_num, rfl, Lib.hid (HT.out.trans (by unfold outB; rw [HZ.out])).symm, ST⟩
            case measure => simp [intOf]; omega
          · have hje : j = a.T.outs.length := by omega
            have hd : decide ((j : Int) < (a.T.outs.length : Int)) = false := by simp; omega
            have HW2 := Lib.hid (show L2 = P2 ++ a.T.outs.flatMap outB by rw [HL.out, hje, List.take_length])
            have cc := TxA.c2 (RowC.of_blk ST.out.ka)
            have HBL := Lib.hid (show L2.length ≤ 3062 by have := HB.out; have := L0.out; omega)
            clear HL HB hje hj
            have cc2 := TxA.c4 (RowC.of_blk ST.out.ka)
            obtain ⟨P4, hP4⟩ : ∃ P, L2 ++ cmpL a.T.nulls.length = P := ⟨_, rfl⟩
            have hac : ∀ V, (Op.stringOp .add ⟨(L2).toArray⟩ ⟨(cmpL a.T.nulls.length).toArray⟩).run Tryd.prog V = .ok (.string ⟨P4.toArray⟩) V := fun V => hP4 ▸ run_string_add_lists V _ _ (by have := HBL.out; omega) (by have := cmpL_le a.T.nulls.length; omega)
            have HP3071 := Lib.hid (show P4.length ≤ 3071 by rw [← hP4, List.length_append]; have := HBL.out; have := cmpL_le a.T.nulls.length; omega)
            have HQ4 := Lib.hid hP4
            clear hP4
            go_wp2_with fail
            refine (refCompact_any a.T.nulls.length _).mono ?_
            rintro e w9 ⟨rfl, hb⟩
            have ST' := Lib.hid (ST.out.call hb)
            clear hb
            clear ST; have ST := ST'; clear ST'
            have cc4 := TxA.c4 (RowC.of_blk ST.out.ka)
            have hp0 : decide ((0 : Int) < (a.T.nulls.length : Int)) = false := by rw [HZ0.out]; rfl
            have hp1 : decide (0 < a.T.nulls.length) = false := by rw [HZ0.out]; rfl
            have HP3103 := Lib.hid (show P4.length ≤ 3103 by have := HP3071.out; omega)
            go_wp2_with fail
            go_loopw [4, 7] (fun s i wr => ∃ (j : Nat) (L : List UInt8), j ≤ a.T.nulls.length ∧ i = .int .i64 j ∧ s = .string ⟨L.toArray⟩ ∧ Hid (L = P4 ++ (a.T.nulls.take j).flatMap keyB) ∧ Hid (EnS w a wr)) (fun _ i _ => a.T.nulls.length - (intOf i).toNat)
            case atStart => exact ⟨0, P4, Nat.zero_le _, rfl, rfl, Lib.hid (by simp), ST⟩
            case round =>
              clear ST
              obtain ⟨wo, rfl⟩ : ∃ q, q = wr := ⟨_, rfl⟩
              obtain ⟨j, L4, hj, rfl, rfl, HL, ST⟩ := hrel
              have HB := Lib.hid (show L4.length ≤ 3103 + 32 * j by
                rw [HL.out, List.length_append, flat_len keyB 32 (fun k => k.2), List.length_take]
                have := HP3103.out
                have : min j a.T.nulls.length ≤ j := Nat.min_le_left _ _
                omega)
              by_cases hlt : j < a.T.nulls.length
              · obtain ⟨g1, o1, e1, l1, rc1⟩ := (show RowIn encK 32 wo wo.heap.size a.An a.cn a.T.nulls from ST.out.ia.nulls).at (encK_len) hlt
                obtain ⟨x, hx⟩ : ∃ x, a.T.nulls[j] = x := ⟨_, rfl⟩
                rw [hx] at rc1
                have HT := Lib.hid (show P4 ++ (a.T.nulls.take (j + 1)).flatMap keyB = L4 ++ keyB x by rw [take_flat _ _ _ _ hlt, hx, HL.out])
                have CC := Lib.hid (show wo.cell? ⟨w.heap.size, 35, none⟩ = some (.slice (some ⟨g1, o1, none⟩) a.T.nulls.length a.cn) by rw [← e1]; exact TxA.c4 (RowC.of_blk ST.out.ka))
                have RC := Lib.hid rc1
                have hj39 : j ≤ 39 := by have := L0.out; omega
                have HJ := Lib.hid hj39
                clear hx rc1 e1
                have cc := CC.out
                have ha1 : ∀ V, (Op.stringOp .add ⟨(L4).toArray⟩ ⟨(x.1).toArray⟩).run Tryd.prog V = .ok (.string ⟨(L4 ++ x.1).toArray⟩) V := fun V => run_string_add_lists V _ _ (by have := HB.out; have := HJ.out; omega) (by rw [x.2]; omega)
                go_wp2_with ((with_reducible refine at_load 135 ?_); refine tyKy.wpList_load rfl (.tmp 135) rfl g1 (o1 + j * 32) rfl x RC.out ?_)
                refine (rBytes_r x _).mono ?_
                rintro e w9 ⟨rfl, hb⟩
                have ST' := Lib.hid (ST.out.call hb)
                clear hb
                clear ST; have ST := ST'; clear ST'
                clear cc
                go_wp2_with fail
                go_roundw
                case rel => exact ⟨j + 1, (L4 ++ x.1), by omega, by go_num, rfl, Lib.hid (HT.out.trans (rfl)).symm, ST⟩
                case measure => simp [intOf]; omega
              · have hje : j = a.T.nulls.length := by omega
                have hd : decide ((j : Int) < (a.T.nulls.length : Int)) = false := by simp; omega
                have HW4 := Lib.hid (show L4 = P4 ++ a.T.nulls.flatMap keyB by rw [HL.out, hje, List.take_length])
                have cc := TxA.c4 (RowC.of_blk ST.out.ka)
                have HBL := Lib.hid (show L4.length ≤ 4383 by have := HB.out; have := L0.out; omega)
                clear HL HB hje hj
                have cc2 := TxA.c5 (RowC.of_blk ST.out.ka)
                obtain ⟨P7, hP7⟩ : ∃ P, L4 ++ cmpL a.T.notes.length = P := ⟨_, rfl⟩
                have hac : ∀ V, (Op.stringOp .add ⟨(L4).toArray⟩ ⟨(cmpL a.T.notes.length).toArray⟩).run Tryd.prog V = .ok (.string ⟨P7.toArray⟩) V := fun V => hP7 ▸ run_string_add_lists V _ _ (by have := HBL.out; omega) (by have := cmpL_le a.T.notes.length; omega)
                have HP4392 := Lib.hid (show P7.length ≤ 4392 by rw [← hP7, List.length_append]; have := HBL.out; have := cmpL_le a.T.notes.length; omega)
                have HQ5 := Lib.hid hP7
                clear hP7
                go_wp2_with fail
                refine (refCompact_any a.T.notes.length _).mono ?_
                rintro e w9 ⟨rfl, hb⟩
                have ST' := Lib.hid (ST.out.call hb)
                clear hb
                clear ST; have ST := ST'; clear ST'
                go_wp2_with fail
                go_loopw [4, 8] (fun s i wr => ∃ (j : Nat) (L : List UInt8), j ≤ a.T.notes.length ∧ i = .int .i64 j ∧ s = .string ⟨L.toArray⟩ ∧ Hid (L = P7 ++ (a.T.notes.take j).flatMap keyB) ∧ Hid (EnS w a wr)) (fun _ i _ => a.T.notes.length - (intOf i).toNat)
                case atStart => exact ⟨0, P7, Nat.zero_le _, rfl, rfl, Lib.hid (by simp), ST⟩
                case round =>
                  clear ST
                  obtain ⟨wo, rfl⟩ : ∃ q, q = wr := ⟨_, rfl⟩
                  obtain ⟨j, L5, hj, rfl, rfl, HL, ST⟩ := hrel
                  have HB := Lib.hid (show L5.length ≤ 4392 + 32 * j by
                    rw [HL.out, List.length_append, flat_len keyB 32 (fun k => k.2), List.length_take]
                    have := HP4392.out
                    have : min j a.T.notes.length ≤ j := Nat.min_le_left _ _
                    omega)
                  by_cases hlt : j < a.T.notes.length
                  · obtain ⟨g1, o1, e1, l1, rc1⟩ := (show RowIn encK 32 wo wo.heap.size a.At a.ct a.T.notes from ST.out.ia.notes).at (encK_len) hlt
                    obtain ⟨x, hx⟩ : ∃ x, a.T.notes[j] = x := ⟨_, rfl⟩
                    rw [hx] at rc1
                    have HT := Lib.hid (show P7 ++ (a.T.notes.take (j + 1)).flatMap keyB = L5 ++ keyB x by rw [take_flat _ _ _ _ hlt, hx, HL.out])
                    have CC := Lib.hid (show wo.cell? ⟨w.heap.size, 36, none⟩ = some (.slice (some ⟨g1, o1, none⟩) a.T.notes.length a.ct) by rw [← e1]; exact TxA.c5 (RowC.of_blk ST.out.ka))
                    have RC := Lib.hid rc1
                    have hj39 : j ≤ 39 := by have := L0.out; omega
                    have HJ := Lib.hid hj39
                    clear hx rc1 e1
                    have cc := CC.out
                    have ha1 : ∀ V, (Op.stringOp .add ⟨(L5).toArray⟩ ⟨(x.1).toArray⟩).run Tryd.prog V = .ok (.string ⟨(L5 ++ x.1).toArray⟩) V := fun V => run_string_add_lists V _ _ (by have := HB.out; have := HJ.out; omega) (by rw [x.2]; omega)
                    go_wp2_with ((with_reducible refine at_load 157 ?_); refine tyKy.wpList_load rfl (.tmp 157) rfl g1 (o1 + j * 32) rfl x RC.out ?_)
                    refine (rBytes_r x _).mono ?_
                    rintro e w9 ⟨rfl, hb⟩
                    have ST' := Lib.hid (ST.out.call hb)
                    clear hb
                    clear ST; have ST := ST'; clear ST'
                    clear cc
                    go_wp2_with fail
                    go_roundw
                    case rel => exact ⟨j + 1, (L5 ++ x.1), by omega, by go_num, rfl, Lib.hid (HT.out.trans (rfl)).symm, ST⟩
                    case measure => simp [intOf]; omega
                  · have hje : j = a.T.notes.length := by omega
                    have hd : decide ((j : Int) < (a.T.notes.length : Int)) = false := by simp; omega
                    have HW5 := Lib.hid (show L5 = P7 ++ a.T.notes.flatMap keyB by rw [HL.out, hje, List.take_length])
                    have cc := TxA.c5 (RowC.of_blk ST.out.ka)
                    have HBL := Lib.hid (show L5.length ≤ 5672 by have := HB.out; have := L0.out; omega)
                    clear HL HB hje hj
                    have cc6 := TxA.c6 (RowC.of_blk ST.out.ka)
                    obtain ⟨P9, hP9⟩ : ∃ P, L5 ++ putL (ofI64 a.T.bal) 8 = P := ⟨_, rfl⟩
                    have haz : ∀ V, (Op.stringOp .add ⟨(L5).toArray⟩ ⟨(putL (ofI64 a.T.bal) 8).toArray⟩).run Tryd.prog V = .ok (.string ⟨P9.toArray⟩) V := fun V => hP9 ▸ run_string_add_lists V _ _ (by have := HBL.out; omega) (by rw [putL_len]; omega)
                    have HQ9 := Lib.hid hP9
                    clear hP9
                    go_wp2_with fail
                    refine (rPut8_r (ofI64 a.T.bal) _).mono ?_
                    rintro e w9 ⟨rfl, hb⟩
                    have ST' := Lib.hid (ST.out.call hb)
                    clear hb
                    clear ST; have ST := ST'; clear ST'
                    go_wp2
                    go_ret2
                    refine ⟨?_, ST.out.below⟩
                    rw [show P9 = txB a.T from by
                      rw [← HQ9.out, HW5.out, ← HQ5.out, HW4.out, ← HQ4.out, HW2.out, ← HQ2.out, HW1.out, ← HQ0.out, ← HE.out]
                      have hk : ∀ l : List K32, l.flatMap (fun k => k.1) = l.flatMap keyB := fun _ => rfl
                      unfold txB manyB nullB
                      simp only [hk, HZ0.out, if_true, List.append_assoc, List.nil_append]]
                    rfl
  · have hn0 : ((a.T.nulls.length : Int) == 0) = false := beq_eq_false_iff_ne.mpr (by omega)
    have HZ0 := Lib.hid hz
    clear hgo hz
    go_enter Tryd.func9, Tryd.ntmps9
    go_wp2_with fail
    refine wp_region_from (by kernel_rfl) (by kernel_rfl) ?_
    repeat (first
      | go_big_quiet_skip
      | ((with_reducible refine at_qload 41 ?_); refine wpQuiet_load_one (by rfl) 22 (.tmp 41) rfl ⟨w.heap.size, 0, none⟩ rfl _ Tryd.isAgg22 (fun W hC => TxA.c0 (RowC.of_blk (below_blk hC.below ST.out.ka ST.out.ka.lt))) ?_; simp only [Act.put, List.setIfInBounds_toArray, List.set_cons_succ, List.set_cons_zero])
      | ((with_reducible refine at_qload 45 ?_); refine wpQuiet_load_one (by rfl) 23 (.tmp 45) rfl ⟨w.heap.size, 1, none⟩ rfl _ Tryd.isAgg23 (fun W hC => TxA.c1 (RowC.of_blk (below_blk hC.below ST.out.ka ST.out.ka.lt))) ?_; simp only [Act.put, List.setIfInBounds_toArray, List.set_cons_succ, List.set_cons_zero])
      | (go_big_quiet_want; go_big_quiet_op; refine ⟨_, fun _ _ => by with_reducible rfl, ?_⟩; go_big_quiet_on)
      | go_big_quiet_step ((intro hC; first
          | (go_at_call 29; with_reducible exact (rPut4_r E _).mono fun _ _ h => ⟨h.1, hC.call h.2⟩)
          | (go_at_call 30; with_reducible exact (refCompact_any a.T.ins.length _).mono fun _ _ h => ⟨h.1, hC.call h.2⟩)
          | fail)))
    refine wpQuiet_nil ?_
    intro w9 hC
    have ST' := Lib.hid (ST.out.call hC.below)
    clear hC
    clear ST; have ST := ST'; clear ST'
    clear c1 c2 c4 c5
    obtain ⟨P0, hP0⟩ : ∃ P, putL E 4 ++ cmpL a.T.ins.length = P := ⟨_, rfl⟩
    rw [hP0]
    have HP13 := Lib.hid (show P0.length ≤ 13 by rw [← hP0]; exact HP0.out)
    have HQ0 := Lib.hid hP0
    clear hP0 hadd0 HP0
    go_wp2_with fail
    go_loopw [4, 5] (fun s i wr => ∃ (j : Nat) (L : List UInt8), j ≤ a.T.ins.length ∧ i = .int .i64 j ∧ s = .string ⟨L.toArray⟩ ∧ Hid (L = P0 ++ (a.T.ins.take j).flatMap ptB) ∧ Hid (EnS w a wr)) (fun _ i _ => a.T.ins.length - (intOf i).toNat)
    case atStart => exact ⟨0, P0, Nat.zero_le _, rfl, rfl, Lib.hid (by simp), ST⟩
    case round =>
      clear ST
      obtain ⟨wo, rfl⟩ : ∃ q, q = wr := ⟨_, rfl⟩
      obtain ⟨j, L1, hj, rfl, rfl, HL, ST⟩ := hrel
      have HB := Lib.hid (show L1.length ≤ 13 + 36 * j by
        rw [HL.out, List.length_append, flat_len ptB 36 ptB_len, List.length_take]
        have := HP13.out
        have : min j a.T.ins.length ≤ j := Nat.min_le_left _ _
        omega)
      by_cases hlt : j < a.T.ins.length
      · obtain ⟨g1, o1, e1, l1, rc1⟩ := (show RowIn (encKI .u32) 33 wo wo.heap.size a.Ai a.ci a.T.ins from ST.out.ia.ins).at (encKI_len _) hlt
        obtain ⟨x, hx⟩ : ∃ x, a.T.ins[j] = x := ⟨_, rfl⟩
        rw [hx] at rc1
        have HT := Lib.hid (show P0 ++ (a.T.ins.take (j + 1)).flatMap ptB = L1 ++ ptB x by rw [take_flat _ _ _ _ hlt, hx, HL.out])
        have CC := Lib.hid (show wo.cell? ⟨w.heap.size, 1, none⟩ = some (.slice (some ⟨g1, o1, none⟩) a.T.ins.length a.ci) by rw [← e1]; exact TxA.c1 (RowC.of_blk ST.out.ka))
        have RC := Lib.hid rc1
        have hj39 : j ≤ 39 := by have := L0.out; omega
        have HJ := Lib.hid hj39
        clear hx rc1 e1
        have cc := CC.out
        obtain ⟨z, hz4⟩ : ∃ z : Nat, x.2.1.toNat = z := ⟨_, rfl⟩
        have hcx : IntKind.u64.wrap x.2.1 = (z : Int) := by have := wf_u32.1 x.2.2; rw [IntKind.wrap_u64]; omega
        have ha1 : ∀ V, (Op.stringOp .add ⟨(L1).toArray⟩ ⟨(x.1.1).toArray⟩).run Tryd.prog V = .ok (.string ⟨(L1 ++ x.1.1).toArray⟩) V := fun V => run_string_add_lists V _ _ (by have := HB.out; have := HJ.out; omega) (by rw [x.1.2]; omega)
        have ha2 : ∀ V, (Op.stringOp .add ⟨(L1 ++ x.1.1).toArray⟩ ⟨(putL z 4).toArray⟩).run Tryd.prog V = .ok (.string ⟨(L1 ++ x.1.1 ++ putL z 4).toArray⟩) V := fun V => run_string_add_lists V _ _ (by have := HB.out; have := HJ.out; rw [List.length_append, x.1.2]; omega) (by rw [putL_len]; omega)
        have HZ := Lib.hid hz4
        clear hz4
        go_wp2_with fail
        refine wp_region_from (by kernel_rfl) (by kernel_rfl) ?_
        repeat (first
          | go_big_quiet_skip
          | ((with_reducible refine at_qload 59 ?_); refine wpQuiet_load_one (by rfl) 23 (.tmp 59) rfl ⟨w.heap.size, 1, none⟩ rfl _ Tryd.isAgg23 (fun W hC => (below_cell hC.below CC.out ST.out.ka.lt)) ?_; simp only [Act.put, List.setIfInBounds_toArray, List.set_cons_succ, List.set_cons_zero])
          | ((with_reducible refine at_qload 67 ?_); refine wpQuiet_load_one (by rfl) 23 (.tmp 67) rfl ⟨w.heap.size, 1, none⟩ rfl _ Tryd.isAgg23 (fun W hC => (below_cell hC.below CC.out ST.out.ka.lt)) ?_; simp only [Act.put, List.setIfInBounds_toArray, List.set_cons_succ, List.set_cons_zero])
          | ((with_reducible refine at_qload 63 ?_); refine tyKy.wpQuiet_load (by rfl) (.tmp 63) rfl g1 (o1 + j * 33) rfl x.1 (fun W hC => (RC.out.below hC.below l1).ki_key) ?_; simp only [Act.put, List.setIfInBounds_toArray, List.set_cons_succ, List.set_cons_zero])
          | ((with_reducible refine at_qload 71 ?_); refine wpQuiet_load_one (by rfl) 22 (.tmp 71) rfl ⟨g1, o1 + j * 33 + 32, none⟩ rfl _ Tryd.isAgg22 (fun W hC => (RC.out.below hC.below l1).ki_int) ?_; simp only [Act.put, List.setIfInBounds_toArray, List.set_cons_succ, List.set_cons_zero])
          | (go_big_quiet_want; go_big_quiet_op; refine ⟨_, fun _ _ => by with_reducible rfl, ?_⟩; go_big_quiet_on)
          | go_big_quiet_step ((intro hC; first
              | (go_at_call 31; with_reducible exact (rBytes_r x.1 _).mono fun _ _ h => ⟨h.1, hC.call h.2⟩)
              | (go_at_call 29; with_reducible exact (rPut4_r z _).mono fun _ _ h => ⟨h.1, hC.call h.2⟩)
              | fail)))
        refine wpQuiet_nil ?_
        intro w9 hC
        have ST' := Lib.hid (ST.out.call hC.below)
        clear hC
        clear ST; have ST := ST'; clear ST'
        clear ha1 ha2 hcx cc
        go_wp2_with fail
        go_roundw
        case rel => exact ⟨j + 1, (L1 ++ (x.1.1 ++ putL z 4)), by omega, by go_num, rfl, Lib.hid (HT.out.trans (by unfold ptB; rw [HZ.out])).symm, ST⟩
        case measure => simp [intOf]; omega
      · have hje : j = a.T.ins.length := by omega
        have hd : decide ((j : Int) < (a.T.ins.length : Int)) = false := by simp; omega
        have HW1 := Lib.hid (show L1 = P0 ++ a.T.ins.flatMap ptB by rw [HL.out, hje, List.take_length])
        have cc := TxA.c1 (RowC.of_blk ST.out.ka)
        have HBL := Lib.hid (show L1.length ≤ 1453 by have := HB.out; have := L0.out; omega)
        clear HL HB hje hj
        have cc2 := TxA.c2 (RowC.of_blk ST.out.ka)
        obtain ⟨P2, hP2⟩ : ∃ P, L1 ++ cmpL a.T.outs.length = P := ⟨_, rfl⟩
        have hac : ∀ V, (Op.stringOp .add ⟨(L1).toArray⟩ ⟨(cmpL a.T.outs.length).toArray⟩).run Tryd.prog V = .ok (.string ⟨P2.toArray⟩) V := fun V => hP2 ▸ run_string_add_lists V _ _ (by have := HBL.out; omega) (by have := cmpL_le a.T.outs.length; omega)
        have HP1462 := Lib.hid (show P2.length ≤ 1462 by rw [← hP2, List.length_append]; have := HBL.out; have := cmpL_le a.T.outs.length; omega)
        have HQ2 := Lib.hid hP2
        clear hP2
        go_wp2_with fail
        refine (refCompact_any a.T.outs.length _).mono ?_
        rintro e w9 ⟨rfl, hb⟩
        have ST' := Lib.hid (ST.out.call hb)
        clear hb
        clear ST; have ST := ST'; clear ST'
        go_wp2_with fail
        go_loopw [4, 6] (fun s i wr => ∃ (j : Nat) (L : List UInt8), j ≤ a.T.outs.length ∧ i = .int .i64 j ∧ s = .string ⟨L.toArray⟩ ∧ Hid (L = P2 ++ (a.T.outs.take j).flatMap outB) ∧ Hid (EnS w a wr)) (fun _ i _ => a.T.outs.length - (intOf i).toNat)
        case atStart => exact ⟨0, P2, Nat.zero_le _, rfl, rfl, Lib.hid (by simp), ST⟩
        case round =>
          clear ST
          obtain ⟨wo, rfl⟩ : ∃ q, q = wr := ⟨_, rfl⟩
          obtain ⟨j, L2, hj, rfl, rfl, HL, ST⟩ := hrel
          have HB := Lib.hid (show L2.length ≤ 1462 + 40 * j by
            rw [HL.out, List.length_append, flat_len outB 40 outB_len, List.length_take]
            have := HP1462.out
            have : min j a.T.outs.length ≤ j := Nat.min_le_left _ _
            omega)
          by_cases hlt : j < a.T.outs.length
          · obtain ⟨g1, o1, e1, l1, rc1⟩ := (show RowIn (encIK .i64) 33 wo wo.heap.size a.Ao a.co a.T.outs from ST.out.ia.outs).at (encIK_len _) hlt
            obtain ⟨x, hx⟩ : ∃ x, a.T.outs[j] = x := ⟨_, rfl⟩
            rw [hx] at rc1
            have HT := Lib.hid (show P2 ++ (a.T.outs.take (j + 1)).flatMap outB = L2 ++ outB x by rw [take_flat _ _ _ _ hlt, hx, HL.out])
            have CC := Lib.hid (show wo.cell? ⟨w.heap.size, 2, none⟩ = some (.slice (some ⟨g1, o1, none⟩) a.T.outs.length a.co) by rw [← e1]; exact TxA.c2 (RowC.of_blk ST.out.ka))
            have RC := Lib.hid rc1
            have hj39 : j ≤ 39 := by have := L0.out; omega
            have HJ := Lib.hid hj39
            clear hx rc1 e1
            have cc := CC.out
            obtain ⟨z, hz4⟩ : ∃ z : Nat, ofI64 x.1 = z := ⟨_, rfl⟩
            have hcx : IntKind.u64.wrap x.1.1 = (z : Int) := by rw [IntKind.wrap_u64, ← hz4]; unfold ofI64; omega
            have ha1 : ∀ V, (Op.stringOp .add ⟨(L2).toArray⟩ ⟨(putL z 8).toArray⟩).run Tryd.prog V = .ok (.string ⟨(L2 ++ putL z 8).toArray⟩) V := fun V => run_string_add_lists V _ _ (by have := HB.out; have := HJ.out; omega) (by rw [putL_len]; omega)
            have ha2 : ∀ V, (Op.stringOp .add ⟨(L2 ++ putL z 8).toArray⟩ ⟨(x.2.1).toArray⟩).run Tryd.prog V = .ok (.string ⟨(L2 ++ putL z 8 ++ x.2.1).toArray⟩) V := fun V => run_string_add_lists V _ _ (by have := HB.out; have := HJ.out; rw [List.length_append, putL_len]; omega) (by rw [x.2.2]; omega)
            have HZ := Lib.hid hz4
            clear hz4
            go_wp2_with fail
            refine wp_region_from (by kernel_rfl) (by kernel_rfl) ?_
            repeat (first
              | go_big_quiet_skip
              | ((with_reducible refine at_qload 91 ?_); refine wpQuiet_load_one (by rfl) 24 (.tmp 91) rfl ⟨w.heap.size, 2, none⟩ rfl _ Tryd.isAgg24 (fun W hC => (below_cell hC.below CC.out ST.out.ka.lt)) ?_; simp only [Act.put, List.setIfInBounds_toArray, List.set_cons_succ, List.set_cons_zero])
              | ((with_reducible refine at_qload 100 ?_); refine wpQuiet_load_one (by rfl) 24 (.tmp 100) rfl ⟨w.heap.size, 2, none⟩ rfl _ Tryd.isAgg24 (fun W hC => (below_cell hC.below CC.out ST.out.ka.lt)) ?_; simp only [Act.put, List.setIfInBounds_toArray, List.set_cons_succ, List.set_cons_zero])
              | ((with_reducible refine at_qload 95 ?_); refine wpQuiet_load_one (by rfl) 2 (.tmp 95) rfl ⟨g1, o1 + j * 33, none⟩ rfl _ Tryd.isAgg2 (fun W hC => (RC.out.below hC.below l1).ik_int) ?_; simp only [Act.put, List.setIfInBounds_toArray, List.set_cons_succ, List.set_cons_zero])
              | ((with_reducible refine at_qload 104 ?_); refine tyKy.wpQuiet_load (by rfl) (.tmp 104) rfl g1 (o1 + j * 33 + 1) rfl x.2 (fun W hC => (RC.out.below hC.below l1).ik_key) ?_; simp only [Act.put, List.setIfInBounds_toArray, List.set_cons_succ, List.set_cons_zero])
              | (go_big_quiet_want; go_big_quiet_op; refine ⟨_, fun _ _ => by with_reducible rfl, ?_⟩; go_big_quiet_on)
              | go_big_quiet_step ((intro hC; first
                  | (go_at_call 31; with_reducible exact (rBytes_r x.2 _).mono fun _ _ h => ⟨h.1, hC.call h.2⟩)
                  | (go_at_call 29; with_reducible exact (rPut8_r z _).mono fun _ _ h => ⟨h.1, hC.call h.2⟩)
                  | fail)))
            refine wpQuiet_nil ?_
            intro w9 hC
            have ST' := Lib.hid (ST.out.call hC.below)
            clear hC
            clear ST; have ST := ST'; clear ST'
            clear ha1 ha2 hcx cc
            go_wp2_with fail
            go_roundw
            case rel => exact ⟨j + 1, (L2 ++ (putL z 8 ++ x.2.1)), by omega, by go_num, rfl, Lib.hid (HT.out.trans (by unfold outB; rw [HZ.out])).symm, ST⟩
            case measure => simp [intOf]; omega
          · have hje : j = a.T.outs.length := by omega
            have hd : decide ((j : Int) < (a.T.outs.length : Int)) = false := by simp; omega
            have HW2 := Lib.hid (show L2 = P2 ++ a.T.outs.flatMap outB by rw [HL.out, hje, List.take_length])
            have cc := TxA.c2 (RowC.of_blk ST.out.ka)
            have HBL := Lib.hid (show L2.length ≤ 3062 by have := HB.out; have := L0.out; omega)
            clear HL HB hje hj
            have cc2 := TxA.c4 (RowC.of_blk ST.out.ka)
            obtain ⟨P4, hP4⟩ : ∃ P, L2 ++ cmpL a.T.nulls.length = P := ⟨_, rfl⟩
            have hac : ∀ V, (Op.stringOp .add ⟨(L2).toArray⟩ ⟨(cmpL a.T.nulls.length).toArray⟩).run Tryd.prog V = .ok (.string ⟨P4.toArray⟩) V := fun V => hP4 ▸ run_string_add_lists V _ _ (by have := HBL.out; omega) (by have := cmpL_le a.T.nulls.length; omega)
            have HP3071 := Lib.hid (show P4.length ≤ 3071 by rw [← hP4, List.length_append]; have := HBL.out; have := cmpL_le a.T.nulls.length; omega)
            have HQ4 := Lib.hid hP4
            clear hP4
            go_wp2_with fail
            refine (refCompact_any a.T.nulls.length _).mono ?_
            rintro e w9 ⟨rfl, hb⟩
            have ST' := Lib.hid (ST.out.call hb)
            clear hb
            clear ST; have ST := ST'; clear ST'
            have hp0 : decide ((0 : Int) < (a.T.nulls.length : Int)) = true := by have := HZ0.out; simp only [decide_eq_true_iff]; omega
            have hp1 : decide (0 < a.T.nulls.length) = true := by have := HZ0.out; simp only [decide_eq_true_iff]; omega
            obtain ⟨PA, hPA⟩ : ∃ P, P4 ++ a.T.anchor.1 = P := ⟨_, rfl⟩
            have haA : ∀ V, (Op.stringOp .add ⟨(P4).toArray⟩ ⟨(a.T.anchor.1).toArray⟩).run Tryd.prog V = .ok (.string ⟨PA.toArray⟩) V := fun V => hPA ▸ run_string_add_lists V _ _ (by have := HP3071.out; omega) (by rw [a.T.anchor.2]; omega)
            have HP3103 := Lib.hid (show PA.length ≤ 3103 by rw [← hPA, List.length_append, a.T.anchor.2]; have := HP3071.out; omega)
            have HQA := Lib.hid hPA
            clear hPA
            have cc4 := TxA.c4 (RowC.of_blk ST.out.ka)
            have HK := Lib.hid (TxA.c3 (RowC.of_blk ST.out.ka))
            go_wp2_with ((with_reducible refine at_load 120 ?_); refine tyKy.wpList_load rfl (.tmp 120) rfl w.heap.size 3 rfl a.T.anchor HK.out ?_)
            refine (rBytes_r a.T.anchor _).mono ?_
            rintro e w9 ⟨rfl, hb⟩
            have ST' := Lib.hid (ST.out.call hb)
            clear hb
            clear ST; have ST := ST'; clear ST'
            clear cc4 HK
            go_wp2_with fail
            go_loopw [4, 7] (fun s i wr => ∃ (j : Nat) (L : List UInt8), j ≤ a.T.nulls.length ∧ i = .int .i64 j ∧ s = .string ⟨L.toArray⟩ ∧ Hid (L = PA ++ (a.T.nulls.take j).flatMap keyB) ∧ Hid (EnS w a wr)) (fun _ i _ => a.T.nulls.length - (intOf i).toNat)
            case atStart => exact ⟨0, PA, Nat.zero_le _, rfl, rfl, Lib.hid (by simp), ST⟩
            case round =>
              clear ST
              obtain ⟨wo, rfl⟩ : ∃ q, q = wr := ⟨_, rfl⟩
              obtain ⟨j, L4, hj, rfl, rfl, HL, ST⟩ := hrel
              have HB := Lib.hid (show L4.length ≤ 3103 + 32 * j by
                rw [HL.out, List.length_append, flat_len keyB 32 (fun k => k.2), List.length_take]
                have := HP3103.out
                have : min j a.T.nulls.length ≤ j := Nat.min_le_left _ _
                omega)
              by_cases hlt : j < a.T.nulls.length
              · obtain ⟨g1, o1, e1, l1, rc1⟩ := (show RowIn encK 32 wo wo.heap.size a.An a.cn a.T.nulls from ST.out.ia.nulls).at (encK_len) hlt
                obtain ⟨x, hx⟩ : ∃ x, a.T.nulls[j] = x := ⟨_, rfl⟩
                rw [hx] at rc1
                have HT := Lib.hid (show PA ++ (a.T.nulls.take (j + 1)).flatMap keyB = L4 ++ keyB x by rw [take_flat _ _ _ _ hlt, hx, HL.out])
                have CC := Lib.hid (show wo.cell? ⟨w.heap.size, 35, none⟩ = some (.slice (some ⟨g1, o1, none⟩) a.T.nulls.length a.cn) by rw [← e1]; exact TxA.c4 (RowC.of_blk ST.out.ka))
                have RC := Lib.hid rc1
                have hj39 : j ≤ 39 := by have := L0.out; omega
                have HJ := Lib.hid hj39
                clear hx rc1 e1
                have cc := CC.out
                have ha1 : ∀ V, (Op.stringOp .add ⟨(L4).toArray⟩ ⟨(x.1).toArray⟩).run Tryd.prog V = .ok (.string ⟨(L4 ++ x.1).toArray⟩) V := fun V => run_string_add_lists V _ _ (by have := HB.out; have := HJ.out; omega) (by rw [x.2]; omega)
                go_wp2_with ((with_reducible refine at_load 135 ?_); refine tyKy.wpList_load rfl (.tmp 135) rfl g1 (o1 + j * 32) rfl x RC.out ?_)
                refine (rBytes_r x _).mono ?_
                rintro e w9 ⟨rfl, hb⟩
                have ST' := Lib.hid (ST.out.call hb)
                clear hb
                clear ST; have ST := ST'; clear ST'
                clear cc
                go_wp2_with fail
                go_roundw
                case rel => exact ⟨j + 1, (L4 ++ x.1), by omega, by go_num, rfl, Lib.hid (HT.out.trans (rfl)).symm, ST⟩
                case measure => simp [intOf]; omega
              · have hje : j = a.T.nulls.length := by omega
                have hd : decide ((j : Int) < (a.T.nulls.length : Int)) = false := by simp; omega
                have HW4 := Lib.hid (show L4 = PA ++ a.T.nulls.flatMap keyB by rw [HL.out, hje, List.take_length])
                have cc := TxA.c4 (RowC.of_blk ST.out.ka)
                have HBL := Lib.hid (show L4.length ≤ 4383 by have := HB.out; have := L0.out; omega)
                clear HL HB hje hj
                have cc2 := TxA.c5 (RowC.of_blk ST.out.ka)
                obtain ⟨P7, hP7⟩ : ∃ P, L4 ++ cmpL a.T.notes.length = P := ⟨_, rfl⟩
                have hac : ∀ V, (Op.stringOp .add ⟨(L4).toArray⟩ ⟨(cmpL a.T.notes.length).toArray⟩).run Tryd.prog V = .ok (.string ⟨P7.toArray⟩) V := fun V => hP7 ▸ run_string_add_lists V _ _ (by have := HBL.out; omega) (by have := cmpL_le a.T.notes.length; omega)
                have HP4392 := Lib.hid (show P7.length ≤ 4392 by rw [← hP7, List.length_append]; have := HBL.out; have := cmpL_le a.T.notes.length; omega)
                have HQ5 := Lib.hid hP7
                clear hP7
                go_wp2_with fail
                refine (refCompact_any a.T.notes.length _).mono ?_
                rintro e w9 ⟨rfl, hb⟩
                have ST' := Lib.hid (ST.out.call hb)
                clear hb
                clear ST; have ST := ST'; clear ST'
                go_wp2_with fail
                go_loopw [4, 8] (fun s i wr => ∃ (j : Nat) (L : List UInt8), j ≤ a.T.notes.length ∧ i = .int .i64 j ∧ s = .string ⟨L.toArray⟩ ∧ Hid (L = P7 ++ (a.T.notes.take j).flatMap keyB) ∧ Hid (EnS w a wr)) (fun _ i _ => a.T.notes.length - (intOf i).toNat)
                case atStart => exact ⟨0, P7, Nat.zero_le _, rfl, rfl, Lib.hid (by simp), ST⟩
                case round =>
                  clear ST
                  obtain ⟨wo, rfl⟩ : ∃ q, q = wr := ⟨_, rfl⟩
                  obtain ⟨j, L5, hj, rfl, rfl, HL, ST⟩ := hrel
                  have HB := Lib.hid (show L5.length ≤ 4392 + 32 * j by
                    rw [HL.out, List.length_append, flat_len keyB 32 (fun k => k.2), List.length_take]
                    have := HP4392.out
                    have : min j a.T.notes.length ≤ j := Nat.min_le_left _ _
                    omega)
                  by_cases hlt : j < a.T.notes.length
                  · obtain ⟨g1, o1, e1, l1, rc1⟩ := (show RowIn encK 32 wo wo.heap.size a.At a.ct a.T.notes from ST.out.ia.notes).at (encK_len) hlt
                    obtain ⟨x, hx⟩ : ∃ x, a.T.notes[j] = x := ⟨_, rfl⟩
                    rw [hx] at rc1
                    have HT := Lib.hid (show P7 ++ (a.T.notes.take (j + 1)).flatMap keyB = L5 ++ keyB x by rw [take_flat _ _ _ _ hlt, hx, HL.out])
                    have CC := Lib.hid (show wo.cell? ⟨w.heap.size, 36, none⟩ = some (.slice (some ⟨g1, o1, none⟩) a.T.notes.length a.ct) by rw [← e1]; exact TxA.c5 (RowC.of_blk ST.out.ka))
                    have RC := Lib.hid rc1
                    have hj39 : j ≤ 39 := by have := L0.out; omega
                    have HJ := Lib.hid hj39
                    clear hx rc1 e1
                    have cc := CC.out
                    have ha1 : ∀ V, (Op.stringOp .add ⟨(L5).toArray⟩ ⟨(x.1).toArray⟩).run Tryd.prog V = .ok (.string ⟨(L5 ++ x.1).toArray⟩) V := fun V => run_string_add_lists V _ _ (by have := HB.out; have := HJ.out; omega) (by rw [x.2]; omega)
                    go_wp2_with ((with_reducible refine at_load 157 ?_); refine tyKy.wpList_load rfl (.tmp 157) rfl g1 (o1 + j * 32) rfl x RC.out ?_)
                    refine (rBytes_r x _).mono ?_
                    rintro e w9 ⟨rfl, hb⟩
                    have ST' := Lib.hid (ST.out.call hb)
                    clear hb
                    clear ST; have ST := ST'; clear ST'
                    clear cc
                    go_wp2_with fail
                    go_roundw
                    case rel => exact ⟨j + 1, (L5 ++ x.1), by omega, by go_num, rfl, Lib.hid (HT.out.trans (rfl)).symm, ST⟩
                    case measure => simp [intOf]; omega
                  · have hje : j = a.T.notes.length := by omega
                    have hd : decide ((j : Int) < (a.T.notes.length : Int)) = false := by simp; omega
                    have HW5 := Lib.hid (show L5 = P7 ++ a.T.notes.flatMap keyB by rw [HL.out, hje, List.take_length])
                    have cc := TxA.c5 (RowC.of_blk ST.out.ka)
                    have HBL := Lib.hid (show L5.length ≤ 5672 by have := HB.out; have := L0.out; omega)
                    clear HL HB hje hj
                    have cc6 := TxA.c6 (RowC.of_blk ST.out.ka)
                    obtain ⟨P9, hP9⟩ : ∃ P, L5 ++ putL (ofI64 a.T.bal) 8 = P := ⟨_, rfl⟩
                    have haz : ∀ V, (Op.stringOp .add ⟨(L5).toArray⟩ ⟨(putL (ofI64 a.T.bal) 8).toArray⟩).run Tryd.prog V = .ok (.string ⟨P9.toArray⟩) V := fun V => hP9 ▸ run_string_add_lists V _ _ (by have := HBL.out; omega) (by rw [putL_len]; omega)
                    have HQ9 := Lib.hid hP9
                    clear hP9
                    go_wp2_with fail
                    refine (rPut8_r (ofI64 a.T.bal) _).mono ?_
                    rintro e w9 ⟨rfl, hb⟩
                    have ST' := Lib.hid (ST.out.call hb)
                    clear hb
                    clear ST; have ST := ST'; clear ST'
                    go_wp2
                    go_ret2
                    refine ⟨?_, ST.out.below⟩
                    rw [show P9 = txB a.T from by
                      rw [← HQ9.out, HW5.out, ← HQ5.out, HW4.out, ← HQA.out, ← HQ4.out, HW2.out, ← HQ2.out, HW1.out, ← HQ0.out, ← HE.out]
                      have hk : ∀ l : List K32, l.flatMap (fun k => k.1) = l.flatMap keyB := fun _ => rfl
                      unfold txB manyB nullB
                      simp only [hk, HZ0.out, if_false, List.append_assoc]]
                    rfl
theorem refEncA_any (a : TxA) (w : World) (h : a.In w w.heap.size) :
    Calls Tryd.prog 9 #[.agg a.cells.toArray] w fun e w' => e = .returned (encV (encF a.T)) ∧ Below w.heap.size w w' := by
  by_cases hm : 40 < a.T.ins.length ∨ 40 < a.T.outs.length ∨ 40 < a.T.nulls.length ∨ 40 < a.T.notes.length
  · exact rEnc_many a w hm
  by_cases ha : a.T.nulls.length = 0 ∧ a.T.anchor ≠ zeroKey
  · exact rEnc_arg a w (by omega) ha.1 ha.2
  · have hok : OkTx a.T := ⟨by omega, by omega, by omega, by omega, fun q => Classical.byContradiction fun e => ha ⟨q, e⟩⟩
    rw [encF_ok a.T hok]
    exact rEnc_ok a w h hok
end Go.Proofs.YtgcopgnkfokphaaDoor
