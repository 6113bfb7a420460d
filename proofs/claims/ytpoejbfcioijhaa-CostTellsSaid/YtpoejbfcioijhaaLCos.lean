/- The walks of layer 14's laws; the law's heavy and shown. Written by genLC14.py. -/
import Derived.Test.YtpoejbfcioijhaaCosC
namespace Go.Proofs.Ytpoejbfcioijhaa
open Go.RowKit
def SumOk : Prop := ∀ (A : Option Addr) (c : Nat) (l : List (IntV .i64)) (w : World), RowIn (enc1 .i64) 1 w w.heap.size A c l → l.length ≤ 1200 → Calls Try.prog 10 #[.slice A l.length c] w fun e w' => e = .returned (sumV l) ∧ Below w.heap.size w w'
def PickOk : Prop := ∀ (A : Option Addr) (c : Nat) (l : List (IntV .i64)) (d : IntV .u64) (w : World), RowIn (enc1 .i64) 1 w w.heap.size A c l → l.length ≤ 1200 → Calls Try.prog 12 #[.slice A l.length c, .int .u64 d.1] w fun e w' => e = .returned (pickV l d.1) ∧ Below w.heap.size w w'
def CostTOk : Prop := ∀ (a : TxA) (w : World), a.In w w.heap.size → Few a.T → Calls Try.prog 14 #[.agg a.cells.toArray] w fun e w' => e = .returned (.int .i64 (costF a.T)) ∧ Below w.heap.size w w'
def CostWOk : Prop := ∀ (a : TxA) (f : Int) (w : World), a.In w w.heap.size → Few a.T → isI64 f → Calls Try.prog 16 #[.agg a.cells.toArray, .int .i64 f] w fun e w' => e = .returned (.int .i64 (cosW a.T f)) ∧ Below w.heap.size w w'
section
theorem cosheavy_any (a : TxA) (w : World) :
    Calls Try.prog 8 #[.agg a.cells.toArray] w fun e w' => e = .returned (.bool (heavyF a.T)) ∧ Below w.heap.size w w' := by
  have hb : RowC (w.alloc (.cells a.cells.toArray 29)) w.heap.size 0 a.cells := RowC.of_blk (Blk.new _ _ _)
  have c1 := TxA.c1 hb
  have c2 := TxA.c2 hb
  have c4 := TxA.c4 hb
  have c5 := TxA.c5 hb
  clear hb
  have hx : ∀ b : Bool, (b = true ↔ (60 < (a.T.ins.length : Int) ∨ 60 < (a.T.outs.length : Int) ∨ 60 < (a.T.nulls.length : Int) ∨ 60 < (a.T.notes.length : Int))) → Ending.returned (Value.bool b) = .returned (.bool (heavyF a.T)) := fun b hb => by
    congr 2
    rw [Bool.eq_iff_iff, hb]
    unfold heavyF
    simp only [decide_eq_true_iff]
    omega
  have HX := Lib.hid hx
  clear hx
  go_enter Try.func8, Try.ntmps8
  go_wp2
  all_goals
    go_ret
    refine ⟨HX.out _ ?_, (Below.refl _ _).alloc (Nat.le_refl _) _⟩
    simp
    omega
end
theorem cos_few {T : TxV} (h : heavyF T = false) : Few T := by
  unfold heavyF at h
  have := of_decide_eq_false h
  exact ⟨by omega, by omega, by omega, by omega⟩
def cosTxZ : TxA := ⟨txZero, none, 0, none, 0, none, 0, none, 0⟩
def cos23 : List (IntV .i64) := [⟨2, by decide⟩, ⟨3, by decide⟩]
def cosD2 : IntV .u64 := ⟨2, by decide⟩
theorem cos_pick : pickV cos23 2 = .tuple #[.int .i64 1, .bool true] := by
  have : pickW cos23 2 = some 1 := by decide +kernel
  unfold pickV
  rw [this]
  rfl
theorem cos_zero : costF txZero = 4000 := by decide +kernel
theorem cosZ_in (w : World) : cosTxZ.In w w.heap.size := ⟨RowIn.nil (Nat.zero_le _), RowIn.nil (Nat.zero_le _), RowIn.nil (Nat.zero_le _), RowIn.nil (Nat.zero_le _)⟩
set_option maxRecDepth 20000 in
set_option maxHeartbeats 1000000 in
theorem cosshown_any (HPI : PickOk) (HCO : CostTOk) (w : World) :
    Calls Try.prog 9 #[] w fun e w' => e = .returned (.bool true) ∧ Below w.heap.size w w' := by
  have HP := Lib.hid (fun W (h : RowIn (enc1 .i64) 1 W W.heap.size (some ⟨w.heap.size, 0, none⟩) 2 cos23) => HPI (some ⟨w.heap.size, 0, none⟩) 2 cos23 cosD2 W h (by decide))
  have HC := Lib.hid (fun W => HCO cosTxZ W (cosZ_in W) ⟨by decide, by decide, by decide, by decide⟩)
  have K0 := Lib.hid (show Blk (w.alloc (.cells (cellsOf (enc1 .i64) cos23).toArray 2)) w.heap.size 2 (cellsOf (enc1 .i64) cos23).toArray from Blk.new w 2 _)
  have B0 := Lib.hid (show Below w.heap.size w (w.alloc (.cells (cellsOf (enc1 .i64) cos23).toArray 2)) from (Below.refl w.heap.size w).alloc (Nat.le_refl _) _)
  clear HPI HCO
  go_enter Try.func9, Try.ntmps9
  go_wp2_with fail
  refine (HP.out _ ((rowIn_blk (c := 2) (l := cos23) K0.out (by decide) (by decide)).more (Nat.succ_le_of_lt K0.out.lt))).mono ?_
  rintro e w1 ⟨rfl, b1⟩
  rw [show pickV cos23 cosD2.1 = .tuple #[.int .i64 1, .bool true] from cos_pick]
  have B1 := Lib.hid (B0.out.trans (b1.mono B0.out.size))
  clear b1 K0 B0 HP
  go_wp2_with ((with_reducible refine at_build 14 ?_); refine wpList_unguard (by rfl) (wpList_built rfl 29 #[] rfl cosTxZ.cells.toArray (by kernel_rfl) ?_))
  refine (HC.out _).mono ?_
  rintro e w2 ⟨rfl, b2⟩
  rw [show costF cosTxZ.T = 4000 from cos_zero]
  have B2 := Lib.hid (B1.out.trans (b2.mono B1.out.size))
  clear b2 B1
  go_wp2_with fail
  go_ret
  exact ⟨rfl, B2.out⟩
set_option maxRecDepth 20000 in
set_option maxHeartbeats 4000000 in
theorem cosTells_h (_ : SumOk) (HPI : PickOk) (HCO : CostTOk) (_ : CostWOk) (a : TxA) (f : Int) (A : Option Addr) (c : Nat) (l : List (IntV .i64)) (d : IntV .u64) (w : World) (ha : a.In w w.heap.size) (_ : isI64 f) (_ : RowIn (enc1 .i64) 1 w w.heap.size A c l) (hv : heavyF a.T = true) :
    Calls Try.prog 3 #[.agg a.cells.toArray, .int .i64 f, .slice A l.length c, .int .u64 d.1] w fun e w' => e = .returned (.bool true) ∧ Below w.heap.size w w' := by
  have SH := Lib.hid (fun W => cosshown_any HPI HCO W)
  have IA := Lib.hid ha
  have HH := Lib.hid (show Holds w [(w.heap.size, 29, a.cells.toArray)] (w.alloc (.cells a.cells.toArray 29)) from (Holds.nil w).box 29 a.cells.toArray)
  clear ha IA HPI HCO
  go_enter Try.func3, Try.ntmps3
  go_wp2_with ((with_reducible refine at_load 4 ?_); refine tyTx.wpList_load rfl (.tmp 4) rfl (w.heap.size) 0 rfl a (RowC.of_blk (HH.out.at (x := (w.heap.size, 29, a.cells.toArray)) (by simp))) ?_)
  with_reducible refine (cosheavy_any a _).mono ?_
  rintro e w1 ⟨rfl, bq⟩
  have HQ := Lib.hid (HH.out.call bq)
  clear bq HH
  have HH := HQ
  clear HQ
  rw [hv]
  go_wp2_with fail
  with_reducible refine (SH.out _).mono ?_
  rintro e w2 ⟨rfl, bq⟩
  have HQ := Lib.hid (HH.out.call bq)
  clear bq HH
  have HH := HQ
  clear HQ
  go_wp2_with fail
  go_ret
  exact ⟨rfl, HH.out.below⟩
set_option maxRecDepth 20000 in
set_option maxHeartbeats 4000000 in
theorem cosTells_l (_ : SumOk) (HPI : PickOk) (HCO : CostTOk) (_ : CostWOk) (a : TxA) (f : Int) (A : Option Addr) (c : Nat) (l : List (IntV .i64)) (d : IntV .u64) (w : World) (ha : a.In w w.heap.size) (_ : isI64 f) (_ : RowIn (enc1 .i64) 1 w w.heap.size A c l) (hv : heavyF a.T = false) (hl : 1200 < l.length) :
    Calls Try.prog 3 #[.agg a.cells.toArray, .int .i64 f, .slice A l.length c, .int .u64 d.1] w fun e w' => e = .returned (.bool true) ∧ Below w.heap.size w w' := by
  have SH := Lib.hid (fun W => cosshown_any HPI HCO W)
  have IA := Lib.hid ha
  have HH := Lib.hid (show Holds w [(w.heap.size, 29, a.cells.toArray)] (w.alloc (.cells a.cells.toArray 29)) from (Holds.nil w).box 29 a.cells.toArray)
  have hd : decide ((1200 : Int) < (l.length : Int)) = true := decide_eq_true (by omega)
  clear ha IA HPI HCO hl
  go_enter Try.func3, Try.ntmps3
  go_wp2_with ((with_reducible refine at_load 4 ?_); refine tyTx.wpList_load rfl (.tmp 4) rfl (w.heap.size) 0 rfl a (RowC.of_blk (HH.out.at (x := (w.heap.size, 29, a.cells.toArray)) (by simp))) ?_)
  with_reducible refine (cosheavy_any a _).mono ?_
  rintro e w1 ⟨rfl, bq⟩
  have HQ := Lib.hid (HH.out.call bq)
  clear bq HH
  have HH := HQ
  clear HQ
  rw [hv]
  go_wp2_with fail
  with_reducible refine (SH.out _).mono ?_
  rintro e w2 ⟨rfl, bq⟩
  have HQ := Lib.hid (HH.out.call bq)
  clear bq HH
  have HH := HQ
  clear HQ
  go_wp2_with fail
  go_ret
  exact ⟨rfl, HH.out.below⟩
set_option maxRecDepth 20000 in
set_option maxHeartbeats 4000000 in
theorem cosTells_m (HSU : SumOk) (HPI : PickOk) (HCO : CostTOk) (HWE : CostWOk) (a : TxA) (f : Int) (A : Option Addr) (c : Nat) (l : List (IntV .i64)) (d : IntV .u64) (w : World) (ha : a.In w w.heap.size) (hf : isI64 f) (hr : RowIn (enc1 .i64) 1 w w.heap.size A c l) (hv : heavyF a.T = false) (hl : l.length ≤ 1200) :
    Calls Try.prog 3 #[.agg a.cells.toArray, .int .i64 f, .slice A l.length c, .int .u64 d.1] w fun e w' => e = .returned (.bool true) ∧ Below w.heap.size w w' := by
  have SH := Lib.hid (fun W => cosshown_any HPI HCO W)
  have IA := Lib.hid ha
  have HH := Lib.hid (show Holds w [(w.heap.size, 29, a.cells.toArray)] (w.alloc (.cells a.cells.toArray 29)) from (Holds.nil w).box 29 a.cells.toArray)
  have NA := Lib.hid (cos_few hv)
  have IR := Lib.hid hr
  have HL := Lib.hid hl
  have HF := Lib.hid hf
  have hd : decide ((1200 : Int) < (l.length : Int)) = false := decide_eq_false (by omega)
  obtain ⟨s0, s1, hs⟩ : ∃ (s0 : Int) (s1 : Bool), sumV l = .tuple #[.int .i64 s0, .bool s1] := ⟨_, _, rfl⟩
  obtain ⟨p0, p1, hp⟩ : ∃ (p0 : Int) (p1 : Bool), pickV l d.1 = .tuple #[.int .i64 p0, .bool p1] := ⟨_, _, rfl⟩
  have HS := Lib.hid hs
  have HP := Lib.hid hp
  obtain ⟨c0, hc0⟩ : ∃ q, costF a.T = q := ⟨_, rfl⟩
  obtain ⟨c1, hc1⟩ : ∃ q, cosW a.T f = q := ⟨_, rfl⟩
  have HC0 := Lib.hid (And.intro hc0 hc1)
  have S1 := Lib.hid (fun W (h : RowIn (enc1 .i64) 1 W W.heap.size A c l) => HSU A c l W h HL.out)
  have P1 := Lib.hid (fun W (h : RowIn (enc1 .i64) 1 W W.heap.size A c l) => HPI A c l d W h HL.out)
  clear ha hr hl hf hs hp hc0 hc1
  go_enter Try.func3, Try.ntmps3
  go_wp2_with ((with_reducible refine at_load 4 ?_); refine tyTx.wpList_load rfl (.tmp 4) rfl (w.heap.size) 0 rfl a (RowC.of_blk (HH.out.at (x := (w.heap.size, 29, a.cells.toArray)) (by simp))) ?_)
  with_reducible refine (cosheavy_any a _).mono ?_
  rintro e w1 ⟨rfl, bq⟩
  have HQ := Lib.hid (HH.out.call bq)
  clear bq HH
  have HH := HQ
  clear HQ
  rw [hv]
  go_wp2_with fail
  with_reducible refine (SH.out _).mono ?_
  rintro e w2 ⟨rfl, bq⟩
  have HQ := Lib.hid (HH.out.call bq)
  clear bq HH
  have HH := HQ
  clear HQ
  clear hd
  go_wp2_with fail
  with_reducible refine (S1.out _ ((IR.out.below HH.out.below).more HH.out.below.size)).mono ?_
  rintro e w3 ⟨rfl, bq⟩
  have HQ := Lib.hid (HH.out.call bq)
  clear bq HH
  have HH := HQ
  clear HQ
  rw [HS.out]
  go_wp2_with fail
  with_reducible refine (rSum_w A c l _ ((IR.out.below HH.out.below).more HH.out.below.size) (by have := HL.out; omega)).mono ?_
  rintro e w4 ⟨rfl, bq⟩
  have HQ := Lib.hid (HH.out.call bq)
  clear bq HH
  have HH := HQ
  clear HQ
  rw [HS.out]
  go_wp2_with fail
  with_reducible refine (P1.out _ ((IR.out.below HH.out.below).more HH.out.below.size)).mono ?_
  rintro e w5 ⟨rfl, bq⟩
  have HQ := Lib.hid (HH.out.call bq)
  clear bq HH
  have HH := HQ
  clear HQ
  rw [HP.out]
  go_wp2_with fail
  with_reducible refine (rPick_w A c l d _ ((IR.out.below HH.out.below).more HH.out.below.size) (by have := HL.out; omega)).mono ?_
  rintro e w6 ⟨rfl, bq⟩
  have HQ := Lib.hid (HH.out.call bq)
  clear bq HH
  have HH := HQ
  clear HQ
  rw [HP.out]
  have QA := Lib.hid (show ∀ W, From w6 W → RowC W w.heap.size 0 a.cells from fun W hC => RowC.of_blk (below_blk hC.below (HH.out.at (x := (w.heap.size, 29, a.cells.toArray)) (by simp)) (HH.out.at (x := (w.heap.size, 29, a.cells.toArray)) (by simp)).lt))
  have C1 := Lib.hid (show ∀ W, From w6 W → Calls Try.prog 14 #[.agg a.cells.toArray] W fun e w' => e = .returned (.int .i64 c0) ∧ Below W.heap.size W w' from fun W hC => HC0.out.1 ▸ HCO a W (IA.out.on (HH.out.below.trans (hC.below.mono HH.out.below.size)) (Nat.le_refl _)) NA.out)
  have C2 := Lib.hid (show ∀ W, From w6 W → Calls Try.prog 15 #[.agg a.cells.toArray] W fun e w' => e = .returned (.int .i64 c0) ∧ Below W.heap.size W w' from fun W hC => HC0.out.1 ▸ rCost_w a W (IA.out.on (HH.out.below.trans (hC.below.mono HH.out.below.size)) (Nat.le_refl _)))
  have C3 := Lib.hid (show ∀ W, From w6 W → Calls Try.prog 16 #[.agg a.cells.toArray, .int .i64 f] W fun e w' => e = .returned (.int .i64 c1) ∧ Below W.heap.size W w' from fun W hC => HC0.out.2 ▸ HWE a f W (IA.out.on (HH.out.below.trans (hC.below.mono HH.out.below.size)) (Nat.le_refl _)) NA.out HF.out)
  have C4 := Lib.hid (show ∀ W, From w6 W → Calls Try.prog 17 #[.agg a.cells.toArray, .int .i64 f] W fun e w' => e = .returned (.int .i64 c1) ∧ Below W.heap.size W w' from fun W hC => HC0.out.2 ▸ rWeight_w a f W (IA.out.on (HH.out.below.trans (hC.below.mono HH.out.below.size)) (Nat.le_refl _)) NA.out)
  clear HSU HPI HCO HWE
  go_wp2_with fail
  refine wp_region_from (by kernel_rfl) (by kernel_rfl) ?_
  repeat (first
    | go_big_quiet_skip
    | ((with_reducible refine at_qload 4 ?_); refine tyTx.wpQuiet_load (by rfl) (.tmp 4) rfl (w.heap.size) 0 rfl a (QA.out) ?_; simp only [Act.put, List.setIfInBounds_toArray, List.set_cons_succ, List.set_cons_zero])
    | (go_big_quiet_want; go_big_quiet_op; refine ⟨_, fun _ _ => by with_reducible rfl, ?_⟩; go_big_quiet_on)
    | go_big_quiet_step ((intro hC; first
        | (go_at_call 14; with_reducible exact (C1.out _ hC).mono fun _ _ h => ⟨h.1, hC.call h.2⟩)
        | (go_at_call 15; with_reducible exact (C2.out _ hC).mono fun _ _ h => ⟨h.1, hC.call h.2⟩)
        | (go_at_call 16; with_reducible exact (C3.out _ hC).mono fun _ _ h => ⟨h.1, hC.call h.2⟩)
        | (go_at_call 17; with_reducible exact (C4.out _ hC).mono fun _ _ h => ⟨h.1, hC.call h.2⟩))))
  refine wpQuiet_nil ?_
  intro w9 hC
  have B9 := Lib.hid (HH.out.below.trans (hC.below.mono HH.out.below.size))
  clear hC
  go_wp2_with fail
  go_ret
  exact ⟨by first | rfl | simp, B9.out⟩
set_option maxRecDepth 20000 in
set_option maxHeartbeats 4000000 in
theorem cosTells_walk (HSU : SumOk) (HPI : PickOk) (HCO : CostTOk) (HWE : CostWOk) (a : TxA) (f : Int) (A : Option Addr) (c : Nat) (l : List (IntV .i64)) (d : IntV .u64) (w : World) (ha : a.In w w.heap.size) (hf : isI64 f) (hr : RowIn (enc1 .i64) 1 w w.heap.size A c l) :
    Calls Try.prog 3 #[.agg a.cells.toArray, .int .i64 f, .slice A l.length c, .int .u64 d.1] w fun e w' => e = .returned (.bool true) ∧ Below w.heap.size w w' := by
  cases hv : heavyF a.T with
  | true => exact cosTells_h HSU HPI HCO HWE a f A c l d w ha hf hr hv
  | false =>
    by_cases hl : l.length ≤ 1200
    · exact cosTells_m HSU HPI HCO HWE a f A c l d w ha hf hr hv hl
    · exact cosTells_l HSU HPI HCO HWE a f A c l d w ha hf hr hv (by omega)
end Go.Proofs.Ytpoejbfcioijhaa
