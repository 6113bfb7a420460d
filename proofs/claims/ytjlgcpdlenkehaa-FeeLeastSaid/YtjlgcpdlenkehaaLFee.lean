/- The walks of layer 13's laws but one; the law's heavy and shown. Written by genLF.py. -/
import Derived.Test.YtjlgcpdlenkehaaFeeA
namespace Go.Proofs.Ytjlgcpdlenkehaa
open Go.RowKit
theorem fheavy_any (a : TxA) (w : World) :
    Calls Try.prog 9 #[.agg a.cells.toArray] w fun e w' => e = .returned (.bool (heavyF a.T)) ∧ Below w.heap.size w w' := by
  have hb : RowC (w.alloc (.cells a.cells.toArray 29)) w.heap.size 0 a.cells := RowC.of_blk (Blk.new _ _ _)
  have c1 := TxA.c1 hb
  have c2 := TxA.c2 hb
  have c4 := TxA.c4 hb
  have c5 := TxA.c5 hb
  clear hb
  have hx : ∀ b : Bool, (b = true ↔ (60 < (a.T.ins.length : Int) ∨ 60 < (a.T.outs.length : Int) ∨ 60 < (a.T.nulls.length : Int) ∨ 60 < (a.T.notes.length : Int))) → Ending.returned (Value.bool b) = .returned (.bool (heavyF a.T)) := fun b hb => by
    congr 2
    rw [Bool.eq_iff_iff, hb]
    unfold heavyF
    simp only [decide_eq_true_iff]
    omega
  have HX := Lib.hid hx
  clear hx
  go_enter Try.func9, Try.ntmps9
  go_wp2
  all_goals
    go_ret
    refine ⟨HX.out _ ?_, (Below.refl _ _).alloc (Nat.le_refl _) _⟩
    simp
    omega
theorem few_of {T : TxV} (h : heavyF T = false) : Few T := by
  unfold heavyF at h
  have := of_decide_eq_false h
  exact ⟨by omega, by omega, by omega, by omega⟩
def fptZ : K32 × IntV .u32 := (zeroKey, ⟨0, by decide⟩)
def foutZ : IntV .i64 × K32 := (⟨0, by decide⟩, zeroKey)
def txF (Ai Ao : Option Addr) : TxA := ⟨{ txZero with ins := [fptZ], outs := [foutZ] }, Ai, 1, Ao, 1, none, 0, none, 0⟩
def txF0 : TxV := { txZero with ins := [fptZ], outs := [foutZ] }
theorem wgtF_shown : wgtF txF0 10000 = 65536 := by decide +kernel
theorem fzPt : ((Try.prog.info? 39).bind (·.zero)).isSome = true := by kernel_rfl
theorem fzOut : ((Try.prog.info? 43).bind (·.zero)).isSome = true := by kernel_rfl
set_option maxRecDepth 20000 in
set_option maxHeartbeats 2000000 in
theorem fshown_any (HAC : ActOk) (HCO : ConvOk) (HWG : WgtOk) (w : World) :
    Calls Try.prog 10 #[] w fun e w' => e = .returned (.bool true) ∧ Below w.heap.size w w' := by
  have HF : ∀ Ai Ao, Few (txF Ai Ao).T := fun _ _ => ⟨show 1 ≤ 100 by decide, show 1 ≤ 100 by decide, show 0 ≤ 100 by decide, show 0 ≤ 100 by decide⟩
  have HA := Lib.hid (fun Ai Ao W => HAC (txF Ai Ao) W (HF Ai Ao))
  have HC := Lib.hid (fun Ai Ao W => HCO (txF Ai Ao) W (HF Ai Ao))
  have HW := Lib.hid (fun Ai Ao W => HWG (txF Ai Ao) 10000 W (HF Ai Ao) ⟨by omega, by omega⟩)
  clear HAC HCO HWG HF
  go_enter Try.func10, Try.ntmps10
  go_wp2_with (first
    | ((with_reducible refine at_build 2 ?_); refine wpList_built rfl 39 #[] rfl (encKI .u32 fptZ).toArray (by kernel_rfl) ?_)
    | ((with_reducible refine at_buildSlice 3 ?_); refine tyPt.wpList_build rfl fzPt 1 _ rfl [fptZ] rfl (by omega) (by omega) (by kernel_rfl) ?_)
    | ((with_reducible refine at_build 4 ?_); refine wpList_built rfl 43 #[] rfl (encIK .i64 foutZ).toArray (by kernel_rfl) ?_)
    | ((with_reducible refine at_buildSlice 5 ?_); refine tyOut.wpList_build rfl fzOut 1 _ rfl [foutZ] rfl (by omega) (by omega) (by kernel_rfl) ?_; simp only [World.size_alloc])
    | ((with_reducible refine at_build 6 ?_); refine wpList_built rfl 29 #[(1, .tmp 3), (2, .tmp 5)] rfl (txF (some ⟨w.heap.size, 0, none⟩) (some ⟨w.heap.size + 1, 0, none⟩)).cells.toArray (by kernel_rfl) ?_)
    | ((with_reducible refine at_store 1 6 ?_); refine tyTx.wpList_store rfl (.tmp 1) (.tmp 6) rfl rfl _ (txF (some ⟨w.heap.size, 0, none⟩) (some ⟨w.heap.size + 1, 0, none⟩)) rfl rfl 29 _ (blk_new (g := w.heap.size + 1 + 1) 29 _ (by simp)) rfl ?_; intro w3 o3 b3
       have B3 := Lib.hid (show Below w.heap.size w w3 from ((((Below.refl w.heap.size w).alloc (Nat.le_refl _) _).alloc (by simp) _).alloc (by simp; omega) _).trans (o3.below (by simp; omega)))
       have K3 := Lib.hid b3
       clear o3 b3)
    | ((with_reducible refine at_load 1 ?_); refine tyTx.wpList_load rfl (.tmp 1) rfl (w.heap.size + 1 + 1) 0 rfl (txF (some ⟨w.heap.size, 0, none⟩) (some ⟨w.heap.size + 1, 0, none⟩)) (RowC.of_blk K3.out) ?_))
  refine (HC.out _ _ _).mono ?_
  rintro e w4 ⟨rfl, b4⟩
  rw [show convF (txF (some ⟨w.heap.size, 0, none⟩) (some ⟨w.heap.size + 1, 0, none⟩)).T = 10000 from rfl]
  have B4 := Lib.hid (B3.out.trans (b4.mono B3.out.size))
  have K4 := Lib.hid (below_blk b4 K3.out K3.out.lt)
  clear b4 B3 K3
  go_wp2_with ((with_reducible refine at_loadg 1 ?_); refine tyTx.wpList_load (by rfl) (.tmp 1) rfl (w.heap.size + 1 + 1) 0 rfl (txF (some ⟨w.heap.size, 0, none⟩) (some ⟨w.heap.size + 1, 0, none⟩)) (RowC.of_blk K4.out) ?_)
  refine (HA.out _ _ _).mono ?_
  rintro e w5 ⟨rfl, b5⟩
  rw [show ((actF (txF (some ⟨w.heap.size, 0, none⟩) (some ⟨w.heap.size + 1, 0, none⟩)).T : Nat) : Int) = 1 from rfl]
  have B5 := Lib.hid (B4.out.trans (b5.mono B4.out.size))
  have K5 := Lib.hid (below_blk b5 K4.out K4.out.lt)
  clear b5 B4 K4
  go_wp2_with ((with_reducible refine at_loadg 1 ?_); refine tyTx.wpList_load (by rfl) (.tmp 1) rfl (w.heap.size + 1 + 1) 0 rfl (txF (some ⟨w.heap.size, 0, none⟩) (some ⟨w.heap.size + 1, 0, none⟩)) (RowC.of_blk K5.out) ?_)
  refine (HW.out _ _ _).mono ?_
  rintro e w6 ⟨rfl, b6⟩
  rw [show wgtF (txF (some ⟨w.heap.size, 0, none⟩) (some ⟨w.heap.size + 1, 0, none⟩)).T 10000 = 65536 from wgtF_shown]
  have B6 := Lib.hid (B5.out.trans (b6.mono B5.out.size))
  clear b6 B5 K5
  go_wp2_with fail
  go_ret
  exact ⟨rfl, B6.out⟩
set_option maxRecDepth 20000 in
set_option maxHeartbeats 4000000 in
theorem feeTells_h (HAC : ActOk) (HCO : ConvOk) (_ : UnpOk) (HWG : WgtOk) (_ : PaysOk) (a : TxA) (f : Int) (w : World) (_ : isI64 f) (hv : heavyF a.T = true) :
    Calls Try.prog 3 #[.agg a.cells.toArray, .int .i64 f] w fun e w' => e = .returned (.bool true) ∧ Below w.heap.size w w' := by
  have SH := Lib.hid (fun W => fshown_any HAC HCO HWG W)
  have K0 := Lib.hid (Blk.new w 29 a.cells.toArray)
  have B0 := Lib.hid ((Below.refl w.heap.size w).alloc (Nat.le_refl _) (.cells a.cells.toArray 29))
  clear HAC HCO HWG
  go_enter Try.func3, Try.ntmps3
  go_wp2_with ((with_reducible refine at_load 2 ?_); refine tyTx.wpList_load rfl (.tmp 2) rfl w.heap.size 0 rfl a (RowC.of_blk K0.out) ?_)
  refine (fheavy_any a _).mono ?_
  rintro e w1 ⟨rfl, bq⟩
  rw [hv]
  have B1 := Lib.hid (B0.out.trans (bq.mono B0.out.size))
  have K1 := Lib.hid (below_blk bq K0.out K0.out.lt)
  clear bq B0 K0
  go_wp2_with fail
  refine (SH.out _).mono ?_
  rintro e w2 ⟨rfl, bq⟩
  have B2 := Lib.hid (B1.out.trans (bq.mono B1.out.size))
  have K2 := Lib.hid (below_blk bq K1.out K1.out.lt)
  clear bq B1 K1
  go_wp2_with fail
  go_ret
  exact ⟨rfl, B2.out⟩
set_option maxRecDepth 20000 in
set_option maxHeartbeats 4000000 in
theorem feeTells_m (HAC : ActOk) (HCO : ConvOk) (HUP : UnpOk) (HWG : WgtOk) (HPA : PaysOk) (a : TxA) (f : Int) (w : World) (h1 : isI64 f) (hv : heavyF a.T = false) :
    Calls Try.prog 3 #[.agg a.cells.toArray, .int .i64 f] w fun e w' => e = .returned (.bool true) ∧ Below w.heap.size w w' := by
  have SH := Lib.hid (fun W => fshown_any HAC HCO HWG W)
  have K0 := Lib.hid (Blk.new w 29 a.cells.toArray)
  have B0 := Lib.hid ((Below.refl w.heap.size w).alloc (Nat.le_refl _) (.cells a.cells.toArray 29))
  have hf := few_of hv
  have A1 := Lib.hid (fun W => HAC a W hf)
  have A2 := Lib.hid (fun W => rAct_f a W hf)
  have C1 := Lib.hid (fun W => HCO a W hf)
  have C2 := Lib.hid (fun W => rConv_f a W hf)
  have U1 := Lib.hid (fun W => HUP a f W hf h1)
  have U2 := Lib.hid (fun W => rUnp_f a f W hf)
  have W1 := Lib.hid (fun W => HWG a f W hf h1)
  have W2 := Lib.hid (fun W => rWgt_f a f W hf)
  have P1 := Lib.hid (fun W => HPA a f W hf h1)
  have P2 := Lib.hid (fun W => rPays_f a f W hf)
  clear HAC HCO HUP HWG HPA hf h1
  go_enter Try.func3, Try.ntmps3
  go_wp2_with ((with_reducible refine at_load 2 ?_); refine tyTx.wpList_load rfl (.tmp 2) rfl w.heap.size 0 rfl a (RowC.of_blk K0.out) ?_)
  refine (fheavy_any a _).mono ?_
  rintro e w1 ⟨rfl, bq⟩
  rw [hv]
  have B1 := Lib.hid (B0.out.trans (bq.mono B0.out.size))
  have K1 := Lib.hid (below_blk bq K0.out K0.out.lt)
  clear bq B0 K0
  go_wp2_with fail
  refine (SH.out _).mono ?_
  rintro e w2 ⟨rfl, bq⟩
  have B2 := Lib.hid (B1.out.trans (bq.mono B1.out.size))
  have K2 := Lib.hid (below_blk bq K1.out K1.out.lt)
  clear bq B1 K1
  go_wp2_with fail
  have RT := Lib.hid (show ∀ W, From w2 W → RowC W w.heap.size 0 a.cells from fun W hC => RowC.of_blk (below_blk hC.below K2.out K2.out.lt))
  refine wp_region_from (by kernel_rfl) (by kernel_rfl) ?_
  repeat (first
    | go_big_quiet_skip
    | ((with_reducible refine at_qload 2 ?_); refine tyTx.wpQuiet_load (by rfl) (.tmp 2) rfl w.heap.size 0 rfl a RT.out ?_; simp only [Act.put, List.setIfInBounds_toArray, List.set_cons_succ, List.set_cons_zero])
    | (go_big_quiet_want; go_big_quiet_op; refine ⟨_, fun _ _ => by with_reducible rfl, ?_⟩; go_big_quiet_on)
    | go_big_quiet_step ((intro hC; first
        | (go_at_call 11; with_reducible exact (A1.out _).mono fun _ _ h => ⟨h.1, hC.call h.2⟩)
        | (go_at_call 12; with_reducible exact (A2.out _).mono fun _ _ h => ⟨h.1, hC.call h.2⟩)
        | (go_at_call 13; with_reducible exact (C1.out _).mono fun _ _ h => ⟨h.1, hC.call h.2⟩)
        | (go_at_call 14; with_reducible exact (C2.out _).mono fun _ _ h => ⟨h.1, hC.call h.2⟩)
        | (go_at_call 15; with_reducible exact (U1.out _).mono fun _ _ h => ⟨h.1, hC.call h.2⟩)
        | (go_at_call 16; with_reducible exact (U2.out _).mono fun _ _ h => ⟨h.1, hC.call h.2⟩)
        | (go_at_call 17; with_reducible exact (W1.out _).mono fun _ _ h => ⟨h.1, hC.call h.2⟩)
        | (go_at_call 18; with_reducible exact (W2.out _).mono fun _ _ h => ⟨h.1, hC.call h.2⟩)
        | (go_at_call 19; with_reducible exact (P1.out _).mono fun _ _ h => ⟨h.1, hC.call h.2⟩)
        | (go_at_call 20; with_reducible exact (P2.out _).mono fun _ _ h => ⟨h.1, hC.call h.2⟩))))
  refine wpQuiet_nil ?_
  intro w3 hC
  have B3 := Lib.hid (B2.out.trans (hC.below.mono B2.out.size))
  have K3 := Lib.hid (below_blk hC.below K2.out K2.out.lt)
  clear hC RT B2 K2
  go_wp2_with fail
  go_ret
  exact ⟨by simp, B3.out⟩
theorem feeTells_walk (HAC : ActOk) (HCO : ConvOk) (HUP : UnpOk) (HWG : WgtOk) (HPA : PaysOk) (a : TxA) (f : Int) (w : World) (h1 : isI64 f) :
    Calls Try.prog 3 #[.agg a.cells.toArray, .int .i64 f] w fun e w' => e = .returned (.bool true) ∧ Below w.heap.size w w' := by
  cases hv : heavyF a.T with
  | true => exact feeTells_h HAC HCO HUP HWG HPA a f w h1 hv
  | false => exact feeTells_m HAC HCO HUP HWG HPA a f w h1 hv
theorem wgt_at {T : TxV} {f c k : Int} (hc : convF T = c) (hp : 10000 ≤ c ∧ c ≤ 1000000) (hm : min (heldF f) (4 * c) * 65536 = c * k) (h1 : 1 ≤ k) : wgtF T f = k := by
  unfold wgtF
  rw [hc, hm, Int.mul_ediv_cancel_left k (by omega)]
  omega
theorem unp_le {T : TxV} {f g : Int} (h : f ≤ g) : unpF T g ≤ unpF T f := by
  unfold unpF heldF
  omega
theorem wgt_le {T : TxV} {f g : Int} (hf : Few T) (h : f ≤ g) : wgtF T f ≤ wgtF T g ∧ 1 ≤ wgtF T f ∧ wgtF T g ≤ 262144 := by
  have hp := conv_pos hf
  obtain ⟨c, hc⟩ : ∃ c, convF T = c := ⟨_, rfl⟩
  unfold wgtF
  rw [hc] at hp ⊢
  have h1 : min (heldF f) (4 * c) * 65536 / c ≤ min (heldF g) (4 * c) * 65536 / c := Int.ediv_le_ediv (by omega) (by unfold heldF; omega)
  have h2 : min (heldF g) (4 * c) * 65536 / c ≤ c * 262144 / c := Int.ediv_le_ediv (by omega) (by omega)
  rw [Int.mul_ediv_cancel_left _ (by omega)] at h2
  omega
theorem pays_unp {T : TxV} (f : Int) : paysF T f = (unpF T f == 0) := by
  unfold paysF unpF convF
  obtain ⟨k, hk⟩ : ∃ k, heldF f = k := ⟨_, rfl⟩
  rw [hk]
  by_cases h : 5000 * (dueF T : Int) ≤ k
  · rw [decide_eq_true h]; symm; exact beq_iff_eq.2 (by omega)
  · rw [decide_eq_false h]; symm; exact beq_eq_false_iff_ne.2 (by omega)
set_option maxRecDepth 20000 in
set_option maxHeartbeats 4000000 in
theorem feeShares_h (HAC : ActOk) (HCO : ConvOk) (_ : UnpOk) (HWG : WgtOk) (_ : PaysOk) (a : TxA) (v : Int) (w : World) (_ : 0 ≤ v ∧ v ≤ 4294967295) (hv : heavyF a.T = true) :
    Calls Try.prog 7 #[.agg a.cells.toArray, .int .u32 v] w fun e w' => e = .returned (.bool true) ∧ Below w.heap.size w w' := by
  have SH := Lib.hid (fun W => fshown_any HAC HCO HWG W)
  have K0 := Lib.hid (Blk.new w 29 a.cells.toArray)
  have B0 := Lib.hid ((Below.refl w.heap.size w).alloc (Nat.le_refl _) (.cells a.cells.toArray 29))
  clear HAC HCO HWG
  go_enter Try.func7, Try.ntmps7
  go_wp2_with ((with_reducible refine at_load 2 ?_); refine tyTx.wpList_load rfl (.tmp 2) rfl w.heap.size 0 rfl a (RowC.of_blk K0.out) ?_)
  refine (fheavy_any a _).mono ?_
  rintro e w1 ⟨rfl, bq⟩
  rw [hv]
  have B1 := Lib.hid (B0.out.trans (bq.mono B0.out.size))
  have K1 := Lib.hid (below_blk bq K0.out K0.out.lt)
  clear bq B0 K0
  go_wp2_with fail
  refine (SH.out _).mono ?_
  rintro e w2 ⟨rfl, bq⟩
  have B2 := Lib.hid (B1.out.trans (bq.mono B1.out.size))
  have K2 := Lib.hid (below_blk bq K1.out K1.out.lt)
  clear bq B1 K1
  go_wp2_with fail
  go_ret
  exact ⟨rfl, B2.out⟩
set_option maxRecDepth 20000 in
set_option maxHeartbeats 4000000 in
theorem feeShares_m (HAC : ActOk) (HCO : ConvOk) (_ : UnpOk) (HWG : WgtOk) (_ : PaysOk) (a : TxA) (v : Int) (w : World) (h1 : 0 ≤ v ∧ v ≤ 4294967295) (hv : heavyF a.T = false) :
    Calls Try.prog 7 #[.agg a.cells.toArray, .int .u32 v] w fun e w' => e = .returned (.bool true) ∧ Below w.heap.size w w' := by
  have SH := Lib.hid (fun W => fshown_any HAC HCO HWG W)
  have K0 := Lib.hid (Blk.new w 29 a.cells.toArray)
  have B0 := Lib.hid ((Below.refl w.heap.size w).alloc (Nat.le_refl _) (.cells a.cells.toArray 29))
  have hf := few_of hv
  obtain ⟨c, hc⟩ : ∃ c, convF a.T = c := ⟨_, rfl⟩
  have hp := conv_pos hf
  have hd : c = 5000 * (dueF a.T : Int) := hc.symm
  rw [hc] at hp
  have C1 := Lib.hid (fun W => HCO a W hf)
  rw [hc] at C1
  have W1 := Lib.hid (fun W => HWG a c W hf (by unfold isI64; omega))
  rw [wgt_at hc hp (show min (heldF c) (4 * c) * 65536 = c * 65536 by unfold heldF; omega) (by omega)] at W1
  obtain ⟨q, hq⟩ : ∃ q, c / 2 = q := ⟨_, rfl⟩
  have W2 := Lib.hid (fun W => HWG a q W hf (by unfold isI64; omega))
  rw [wgt_at hc hp (show min (heldF q) (4 * c) * 65536 = c * 32768 by unfold heldF; omega) (by omega)] at W2
  have W3 := Lib.hid (fun W => HWG a (2 * c) W hf (by unfold isI64; omega))
  rw [wgt_at hc hp (show min (heldF (2 * c)) (4 * c) * 65536 = c * 131072 by unfold heldF; omega) (by omega)] at W3
  have W4 := Lib.hid (fun W => HWG a (4 * c + v) W hf (by unfold isI64; omega))
  rw [wgt_at hc hp (show min (heldF (4 * c + v)) (4 * c) * 65536 = c * 262144 by unfold heldF; omega) (by omega)] at W4
  have W5 := Lib.hid (fun W => HWG a 0 W hf (by unfold isI64; omega))
  rw [show wgtF a.T 0 = 1 by unfold wgtF; rw [hc, show min (heldF 0) (4 * c) * 65536 = 0 by unfold heldF; omega, Int.zero_ediv]; rfl] at W5
  have e1 : c.tdiv 2 = q := by rw [Int.tdiv_eq_ediv_of_nonneg (by omega), hq]
  have e2 : IntKind.i64.wrap q = q := by rw [IntKind.wrap_i64]; omega
  have e3 : IntKind.i64.wrap (2 * c) = 2 * c := by rw [IntKind.wrap_i64]; omega
  have e4 : IntKind.i64.wrap (4 * c) = 4 * c := by rw [IntKind.wrap_i64]; omega
  have e5 : IntKind.i64.wrap (4 * c + v) = 4 * c + v := by rw [IntKind.wrap_i64]; omega
  have e6 : IntKind.i64.wrap v = v := by rw [IntKind.wrap_i64]; omega
  clear HAC HCO HWG hf h1 hd hq hc hp
  go_enter Try.func7, Try.ntmps7
  go_wp2_with ((with_reducible refine at_load 2 ?_); refine tyTx.wpList_load rfl (.tmp 2) rfl w.heap.size 0 rfl a (RowC.of_blk K0.out) ?_)
  refine (fheavy_any a _).mono ?_
  rintro e w1 ⟨rfl, bq⟩
  rw [hv]
  have B1 := Lib.hid (B0.out.trans (bq.mono B0.out.size))
  have K1 := Lib.hid (below_blk bq K0.out K0.out.lt)
  clear bq B0 K0
  go_wp2_with fail
  refine (SH.out _).mono ?_
  rintro e w2 ⟨rfl, bq⟩
  have B2 := Lib.hid (B1.out.trans (bq.mono B1.out.size))
  have K2 := Lib.hid (below_blk bq K1.out K1.out.lt)
  clear bq B1 K1
  go_wp2_with ((with_reducible refine at_load 2 ?_); refine tyTx.wpList_load rfl (.tmp 2) rfl w.heap.size 0 rfl a (RowC.of_blk K2.out) ?_)
  refine (C1.out _).mono ?_
  rintro e w3 ⟨rfl, bq⟩
  have B3 := Lib.hid (B2.out.trans (bq.mono B2.out.size))
  have K3 := Lib.hid (below_blk bq K2.out K2.out.lt)
  clear bq B2 K2
  go_wp2_with ((with_reducible refine at_load 2 ?_); refine tyTx.wpList_load rfl (.tmp 2) rfl w.heap.size 0 rfl a (RowC.of_blk K3.out) ?_)
  refine (W1.out _).mono ?_
  rintro e w4 ⟨rfl, bq⟩
  have B4 := Lib.hid (B3.out.trans (bq.mono B3.out.size))
  have K4 := Lib.hid (below_blk bq K3.out K3.out.lt)
  clear bq B3 K3
  go_wp2_with ((with_reducible refine at_loadg 2 ?_); refine tyTx.wpList_load (by rfl) (.tmp 2) rfl w.heap.size 0 rfl a (RowC.of_blk K4.out) ?_)
  refine (W2.out _).mono ?_
  rintro e w5 ⟨rfl, bq⟩
  have B5 := Lib.hid (B4.out.trans (bq.mono B4.out.size))
  have K5 := Lib.hid (below_blk bq K4.out K4.out.lt)
  clear bq B4 K4
  go_wp2_with ((with_reducible refine at_loadg 2 ?_); refine tyTx.wpList_load (by rfl) (.tmp 2) rfl w.heap.size 0 rfl a (RowC.of_blk K5.out) ?_)
  refine (W3.out _).mono ?_
  rintro e w6 ⟨rfl, bq⟩
  have B6 := Lib.hid (B5.out.trans (bq.mono B5.out.size))
  have K6 := Lib.hid (below_blk bq K5.out K5.out.lt)
  clear bq B5 K5
  go_wp2_with ((with_reducible refine at_loadg 2 ?_); refine tyTx.wpList_load (by rfl) (.tmp 2) rfl w.heap.size 0 rfl a (RowC.of_blk K6.out) ?_)
  refine (W4.out _).mono ?_
  rintro e w7 ⟨rfl, bq⟩
  have B7 := Lib.hid (B6.out.trans (bq.mono B6.out.size))
  have K7 := Lib.hid (below_blk bq K6.out K6.out.lt)
  clear bq B6 K6
  go_wp2_with ((with_reducible refine at_loadg 2 ?_); refine tyTx.wpList_load (by rfl) (.tmp 2) rfl w.heap.size 0 rfl a (RowC.of_blk K7.out) ?_)
  refine (W5.out _).mono ?_
  rintro e w8 ⟨rfl, bq⟩
  have B8 := Lib.hid (B7.out.trans (bq.mono B7.out.size))
  have K8 := Lib.hid (below_blk bq K7.out K7.out.lt)
  clear bq B7 K7
  go_wp2_with fail
  go_ret
  exact ⟨rfl, B8.out⟩
theorem feeShares_walk (HAC : ActOk) (HCO : ConvOk) (HUP : UnpOk) (HWG : WgtOk) (HPA : PaysOk) (a : TxA) (v : Int) (w : World) (h1 : 0 ≤ v ∧ v ≤ 4294967295) :
    Calls Try.prog 7 #[.agg a.cells.toArray, .int .u32 v] w fun e w' => e = .returned (.bool true) ∧ Below w.heap.size w w' := by
  cases hv : heavyF a.T with
  | true => exact feeShares_h HAC HCO HUP HWG HPA a v w h1 hv
  | false => exact feeShares_m HAC HCO HUP HWG HPA a v w h1 hv
set_option maxRecDepth 20000 in
set_option maxHeartbeats 4000000 in
theorem feeUnpaid_h (HAC : ActOk) (HCO : ConvOk) (_ : UnpOk) (HWG : WgtOk) (_ : PaysOk) (a : TxA) (v : Int) (w : World) (_ : 0 ≤ v ∧ v ≤ 4294967295) (hv : heavyF a.T = true) :
    Calls Try.prog 6 #[.agg a.cells.toArray, .int .u32 v] w fun e w' => e = .returned (.bool true) ∧ Below w.heap.size w w' := by
  have SH := Lib.hid (fun W => fshown_any HAC HCO HWG W)
  have K0 := Lib.hid (Blk.new w 29 a.cells.toArray)
  have B0 := Lib.hid ((Below.refl w.heap.size w).alloc (Nat.le_refl _) (.cells a.cells.toArray 29))
  clear HAC HCO HWG
  go_enter Try.func6, Try.ntmps6
  go_wp2_with ((with_reducible refine at_load 2 ?_); refine tyTx.wpList_load rfl (.tmp 2) rfl w.heap.size 0 rfl a (RowC.of_blk K0.out) ?_)
  refine (fheavy_any a _).mono ?_
  rintro e w1 ⟨rfl, bq⟩
  rw [hv]
  have B1 := Lib.hid (B0.out.trans (bq.mono B0.out.size))
  have K1 := Lib.hid (below_blk bq K0.out K0.out.lt)
  clear bq B0 K0
  go_wp2_with fail
  refine (SH.out _).mono ?_
  rintro e w2 ⟨rfl, bq⟩
  have B2 := Lib.hid (B1.out.trans (bq.mono B1.out.size))
  have K2 := Lib.hid (below_blk bq K1.out K1.out.lt)
  clear bq B1 K1
  go_wp2_with fail
  go_ret
  exact ⟨rfl, B2.out⟩
set_option maxRecDepth 20000 in
set_option maxHeartbeats 4000000 in
theorem feeUnpaid_m (HAC : ActOk) (HCO : ConvOk) (HUP : UnpOk) (HWG : WgtOk) (_ : PaysOk) (a : TxA) (v : Int) (w : World) (h1 : 0 ≤ v ∧ v ≤ 4294967295) (hv : heavyF a.T = false) :
    Calls Try.prog 6 #[.agg a.cells.toArray, .int .u32 v] w fun e w' => e = .returned (.bool true) ∧ Below w.heap.size w w' := by
  have SH := Lib.hid (fun W => fshown_any HAC HCO HWG W)
  have K0 := Lib.hid (Blk.new w 29 a.cells.toArray)
  have B0 := Lib.hid ((Below.refl w.heap.size w).alloc (Nat.le_refl _) (.cells a.cells.toArray 29))
  have hf := few_of hv
  obtain ⟨d, hd⟩ : ∃ d : Int, (dueF a.T : Int) = d := ⟨_, rfl⟩
  have hp := hf.due
  obtain ⟨n, hn⟩ : ∃ n : Int, ((actF a.T : Nat) : Int) = n := ⟨_, rfl⟩
  have b1 := bmax (P := Try.prog) (show max n 2 = d by unfold dueF at hd; omega)
  obtain ⟨q, hq⟩ : ∃ q, v / 5000 = q := ⟨_, rfl⟩
  obtain ⟨r, hr⟩ : ∃ r, max (d - q) 0 = r := ⟨_, rfl⟩
  have b2 := bmax (P := Try.prog) hr
  have A1 := Lib.hid (fun W => HAC a W hf)
  rw [hn] at A1
  have C1 := Lib.hid (fun W => HCO a W hf)
  rw [show convF a.T = d * 5000 by unfold convF; omega] at C1
  have U1 := Lib.hid (fun W => HUP a v W hf (by unfold isI64; omega))
  rw [show unpF a.T v = r by unfold unpF heldF; omega] at U1
  have U2 := Lib.hid (fun W => HUP a (-1) W hf (by unfold isI64; omega))
  rw [show unpF a.T (-1) = d by unfold unpF heldF; omega] at U2
  have U3 := Lib.hid (fun W => HUP a 2100000000000001 W hf (by unfold isI64; omega))
  rw [show unpF a.T 2100000000000001 = 0 by unfold unpF heldF; omega] at U3
  have e1 : v.tdiv 5000 = q := by rw [Int.tdiv_eq_ediv_of_nonneg (by omega), hq]
  have e2 : IntKind.i64.wrap q = q := by rw [IntKind.wrap_i64]; omega
  have e2' : IntKind.u32.wrap q = q := by rw [IntKind.wrap_u32]; omega
  have e3 : IntKind.i64.wrap (d - q) = d - q := by rw [IntKind.wrap_i64]; omega
  have e4 : IntKind.i64.wrap (d * 5000) = d * 5000 := by rw [IntKind.wrap_i64]; omega
  have e6 : IntKind.i64.wrap v = v := by rw [IntKind.wrap_i64]; omega
  clear HAC HCO HUP HWG hf h1 hd hq hp hr hn
  go_enter Try.func6, Try.ntmps6
  go_wp2_with ((with_reducible refine at_load 2 ?_); refine tyTx.wpList_load rfl (.tmp 2) rfl w.heap.size 0 rfl a (RowC.of_blk K0.out) ?_)
  refine (fheavy_any a _).mono ?_
  rintro e w1 ⟨rfl, bq⟩
  rw [hv]
  have B1 := Lib.hid (B0.out.trans (bq.mono B0.out.size))
  have K1 := Lib.hid (below_blk bq K0.out K0.out.lt)
  clear bq B0 K0
  go_wp2_with fail
  refine (SH.out _).mono ?_
  rintro e w2 ⟨rfl, bq⟩
  have B2 := Lib.hid (B1.out.trans (bq.mono B1.out.size))
  have K2 := Lib.hid (below_blk bq K1.out K1.out.lt)
  clear bq B1 K1
  go_wp2_with ((with_reducible refine at_load 2 ?_); refine tyTx.wpList_load rfl (.tmp 2) rfl w.heap.size 0 rfl a (RowC.of_blk K2.out) ?_)
  refine (A1.out _).mono ?_
  rintro e w3 ⟨rfl, bq⟩
  have B3 := Lib.hid (B2.out.trans (bq.mono B2.out.size))
  have K3 := Lib.hid (below_blk bq K2.out K2.out.lt)
  clear bq B2 K2
  go_wp2_with ((with_reducible refine at_load 2 ?_); refine tyTx.wpList_load rfl (.tmp 2) rfl w.heap.size 0 rfl a (RowC.of_blk K3.out) ?_)
  refine (U1.out _).mono ?_
  rintro e w4 ⟨rfl, bq⟩
  have B4 := Lib.hid (B3.out.trans (bq.mono B3.out.size))
  have K4 := Lib.hid (below_blk bq K3.out K3.out.lt)
  clear bq B3 K3
  go_wp2_with ((with_reducible refine at_loadg 2 ?_); refine tyTx.wpList_load (by rfl) (.tmp 2) rfl w.heap.size 0 rfl a (RowC.of_blk K4.out) ?_)
  refine (U2.out _).mono ?_
  rintro e w5 ⟨rfl, bq⟩
  have B5 := Lib.hid (B4.out.trans (bq.mono B4.out.size))
  have K5 := Lib.hid (below_blk bq K4.out K4.out.lt)
  clear bq B4 K4
  go_wp2_with ((with_reducible refine at_loadg 2 ?_); refine tyTx.wpList_load (by rfl) (.tmp 2) rfl w.heap.size 0 rfl a (RowC.of_blk K5.out) ?_)
  refine (U3.out _).mono ?_
  rintro e w6 ⟨rfl, bq⟩
  have B6 := Lib.hid (B5.out.trans (bq.mono B5.out.size))
  have K6 := Lib.hid (below_blk bq K5.out K5.out.lt)
  clear bq B5 K5
  go_wp2_with ((with_reducible refine at_loadg 2 ?_); refine tyTx.wpList_load (by rfl) (.tmp 2) rfl w.heap.size 0 rfl a (RowC.of_blk K6.out) ?_)
  refine (C1.out _).mono ?_
  rintro e w7 ⟨rfl, bq⟩
  have B7 := Lib.hid (B6.out.trans (bq.mono B6.out.size))
  have K7 := Lib.hid (below_blk bq K6.out K6.out.lt)
  clear bq B6 K6
  go_wp2_with fail
  go_ret
  exact ⟨rfl, B7.out⟩
theorem feeUnpaid_walk (HAC : ActOk) (HCO : ConvOk) (HUP : UnpOk) (HWG : WgtOk) (HPA : PaysOk) (a : TxA) (v : Int) (w : World) (h1 : 0 ≤ v ∧ v ≤ 4294967295) :
    Calls Try.prog 6 #[.agg a.cells.toArray, .int .u32 v] w fun e w' => e = .returned (.bool true) ∧ Below w.heap.size w w' := by
  cases hv : heavyF a.T with
  | true => exact feeUnpaid_h HAC HCO HUP HWG HPA a v w h1 hv
  | false => exact feeUnpaid_m HAC HCO HUP HWG HPA a v w h1 hv
set_option maxRecDepth 20000 in
set_option maxHeartbeats 4000000 in
theorem feeRises_h (HAC : ActOk) (HCO : ConvOk) (_ : UnpOk) (HWG : WgtOk) (_ : PaysOk) (a : TxA) (p : Int) (q : Int) (w : World) (_ : isI64 p) (_ : isI64 q) (hv : heavyF a.T = true) :
    Calls Try.prog 4 #[.agg a.cells.toArray, .int .i64 p, .int .i64 q] w fun e w' => e = .returned (.bool true) ∧ Below w.heap.size w w' := by
  have SH := Lib.hid (fun W => fshown_any HAC HCO HWG W)
  have K0 := Lib.hid (Blk.new w 29 a.cells.toArray)
  have B0 := Lib.hid ((Below.refl w.heap.size w).alloc (Nat.le_refl _) (.cells a.cells.toArray 29))
  clear HAC HCO HWG
  go_enter Try.func4, Try.ntmps4
  go_wp2_with ((with_reducible refine at_load 3 ?_); refine tyTx.wpList_load rfl (.tmp 3) rfl w.heap.size 0 rfl a (RowC.of_blk K0.out) ?_)
  refine (fheavy_any a _).mono ?_
  rintro e w1 ⟨rfl, bq⟩
  rw [hv]
  have B1 := Lib.hid (B0.out.trans (bq.mono B0.out.size))
  have K1 := Lib.hid (below_blk bq K0.out K0.out.lt)
  clear bq B0 K0
  go_wp2_with fail
  refine (SH.out _).mono ?_
  rintro e w2 ⟨rfl, bq⟩
  have B2 := Lib.hid (B1.out.trans (bq.mono B1.out.size))
  have K2 := Lib.hid (below_blk bq K1.out K1.out.lt)
  clear bq B1 K1
  go_wp2_with fail
  go_ret
  exact ⟨rfl, B2.out⟩
set_option maxRecDepth 20000 in
set_option maxHeartbeats 4000000 in
theorem feeRises_t (HAC : ActOk) (HCO : ConvOk) (HUP : UnpOk) (HWG : WgtOk) (HPA : PaysOk) (a : TxA) (p : Int) (q : Int) (w : World) (h1 : isI64 p) (h2 : isI64 q) (hv : heavyF a.T = false) (hb : paysF a.T (min p q) = true) :
    Calls Try.prog 4 #[.agg a.cells.toArray, .int .i64 p, .int .i64 q] w fun e w' => e = .returned (.bool true) ∧ Below w.heap.size w w' := by
  have SH := Lib.hid (fun W => fshown_any HAC HCO HWG W)
  have K0 := Lib.hid (Blk.new w 29 a.cells.toArray)
  have B0 := Lib.hid ((Below.refl w.heap.size w).alloc (Nat.le_refl _) (.cells a.cells.toArray 29))
  have hf := few_of hv
  obtain ⟨lo, hlo⟩ : ∃ lo, min p q = lo := ⟨_, rfl⟩
  obtain ⟨hi, hhi⟩ : ∃ hi, max p q = hi := ⟨_, rfl⟩
  have b1 := bmin (P := Try.prog) hlo
  have b2 := bmax (P := Try.prog) hhi
  have hle : lo ≤ hi := by omega
  have il : isI64 lo := by unfold isI64 at *; omega
  have ih : isI64 hi := by unfold isI64 at *; omega
  rw [hlo] at hb
  obtain ⟨l, hl⟩ : ∃ l, wgtF a.T lo = l := ⟨_, rfl⟩
  obtain ⟨m, hm⟩ : ∃ m, wgtF a.T hi = m := ⟨_, rfl⟩
  obtain ⟨ul, hul⟩ : ∃ u, unpF a.T lo = u := ⟨_, rfl⟩
  obtain ⟨uh, huh⟩ : ∃ u, unpF a.T hi = u := ⟨_, rfl⟩
  obtain ⟨up, hup⟩ : ∃ u, unpF a.T p = u := ⟨_, rfl⟩
  have hw := wgt_le hf hle
  have hu := unp_le (T := a.T) hle
  rw [hl, hm] at hw
  rw [hul, huh] at hu
  have L1 := Lib.hid (fun W => HWG a lo W hf il)
  rw [hl] at L1
  have L2 := Lib.hid (fun W => HWG a hi W hf ih)
  rw [hm] at L2
  have U1 := Lib.hid (fun W => HUP a lo W hf il)
  rw [hul] at U1
  have U2 := Lib.hid (fun W => HUP a hi W hf ih)
  rw [huh] at U2
  have U3 := Lib.hid (fun W => HUP a p W hf h1)
  rw [hup] at U3
  have P1 := Lib.hid (fun W => HPA a p W hf h1)
  rw [pays_unp, hup] at P1
  have P2 := Lib.hid (fun W => HPA a lo W hf il)
  rw [hb] at P2
  have P3 := Lib.hid (fun W => HPA a hi W hf ih)
  have hz : uh = 0 := by
    rw [pays_unp, hul] at hb
    have hb2 := beq_iff_eq.1 hb
    have hb3 : 0 ≤ uh := by rw [← huh]; unfold unpF; omega
    omega
  rw [pays_unp, huh, show (uh == 0) = true from beq_iff_eq.2 hz] at P3
  clear hz
  have d1 : decide (uh ≤ ul) = true := decide_eq_true hu
  have d2 : decide (l ≤ m) = true := decide_eq_true hw.1
  have d3 : decide (1 ≤ l) = true := decide_eq_true hw.2.1
  have d4 : decide (l ≤ 262144) = true := decide_eq_true (by omega)
  clear HAC HCO HUP HWG HPA hf h1 h2 il ih hle hlo hhi hb hl hm hul huh hup hw hu
  go_enter Try.func4, Try.ntmps4
  go_wp2_with ((with_reducible refine at_load 3 ?_); refine tyTx.wpList_load rfl (.tmp 3) rfl w.heap.size 0 rfl a (RowC.of_blk K0.out) ?_)
  refine (fheavy_any a _).mono ?_
  rintro e w1 ⟨rfl, bq⟩
  rw [hv]
  have B1 := Lib.hid (B0.out.trans (bq.mono B0.out.size))
  have K1 := Lib.hid (below_blk bq K0.out K0.out.lt)
  clear bq B0 K0
  go_wp2_with fail
  refine (SH.out _).mono ?_
  rintro e w2 ⟨rfl, bq⟩
  have B2 := Lib.hid (B1.out.trans (bq.mono B1.out.size))
  have K2 := Lib.hid (below_blk bq K1.out K1.out.lt)
  clear bq B1 K1
  go_wp2_with ((with_reducible refine at_load 3 ?_); refine tyTx.wpList_load rfl (.tmp 3) rfl w.heap.size 0 rfl a (RowC.of_blk K2.out) ?_)
  refine (L1.out _).mono ?_
  rintro e w3 ⟨rfl, bq⟩
  have B3 := Lib.hid (B2.out.trans (bq.mono B2.out.size))
  have K3 := Lib.hid (below_blk bq K2.out K2.out.lt)
  clear bq B2 K2
  go_wp2_with fail
  have RT := Lib.hid (show ∀ W, From w3 W → RowC W w.heap.size 0 a.cells from fun W hC => RowC.of_blk (below_blk hC.below K3.out K3.out.lt))
  refine wp_region_from (by kernel_rfl) (by kernel_rfl) ?_
  repeat (first
    | go_big_quiet_skip
    | ((with_reducible refine at_qload 3 ?_); refine tyTx.wpQuiet_load (by rfl) (.tmp 3) rfl w.heap.size 0 rfl a RT.out ?_; simp only [Act.put, List.setIfInBounds_toArray, List.set_cons_succ, List.set_cons_zero])
    | (go_big_quiet_want; go_big_quiet_op; refine ⟨_, fun _ _ => by with_reducible rfl, ?_⟩; go_big_quiet_on)
    | go_big_quiet_step ((intro hC; first
        | (go_at_call 15; with_reducible exact (U1.out _).mono fun _ _ h => ⟨h.1, hC.call h.2⟩)
        | (go_at_call 15; with_reducible exact (U2.out _).mono fun _ _ h => ⟨h.1, hC.call h.2⟩)
        | (go_at_call 15; with_reducible exact (U3.out _).mono fun _ _ h => ⟨h.1, hC.call h.2⟩)
        | (go_at_call 17; with_reducible exact (L2.out _).mono fun _ _ h => ⟨h.1, hC.call h.2⟩)
        | (go_at_call 19; with_reducible exact (P1.out _).mono fun _ _ h => ⟨h.1, hC.call h.2⟩)
        | (go_at_call 19; with_reducible exact (P2.out _).mono fun _ _ h => ⟨h.1, hC.call h.2⟩)
        | (go_at_call 19; with_reducible exact (P3.out _).mono fun _ _ h => ⟨h.1, hC.call h.2⟩))))
  refine wpQuiet_nil ?_
  intro w4 hC
  have B4 := Lib.hid (B3.out.trans (hC.below.mono B3.out.size))
  have K4 := Lib.hid (below_blk hC.below K3.out K3.out.lt)
  clear hC RT B3 K3
  go_wp2_with fail
  go_ret
  exact ⟨by simp, B4.out⟩
set_option maxRecDepth 20000 in
set_option maxHeartbeats 4000000 in
theorem feeRises_f (HAC : ActOk) (HCO : ConvOk) (HUP : UnpOk) (HWG : WgtOk) (HPA : PaysOk) (a : TxA) (p : Int) (q : Int) (w : World) (h1 : isI64 p) (h2 : isI64 q) (hv : heavyF a.T = false) (hb : paysF a.T (min p q) = false) :
    Calls Try.prog 4 #[.agg a.cells.toArray, .int .i64 p, .int .i64 q] w fun e w' => e = .returned (.bool true) ∧ Below w.heap.size w w' := by
  have SH := Lib.hid (fun W => fshown_any HAC HCO HWG W)
  have K0 := Lib.hid (Blk.new w 29 a.cells.toArray)
  have B0 := Lib.hid ((Below.refl w.heap.size w).alloc (Nat.le_refl _) (.cells a.cells.toArray 29))
  have hf := few_of hv
  obtain ⟨lo, hlo⟩ : ∃ lo, min p q = lo := ⟨_, rfl⟩
  obtain ⟨hi, hhi⟩ : ∃ hi, max p q = hi := ⟨_, rfl⟩
  have b1 := bmin (P := Try.prog) hlo
  have b2 := bmax (P := Try.prog) hhi
  have hle : lo ≤ hi := by omega
  have il : isI64 lo := by unfold isI64 at *; omega
  have ih : isI64 hi := by unfold isI64 at *; omega
  rw [hlo] at hb
  obtain ⟨l, hl⟩ : ∃ l, wgtF a.T lo = l := ⟨_, rfl⟩
  obtain ⟨m, hm⟩ : ∃ m, wgtF a.T hi = m := ⟨_, rfl⟩
  obtain ⟨ul, hul⟩ : ∃ u, unpF a.T lo = u := ⟨_, rfl⟩
  obtain ⟨uh, huh⟩ : ∃ u, unpF a.T hi = u := ⟨_, rfl⟩
  obtain ⟨up, hup⟩ : ∃ u, unpF a.T p = u := ⟨_, rfl⟩
  have hw := wgt_le hf hle
  have hu := unp_le (T := a.T) hle
  rw [hl, hm] at hw
  rw [hul, huh] at hu
  have L1 := Lib.hid (fun W => HWG a lo W hf il)
  rw [hl] at L1
  have L2 := Lib.hid (fun W => HWG a hi W hf ih)
  rw [hm] at L2
  have U1 := Lib.hid (fun W => HUP a lo W hf il)
  rw [hul] at U1
  have U2 := Lib.hid (fun W => HUP a hi W hf ih)
  rw [huh] at U2
  have U3 := Lib.hid (fun W => HUP a p W hf h1)
  rw [hup] at U3
  have P1 := Lib.hid (fun W => HPA a p W hf h1)
  rw [pays_unp, hup] at P1
  have P2 := Lib.hid (fun W => HPA a lo W hf il)
  rw [hb] at P2
  have P3 := Lib.hid (fun W => HPA a hi W hf ih)
  have d1 : decide (uh ≤ ul) = true := decide_eq_true hu
  have d2 : decide (l ≤ m) = true := decide_eq_true hw.1
  have d3 : decide (1 ≤ l) = true := decide_eq_true hw.2.1
  have d4 : decide (l ≤ 262144) = true := decide_eq_true (by omega)
  clear HAC HCO HUP HWG HPA hf h1 h2 il ih hle hlo hhi hb hl hm hul huh hup hw hu
  go_enter Try.func4, Try.ntmps4
  go_wp2_with ((with_reducible refine at_load 3 ?_); refine tyTx.wpList_load rfl (.tmp 3) rfl w.heap.size 0 rfl a (RowC.of_blk K0.out) ?_)
  refine (fheavy_any a _).mono ?_
  rintro e w1 ⟨rfl, bq⟩
  rw [hv]
  have B1 := Lib.hid (B0.out.trans (bq.mono B0.out.size))
  have K1 := Lib.hid (below_blk bq K0.out K0.out.lt)
  clear bq B0 K0
  go_wp2_with fail
  refine (SH.out _).mono ?_
  rintro e w2 ⟨rfl, bq⟩
  have B2 := Lib.hid (B1.out.trans (bq.mono B1.out.size))
  have K2 := Lib.hid (below_blk bq K1.out K1.out.lt)
  clear bq B1 K1
  go_wp2_with ((with_reducible refine at_load 3 ?_); refine tyTx.wpList_load rfl (.tmp 3) rfl w.heap.size 0 rfl a (RowC.of_blk K2.out) ?_)
  refine (L1.out _).mono ?_
  rintro e w3 ⟨rfl, bq⟩
  have B3 := Lib.hid (B2.out.trans (bq.mono B2.out.size))
  have K3 := Lib.hid (below_blk bq K2.out K2.out.lt)
  clear bq B2 K2
  go_wp2_with fail
  have RT := Lib.hid (show ∀ W, From w3 W → RowC W w.heap.size 0 a.cells from fun W hC => RowC.of_blk (below_blk hC.below K3.out K3.out.lt))
  refine wp_region_from (by kernel_rfl) (by kernel_rfl) ?_
  repeat (first
    | go_big_quiet_skip
    | ((with_reducible refine at_qload 3 ?_); refine tyTx.wpQuiet_load (by rfl) (.tmp 3) rfl w.heap.size 0 rfl a RT.out ?_; simp only [Act.put, List.setIfInBounds_toArray, List.set_cons_succ, List.set_cons_zero])
    | (go_big_quiet_want; go_big_quiet_op; refine ⟨_, fun _ _ => by with_reducible rfl, ?_⟩; go_big_quiet_on)
    | go_big_quiet_step ((intro hC; first
        | (go_at_call 15; with_reducible exact (U1.out _).mono fun _ _ h => ⟨h.1, hC.call h.2⟩)
        | (go_at_call 15; with_reducible exact (U2.out _).mono fun _ _ h => ⟨h.1, hC.call h.2⟩)
        | (go_at_call 15; with_reducible exact (U3.out _).mono fun _ _ h => ⟨h.1, hC.call h.2⟩)
        | (go_at_call 17; with_reducible exact (L2.out _).mono fun _ _ h => ⟨h.1, hC.call h.2⟩)
        | (go_at_call 19; with_reducible exact (P1.out _).mono fun _ _ h => ⟨h.1, hC.call h.2⟩)
        | (go_at_call 19; with_reducible exact (P2.out _).mono fun _ _ h => ⟨h.1, hC.call h.2⟩))))
  refine wpQuiet_nil ?_
  intro w4 hC
  have B4 := Lib.hid (B3.out.trans (hC.below.mono B3.out.size))
  have K4 := Lib.hid (below_blk hC.below K3.out K3.out.lt)
  clear hC RT B3 K3
  go_wp2_with fail
  go_ret
  exact ⟨by simp, B4.out⟩
theorem feeRises_walk (HAC : ActOk) (HCO : ConvOk) (HUP : UnpOk) (HWG : WgtOk) (HPA : PaysOk) (a : TxA) (p : Int) (q : Int) (w : World) (h1 : isI64 p) (h2 : isI64 q) :
    Calls Try.prog 4 #[.agg a.cells.toArray, .int .i64 p, .int .i64 q] w fun e w' => e = .returned (.bool true) ∧ Below w.heap.size w w' := by
  cases hv : heavyF a.T with
  | true => exact feeRises_h HAC HCO HUP HWG HPA a p q w h1 h2 hv
  | false =>
    cases hb : paysF a.T (min p q) with
    | true => exact feeRises_t HAC HCO HUP HWG HPA a p q w h1 h2 hv hb
    | false => exact feeRises_f HAC HCO HUP HWG HPA a p q w h1 h2 hv hb
set_option maxRecDepth 20000 in
set_option maxHeartbeats 4000000 in
theorem feeLeast_h (HAC : ActOk) (HCO : ConvOk) (_ : UnpOk) (HWG : WgtOk) (_ : PaysOk) (a : TxA)  (w : World) (hv : heavyF a.T = true) :
    Calls Try.prog 8 #[.agg a.cells.toArray] w fun e w' => e = .returned (.bool true) ∧ Below w.heap.size w w' := by
  have SH := Lib.hid (fun W => fshown_any HAC HCO HWG W)
  have K0 := Lib.hid (Blk.new w 29 a.cells.toArray)
  have B0 := Lib.hid ((Below.refl w.heap.size w).alloc (Nat.le_refl _) (.cells a.cells.toArray 29))
  clear HAC HCO HWG
  go_enter Try.func8, Try.ntmps8
  go_wp2_with ((with_reducible refine at_load 1 ?_); refine tyTx.wpList_load rfl (.tmp 1) rfl w.heap.size 0 rfl a (RowC.of_blk K0.out) ?_)
  refine (fheavy_any a _).mono ?_
  rintro e w1 ⟨rfl, bq⟩
  rw [hv]
  have B1 := Lib.hid (B0.out.trans (bq.mono B0.out.size))
  have K1 := Lib.hid (below_blk bq K0.out K0.out.lt)
  clear bq B0 K0
  go_wp2_with fail
  refine (SH.out _).mono ?_
  rintro e w2 ⟨rfl, bq⟩
  have B2 := Lib.hid (B1.out.trans (bq.mono B1.out.size))
  have K2 := Lib.hid (below_blk bq K1.out K1.out.lt)
  clear bq B1 K1
  go_wp2_with fail
  go_ret
  exact ⟨rfl, B2.out⟩
set_option maxRecDepth 20000 in
set_option maxHeartbeats 4000000 in
theorem feeLeast_m (HAC : ActOk) (HCO : ConvOk) (HUP : UnpOk) (HWG : WgtOk) (HPA : PaysOk) (a : TxA)  (w : World) (hv : heavyF a.T = false) :
    Calls Try.prog 8 #[.agg a.cells.toArray] w fun e w' => e = .returned (.bool true) ∧ Below w.heap.size w w' := by
  have SH := Lib.hid (fun W => fshown_any HAC HCO HWG W)
  have K0 := Lib.hid (Blk.new w 29 a.cells.toArray)
  have B0 := Lib.hid ((Below.refl w.heap.size w).alloc (Nat.le_refl _) (.cells a.cells.toArray 29))
  have hf := few_of hv
  obtain ⟨d, hd⟩ : ∃ d : Int, (dueF a.T : Int) = d := ⟨_, rfl⟩
  have hp := hf.due
  obtain ⟨n, hn⟩ : ∃ n : Int, ((actF a.T : Nat) : Int) = n := ⟨_, rfl⟩
  have b1 := bmax (P := Try.prog) (show max n 2 = d by unfold dueF at hd; omega)
  have hcv : convF a.T = 5000 * d := by unfold convF; omega
  have A1 := Lib.hid (fun W => HAC a W hf)
  rw [hn] at A1
  have C1 := Lib.hid (fun W => HCO a W hf)
  rw [hcv] at C1
  have U1 := Lib.hid (fun W => HUP a 0 W hf (by unfold isI64; omega))
  rw [show unpF a.T 0 = d by unfold unpF heldF; omega] at U1
  have U2 := Lib.hid (fun W => HUP a (5000 * d - 1) W hf (by unfold isI64; omega))
  rw [show unpF a.T (5000 * d - 1) = 1 by unfold unpF heldF; omega] at U2
  have P1 := Lib.hid (fun W => HPA a 0 W hf (by unfold isI64; omega))
  rw [show paysF a.T 0 = false by unfold paysF heldF; exact decide_eq_false (by omega)] at P1
  have P2 := Lib.hid (fun W => HPA a (5000 * d) W hf (by unfold isI64; omega))
  rw [show paysF a.T (5000 * d) = true by unfold paysF heldF; exact decide_eq_true (by omega)] at P2
  have P3 := Lib.hid (fun W => HPA a (5000 * d - 1) W hf (by unfold isI64; omega))
  rw [show paysF a.T (5000 * d - 1) = false by unfold paysF heldF; exact decide_eq_false (by omega)] at P3
  have e1 : IntKind.i64.wrap (5000 * d) = 5000 * d := by rw [IntKind.wrap_i64]; omega
  have e2 : IntKind.i64.wrap (5000 * d - 1) = 5000 * d - 1 := by rw [IntKind.wrap_i64]; omega
  clear HAC HCO HUP HWG HPA hf hd hp hn hcv
  go_enter Try.func8, Try.ntmps8
  go_wp2_with ((with_reducible refine at_load 1 ?_); refine tyTx.wpList_load rfl (.tmp 1) rfl w.heap.size 0 rfl a (RowC.of_blk K0.out) ?_)
  refine (fheavy_any a _).mono ?_
  rintro e w1 ⟨rfl, bq⟩
  rw [hv]
  have B1 := Lib.hid (B0.out.trans (bq.mono B0.out.size))
  have K1 := Lib.hid (below_blk bq K0.out K0.out.lt)
  clear bq B0 K0
  go_wp2_with fail
  refine (SH.out _).mono ?_
  rintro e w2 ⟨rfl, bq⟩
  have B2 := Lib.hid (B1.out.trans (bq.mono B1.out.size))
  have K2 := Lib.hid (below_blk bq K1.out K1.out.lt)
  clear bq B1 K1
  go_wp2_with ((with_reducible refine at_load 1 ?_); refine tyTx.wpList_load rfl (.tmp 1) rfl w.heap.size 0 rfl a (RowC.of_blk K2.out) ?_)
  refine (A1.out _).mono ?_
  rintro e w3 ⟨rfl, bq⟩
  have B3 := Lib.hid (B2.out.trans (bq.mono B2.out.size))
  have K3 := Lib.hid (below_blk bq K2.out K2.out.lt)
  clear bq B2 K2
  go_wp2_with fail
  have RT := Lib.hid (show ∀ W, From w3 W → RowC W w.heap.size 0 a.cells from fun W hC => RowC.of_blk (below_blk hC.below K3.out K3.out.lt))
  refine wp_region_from (by kernel_rfl) (by kernel_rfl) ?_
  repeat (first
    | go_big_quiet_skip
    | ((with_reducible refine at_qload 1 ?_); refine tyTx.wpQuiet_load (by rfl) (.tmp 1) rfl w.heap.size 0 rfl a RT.out ?_; simp only [Act.put, List.setIfInBounds_toArray, List.set_cons_succ, List.set_cons_zero])
    | (go_big_quiet_want; go_big_quiet_op; refine ⟨_, fun _ _ => by with_reducible rfl, ?_⟩; go_big_quiet_on)
    | go_big_quiet_step ((intro hC; first
        | (go_at_call 13; with_reducible exact (C1.out _).mono fun _ _ h => ⟨h.1, hC.call h.2⟩)
        | (go_at_call 15; with_reducible exact (U1.out _).mono fun _ _ h => ⟨h.1, hC.call h.2⟩)
        | (go_at_call 15; with_reducible exact (U2.out _).mono fun _ _ h => ⟨h.1, hC.call h.2⟩)
        | (go_at_call 19; with_reducible exact (P1.out _).mono fun _ _ h => ⟨h.1, hC.call h.2⟩)
        | (go_at_call 19; with_reducible exact (P2.out _).mono fun _ _ h => ⟨h.1, hC.call h.2⟩)
        | (go_at_call 19; with_reducible exact (P3.out _).mono fun _ _ h => ⟨h.1, hC.call h.2⟩))))
  refine wpQuiet_nil ?_
  intro w4 hC
  have B4 := Lib.hid (B3.out.trans (hC.below.mono B3.out.size))
  have K4 := Lib.hid (below_blk hC.below K3.out K3.out.lt)
  clear hC RT B3 K3
  go_wp2_with fail
  go_ret
  exact ⟨by simp, B4.out⟩
theorem feeLeast_walk (HAC : ActOk) (HCO : ConvOk) (HUP : UnpOk) (HWG : WgtOk) (HPA : PaysOk) (a : TxA)  (w : World) :
    Calls Try.prog 8 #[.agg a.cells.toArray] w fun e w' => e = .returned (.bool true) ∧ Below w.heap.size w w' := by
  cases hv : heavyF a.T with
  | true => exact feeLeast_h HAC HCO HUP HWG HPA a  w  hv
  | false => exact feeLeast_m HAC HCO HUP HWG HPA a  w  hv
end Go.Proofs.Ytjlgcpdlenkehaa
