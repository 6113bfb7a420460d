/- CostLeast's walk. Written by genLC14b.py. -/
import Derived.Test.YtpoejbfcioijhaaLCos
namespace Go.Proofs.Ytpoejbfcioijhaa
open Go.RowKit
theorem cos_least {T : TxV} (hf : Few T) (lo hi : Int) (h : lo ≤ hi) : 4000 ≤ costF T ∧ (cosSize T : Int) ≤ costF T ∧ (costF T = 4000 ∨ costF T = cosSize T) ∧ (cosW T lo = costF T ∨ cosW T lo = costF T + 16000) ∧ cosW T hi ≤ cosW T lo ∧ cosW T 0 = costF T + 16000 ∧ cosW T 2100000000000000 = costF T ∧ costF T ≤ 6000 := by
  have hd := hf.due
  have h1 : paysF T 0 = false := by unfold paysF convF heldF; rw [decide_eq_false_iff_not]; omega
  have h2 : paysF T 2100000000000000 = true := by unfold paysF convF heldF; rw [decide_eq_true_iff]; omega
  have h3 : paysF T lo = true → paysF T hi = true := by unfold paysF convF heldF; rw [decide_eq_true_iff, decide_eq_true_iff]; omega
  have h4 := costF_le T
  refine ⟨h4.1, by unfold costF; omega, by unfold costF; omega, ?_, ?_, by unfold cosW; rw [h1]; rfl, by unfold cosW; rw [if_pos h2], h4.2⟩
  · unfold cosW; split <;> simp
  · unfold cosW
    cases hl : paysF T lo with
    | true => rw [if_pos (h3 hl), if_pos rfl]; exact Int.le_refl _
    | false =>
      simp only [Bool.false_eq_true, if_false]
      split <;> omega
set_option maxRecDepth 20000 in
set_option maxHeartbeats 4000000 in
theorem cosLeast_h (HPI : PickOk) (HCO : CostTOk) (_ : CostWOk) (a : TxA) (low high : Int) (w : World) (ha : a.In w w.heap.size) (_ : isI64 low) (_ : isI64 high) (hv : heavyF a.T = true) :
    Calls Try.prog 5 #[.agg a.cells.toArray, .int .i64 low, .int .i64 high] w fun e w' => e = .returned (.bool true) ∧ Below w.heap.size w w' := by
  have SH := Lib.hid (fun W => cosshown_any HPI HCO W)
  have IA := Lib.hid ha
  have HH := Lib.hid (show Holds w [(w.heap.size, 29, a.cells.toArray)] (w.alloc (.cells a.cells.toArray 29)) from (Holds.nil w).box 29 a.cells.toArray)
  clear ha IA HPI HCO
  go_enter Try.func5, Try.ntmps5
  go_wp2_with ((with_reducible refine at_load 3 ?_); refine tyTx.wpList_load rfl (.tmp 3) rfl (w.heap.size) 0 rfl a (RowC.of_blk (HH.out.at (x := (w.heap.size, 29, a.cells.toArray)) (by simp))) ?_)
  with_reducible refine (cosheavy_any a _).mono ?_
  rintro e w1 ⟨rfl, bq⟩
  have HQ := Lib.hid (HH.out.call bq)
  clear bq HH
  have HH := HQ
  clear HQ
  rw [hv]
  go_wp2_with fail
  with_reducible refine (SH.out _).mono ?_
  rintro e w2 ⟨rfl, bq⟩
  have HQ := Lib.hid (HH.out.call bq)
  clear bq HH
  have HH := HQ
  clear HQ
  go_wp2_with fail
  go_ret
  exact ⟨rfl, HH.out.below⟩
set_option maxRecDepth 20000 in
set_option maxHeartbeats 4000000 in
theorem cosLeast_m (HPI : PickOk) (HCO : CostTOk) (HWE : CostWOk) (a : TxA) (low high : Int) (w : World) (ha : a.In w w.heap.size) (hl : isI64 low) (hh : isI64 high) (hv : heavyF a.T = false) :
    Calls Try.prog 5 #[.agg a.cells.toArray, .int .i64 low, .int .i64 high] w fun e w' => e = .returned (.bool true) ∧ Below w.heap.size w w' := by
  have SH := Lib.hid (fun W => cosshown_any HPI HCO W)
  have IA := Lib.hid ha
  have HH := Lib.hid (show Holds w [(w.heap.size, 29, a.cells.toArray)] (w.alloc (.cells a.cells.toArray 29)) from (Holds.nil w).box 29 a.cells.toArray)
  have NA := Lib.hid (cos_few hv)
  have hle : (min low high) ≤ (max low high) := by omega
  have hcl := cos_least NA.out (min low high) (max low high) hle
  have hml : isI64 (min low high) := by unfold isI64 at *; omega
  have hmh : isI64 (max low high) := by unfold isI64 at *; omega
  obtain ⟨c, hc⟩ : ∃ q, costF a.T = q := ⟨_, rfl⟩
  obtain ⟨n, hn⟩ : ∃ q : Nat, cosSize a.T = q := ⟨_, rfl⟩
  obtain ⟨x, hx⟩ : ∃ q, cosW a.T (min low high) = q := ⟨_, rfl⟩
  obtain ⟨y, hy⟩ : ∃ q, cosW a.T (max low high) = q := ⟨_, rfl⟩
  have KC := Lib.hid (show ∀ W, a.In W W.heap.size → Calls Try.prog 14 #[.agg a.cells.toArray] W fun e w' => e = .returned (.int .i64 c) ∧ Below W.heap.size W w' from fun W h => hc ▸ HCO a W h NA.out)
  have KS := Lib.hid (show ∀ W, a.In W W.heap.size → Calls Try.prog 18 #[.agg a.cells.toArray] W fun e w' => e = .returned (.int .i64 (n : Int)) ∧ Below W.heap.size W w' from fun W h => hn ▸ rSize_w a W h)
  have KX := Lib.hid (show ∀ W, a.In W W.heap.size → Calls Try.prog 16 #[.agg a.cells.toArray, .int .i64 (min low high)] W fun e w' => e = .returned (.int .i64 x) ∧ Below W.heap.size W w' from fun W h => hx ▸ HWE a (min low high) W h NA.out (by assumption))
  have KY := Lib.hid (show ∀ W, a.In W W.heap.size → Calls Try.prog 16 #[.agg a.cells.toArray, .int .i64 (max low high)] W fun e w' => e = .returned (.int .i64 y) ∧ Below W.heap.size W w' from fun W h => hy ▸ HWE a (max low high) W h NA.out (by assumption))
  rw [hc, hn, hx, hy] at hcl
  obtain ⟨f1, f2, f3, f4, f5, f6, f7, f8⟩ := hcl
  have K0 := Lib.hid (show ∀ W, a.In W W.heap.size → Calls Try.prog 16 #[.agg a.cells.toArray, .int .i64 0] W fun e w' => e = .returned (.int .i64 (c + 16000)) ∧ Below W.heap.size W w' from fun W h => f6 ▸ HWE a 0 W h NA.out ⟨by omega, by omega⟩)
  have KM := Lib.hid (show ∀ W, a.In W W.heap.size → Calls Try.prog 16 #[.agg a.cells.toArray, .int .i64 2100000000000000] W fun e w' => e = .returned (.int .i64 c) ∧ Below W.heap.size W w' from fun W h => f7 ▸ HWE a 2100000000000000 W h NA.out ⟨by omega, by omega⟩)
  have g1 : decide (4000 ≤ c) = true := decide_eq_true f1
  have g2 : decide ((n : Int) ≤ c) = true := decide_eq_true f2
  have g3 : decide (y ≤ x) = true := decide_eq_true f5
  have gw : IntKind.i64.wrap (c + 16000) = c + 16000 := by rw [IntKind.wrap_i64]; omega
  have F3 := Lib.hid f3
  have F4 := Lib.hid f4
  clear ha hl hh hml hmh HCO HWE HPI hc hn hx hy hle f1 f2 f3 f4 f5 f6 f7 f8
  go_enter Try.func5, Try.ntmps5
  go_wp2_with ((with_reducible refine at_load 3 ?_); refine tyTx.wpList_load rfl (.tmp 3) rfl (w.heap.size) 0 rfl a (RowC.of_blk (HH.out.at (x := (w.heap.size, 29, a.cells.toArray)) (by simp))) ?_)
  with_reducible refine (cosheavy_any a _).mono ?_
  rintro e w1 ⟨rfl, bq⟩
  have HQ := Lib.hid (HH.out.call bq)
  clear bq HH
  have HH := HQ
  clear HQ
  rw [hv]
  go_wp2_with fail
  with_reducible refine (SH.out _).mono ?_
  rintro e w2 ⟨rfl, bq⟩
  have HQ := Lib.hid (HH.out.call bq)
  clear bq HH
  have HH := HQ
  clear HQ
  go_wp2_with ((with_reducible refine at_load 3 ?_); refine tyTx.wpList_load rfl (.tmp 3) rfl (w.heap.size) 0 rfl a (RowC.of_blk (HH.out.at (x := (w.heap.size, 29, a.cells.toArray)) (by simp))) ?_)
  with_reducible refine (KC.out _ (IA.out.on HH.out.below (Nat.le_refl _))).mono ?_
  rintro e w3 ⟨rfl, bq⟩
  have HQ := Lib.hid (HH.out.call bq)
  clear bq HH
  have HH := HQ
  clear HQ
  go_wp2_with ((with_reducible refine at_load 3 ?_); refine tyTx.wpList_load rfl (.tmp 3) rfl (w.heap.size) 0 rfl a (RowC.of_blk (HH.out.at (x := (w.heap.size, 29, a.cells.toArray)) (by simp))) ?_)
  with_reducible refine (KX.out _ (IA.out.on HH.out.below (Nat.le_refl _))).mono ?_
  rintro e w4 ⟨rfl, bq⟩
  have HQ := Lib.hid (HH.out.call bq)
  clear bq HH
  have HH := HQ
  clear HQ
  go_wp2_with ((with_reducible refine at_load 3 ?_); refine tyTx.wpList_load rfl (.tmp 3) rfl (w.heap.size) 0 rfl a (RowC.of_blk (HH.out.at (x := (w.heap.size, 29, a.cells.toArray)) (by simp))) ?_)
  with_reducible refine (KY.out _ (IA.out.on HH.out.below (Nat.le_refl _))).mono ?_
  rintro e w5 ⟨rfl, bq⟩
  have HQ := Lib.hid (HH.out.call bq)
  clear bq HH
  have HH := HQ
  clear HQ
  go_wp2_with ((with_reducible refine at_loadg 3 ?_); refine tyTx.wpList_load (by rfl) (.tmp 3) rfl (w.heap.size) 0 rfl a (RowC.of_blk (HH.out.at (x := (w.heap.size, 29, a.cells.toArray)) (by simp))) ?_)
  with_reducible refine (KS.out _ (IA.out.on HH.out.below (Nat.le_refl _))).mono ?_
  rintro e w6 ⟨rfl, bq⟩
  have HQ := Lib.hid (HH.out.call bq)
  clear bq HH
  have HH := HQ
  clear HQ
  rcases Classical.em (c = 4000) with hc4 | hc4
  · have e1 : (c == 4000) = true := beq_iff_eq.mpr hc4
    clear hc4
    rcases Classical.em (x = c) with he | he
    · have e4 : (x == c) = true := beq_iff_eq.mpr he
      clear he
      go_wp2_with ((with_reducible refine at_loadg 3 ?_); refine tyTx.wpList_load (by rfl) (.tmp 3) rfl (w.heap.size) 0 rfl a (RowC.of_blk (HH.out.at (x := (w.heap.size, 29, a.cells.toArray)) (by simp))) ?_)
      with_reducible refine (K0.out _ (IA.out.on HH.out.below (Nat.le_refl _))).mono ?_
      rintro e w8 ⟨rfl, bq⟩
      have HQ := Lib.hid (HH.out.call bq)
      clear bq HH
      have HH := HQ
      clear HQ
      go_wp2_with ((with_reducible refine at_loadg 3 ?_); refine tyTx.wpList_load (by rfl) (.tmp 3) rfl (w.heap.size) 0 rfl a (RowC.of_blk (HH.out.at (x := (w.heap.size, 29, a.cells.toArray)) (by simp))) ?_)
      with_reducible refine (KM.out _ (IA.out.on HH.out.below (Nat.le_refl _))).mono ?_
      rintro e w9 ⟨rfl, bq⟩
      have HQ := Lib.hid (HH.out.call bq)
      clear bq HH
      have HH := HQ
      clear HQ
      go_wp2_with fail
      go_ret
      exact ⟨by first | rfl | simp, HH.out.below⟩
    · have e4 : (x == c) = false := beq_eq_false_iff_ne.mpr he
      have e5 : (x == c + 16000) = true := beq_iff_eq.mpr (F4.out.resolve_left he)
      clear he
      go_wp2_with ((with_reducible refine at_loadg 3 ?_); refine tyTx.wpList_load (by rfl) (.tmp 3) rfl (w.heap.size) 0 rfl a (RowC.of_blk (HH.out.at (x := (w.heap.size, 29, a.cells.toArray)) (by simp))) ?_)
      with_reducible refine (K0.out _ (IA.out.on HH.out.below (Nat.le_refl _))).mono ?_
      rintro e w8 ⟨rfl, bq⟩
      have HQ := Lib.hid (HH.out.call bq)
      clear bq HH
      have HH := HQ
      clear HQ
      go_wp2_with ((with_reducible refine at_loadg 3 ?_); refine tyTx.wpList_load (by rfl) (.tmp 3) rfl (w.heap.size) 0 rfl a (RowC.of_blk (HH.out.at (x := (w.heap.size, 29, a.cells.toArray)) (by simp))) ?_)
      with_reducible refine (KM.out _ (IA.out.on HH.out.below (Nat.le_refl _))).mono ?_
      rintro e w9 ⟨rfl, bq⟩
      have HQ := Lib.hid (HH.out.call bq)
      clear bq HH
      have HH := HQ
      clear HQ
      go_wp2_with fail
      go_ret
      exact ⟨by first | rfl | simp, HH.out.below⟩
  · have e1 : (c == 4000) = false := beq_eq_false_iff_ne.mpr hc4
    have e2 : (c == (n : Int)) = true := beq_iff_eq.mpr (F3.out.resolve_left hc4)
    clear hc4
    go_wp2_with ((with_reducible refine at_loadg 3 ?_); refine tyTx.wpList_load (by rfl) (.tmp 3) rfl (w.heap.size) 0 rfl a (RowC.of_blk (HH.out.at (x := (w.heap.size, 29, a.cells.toArray)) (by simp))) ?_)
    with_reducible refine (KS.out _ (IA.out.on HH.out.below (Nat.le_refl _))).mono ?_
    rintro e w7 ⟨rfl, bq⟩
    have HQ := Lib.hid (HH.out.call bq)
    clear bq HH
    have HH := HQ
    clear HQ
    rcases Classical.em (x = c) with he | he
    · have e4 : (x == c) = true := beq_iff_eq.mpr he
      clear he
      go_wp2_with ((with_reducible refine at_loadg 3 ?_); refine tyTx.wpList_load (by rfl) (.tmp 3) rfl (w.heap.size) 0 rfl a (RowC.of_blk (HH.out.at (x := (w.heap.size, 29, a.cells.toArray)) (by simp))) ?_)
      with_reducible refine (K0.out _ (IA.out.on HH.out.below (Nat.le_refl _))).mono ?_
      rintro e w8 ⟨rfl, bq⟩
      have HQ := Lib.hid (HH.out.call bq)
      clear bq HH
      have HH := HQ
      clear HQ
      go_wp2_with ((with_reducible refine at_loadg 3 ?_); refine tyTx.wpList_load (by rfl) (.tmp 3) rfl (w.heap.size) 0 rfl a (RowC.of_blk (HH.out.at (x := (w.heap.size, 29, a.cells.toArray)) (by simp))) ?_)
      with_reducible refine (KM.out _ (IA.out.on HH.out.below (Nat.le_refl _))).mono ?_
      rintro e w9 ⟨rfl, bq⟩
      have HQ := Lib.hid (HH.out.call bq)
      clear bq HH
      have HH := HQ
      clear HQ
      go_wp2_with fail
      go_ret
      exact ⟨by first | rfl | simp, HH.out.below⟩
    · have e4 : (x == c) = false := beq_eq_false_iff_ne.mpr he
      have e5 : (x == c + 16000) = true := beq_iff_eq.mpr (F4.out.resolve_left he)
      clear he
      go_wp2_with ((with_reducible refine at_loadg 3 ?_); refine tyTx.wpList_load (by rfl) (.tmp 3) rfl (w.heap.size) 0 rfl a (RowC.of_blk (HH.out.at (x := (w.heap.size, 29, a.cells.toArray)) (by simp))) ?_)
      with_reducible refine (K0.out _ (IA.out.on HH.out.below (Nat.le_refl _))).mono ?_
      rintro e w8 ⟨rfl, bq⟩
      have HQ := Lib.hid (HH.out.call bq)
      clear bq HH
      have HH := HQ
      clear HQ
      go_wp2_with ((with_reducible refine at_loadg 3 ?_); refine tyTx.wpList_load (by rfl) (.tmp 3) rfl (w.heap.size) 0 rfl a (RowC.of_blk (HH.out.at (x := (w.heap.size, 29, a.cells.toArray)) (by simp))) ?_)
      with_reducible refine (KM.out _ (IA.out.on HH.out.below (Nat.le_refl _))).mono ?_
      rintro e w9 ⟨rfl, bq⟩
      have HQ := Lib.hid (HH.out.call bq)
      clear bq HH
      have HH := HQ
      clear HQ
      go_wp2_with fail
      go_ret
      exact ⟨by first | rfl | simp, HH.out.below⟩
set_option maxRecDepth 20000 in
set_option maxHeartbeats 4000000 in
theorem cosLeast_walk (HPI : PickOk) (HCO : CostTOk) (HWE : CostWOk) (a : TxA) (low high : Int) (w : World) (ha : a.In w w.heap.size) (hl : isI64 low) (hh : isI64 high) :
    Calls Try.prog 5 #[.agg a.cells.toArray, .int .i64 low, .int .i64 high] w fun e w' => e = .returned (.bool true) ∧ Below w.heap.size w w' := by
  cases hv : heavyF a.T with
  | true => exact cosLeast_h HPI HCO HWE a low high w ha hl hh hv
  | false => exact cosLeast_m HPI HCO HWE a low high w ha hl hh hv
end Go.Proofs.Ytpoejbfcioijhaa
