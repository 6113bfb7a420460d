/- slices.Equal at the three types of a transaction's lists; tx.Same. Written by genEq.py. -/
import Derived.Test.YtgcopgnkfokphaaDoorTxY
import Derived.Test.YtgcopgnkfokphaaDoorGenA
namespace Go.Proofs.YtgcopgnkfokphaaDoor
open Go.RowKit
set_option maxRecDepth 20000 in
set_option maxHeartbeats 4000000 in
theorem sEqPt_any (A B : Option Addr) (c d : Nat) (l m : List (K32 × IntV .u32)) (w : World) (ha : RowIn (encKI .u32) 33 w w.heap.size A c l) (hb : RowIn (encKI .u32) 33 w w.heap.size B d m) :
    Calls Tryd.prog 33 #[.slice A l.length c, .slice B m.length d] w fun e w' => e = .returned (.bool (decide (l = m))) ∧ Below w.heap.size w w' := by
  obtain ⟨s, hs⟩ : ∃ s, decide (l = m) = s := ⟨_, rfl⟩
  rw [hs]
  have hm0 : l.length ≤ 9223372036854775807 := by have h1 := ha.le; have h2 := ha.max; unfold maxLen at h2; omega
  have HS := Lib.hid hs
  have IA := Lib.hid ha
  have IB := Lib.hid hb
  clear hs ha hb
  by_cases hl : l.length = m.length
  · have HL := Lib.hid hl
    have hne : ((l.length : Int) != (m.length : Int)) = false := by rw [hl]; simp
    clear hl
    go_enter Tryd.func33, Tryd.ntmps33
    go_wp2_with fail
    clear hne
    go_loopw [13] (fun i wr => ∃ j : Nat, j ≤ l.length ∧ i = .int .i64 j ∧ Hid (l.take j = m.take j ∧ Below w.heap.size w wr)) (fun i _ => l.length - (intOf i).toNat)
    case atStart => exact ⟨0, Nat.zero_le _, rfl, Lib.hid ⟨rfl, Below.refl _ _⟩⟩
    case round =>
      obtain ⟨j, hj, rfl, hx⟩ := hrel
      by_cases hlt : j < l.length
      · have hltb : j < m.length := by have := HL.out; omega
        obtain ⟨g1, o1, rfl, l1, rc1⟩ := IA.out.at (encKI_len _) hlt
        obtain ⟨g2, o2, rfl, l2, rc2⟩ := IB.out.at (encKI_len _) hltb
        have zr := hx.out.2.size
        have RA := Lib.hid (fun (w' : World) (hC : From wr w') => (rc1.below hx.out.2 l1).below hC.below (by omega))
        have RB := Lib.hid (fun (w' : World) (hC : From wr w') => (rc2.below hx.out.2 l2).below hC.below (by omega))
        clear rc1 rc2 zr
        go_wp2_with fail
        obtain ⟨q, hq⟩ : ∃ q, decide (l[j] = m[j]) = q := ⟨_, rfl⟩
        have HQ := Lib.hid hq
        clear hq
        refine wp_region_from (by kernel_rfl) (by kernel_rfl) ?_
        repeat (first
          | go_big_quiet_skip
          | ((with_reducible refine at_qload 18 ?_); refine tyPt.wpQuiet_load (by rfl) (.tmp 18) rfl g1 (o1 + j * 33) rfl l[j] RA.out ?_; simp only [Act.put, List.setIfInBounds_toArray, List.set_cons_succ, List.set_cons_zero])
          | ((with_reducible refine at_qload 22 ?_); refine tyPt.wpQuiet_load (by rfl) (.tmp 22) rfl g2 (o2 + j * 33) rfl m[j] RB.out ?_; simp only [Act.put, List.setIfInBounds_toArray, List.set_cons_succ, List.set_cons_zero])
          | ((with_reducible refine at_qneq 19 23 ?_); refine wpQuiet_neq_row (by rfl) 39 39 (.tmp 19) (.tmp 23) rfl ((encKI .u32) l[j]).toArray ((encKI .u32) m[j]).toArray rfl rfl (by kernel_rfl) q (fun V => (eqPt_run _ _ V).trans (by rw [HQ.out])) ?_; simp only [Act.put, List.setIfInBounds_toArray, List.set_cons_succ, List.set_cons_zero])
          | (go_big_quiet_want; go_big_quiet_op; refine ⟨_, fun _ _ => by with_reducible rfl, ?_⟩; go_big_quiet_on)
          | go_big_quiet_step (fail))
        refine wpQuiet_nil ?_
        intro w9 hC
        have B9 := Lib.hid (hx.out.2.trans (hC.below.mono hx.out.2.size))
        clear hC RA RB
        cases q with
        | false =>
          have HE := Lib.hid (show s = false by
            rw [← HS.out, decide_eq_false_iff_not]
            intro e
            have hn : l[j] ≠ m[j] := by simpa using HQ.out
            exact hn (by simp only [e]))
          go_wp2_with fail
          go_ret
          refine ⟨?_, B9.out⟩
          rw [HE.out]
          rfl
        | true =>
          go_wp2_with fail
          go_roundw
          case rel => exact ⟨j + 1, by omega, by go_num, Lib.hid ⟨take_eq_succ hx.out.1 hlt hltb (by simpa using HQ.out), B9.out⟩⟩
          case measure => simp [intOf]; omega
      · have HE := Lib.hid (show s = true by
          rw [← HS.out, decide_eq_true_iff]
          have h1 := hx.out.1
          have h2 := HL.out
          rwa [List.take_of_length_le (by omega), List.take_of_length_le (by omega)] at h1)
        have hje : j = l.length := by omega
        have hd : decide ((j : Int) < (l.length : Int)) = false := by simp; omega
        go_wp2
        go_ret
        refine ⟨?_, hx.out.2⟩
        rw [HE.out]
        rfl
  · have hne : ((l.length : Int) != (m.length : Int)) = true := by simp; omega
    have HE := Lib.hid (show s = false by
      rw [← HS.out, decide_eq_false_iff_not]
      intro e
      exact hl (by rw [e]))
    clear hl
    go_enter Tryd.func33, Tryd.ntmps33
    go_wp2
    go_ret
    refine ⟨?_, Below.refl _ _⟩
    rw [HE.out]
    rfl
set_option maxRecDepth 20000 in
set_option maxHeartbeats 4000000 in
theorem sEqOut_any (A B : Option Addr) (c d : Nat) (l m : List (IntV .i64 × K32)) (w : World) (ha : RowIn (encIK .i64) 33 w w.heap.size A c l) (hb : RowIn (encIK .i64) 33 w w.heap.size B d m) :
    Calls Tryd.prog 34 #[.slice A l.length c, .slice B m.length d] w fun e w' => e = .returned (.bool (decide (l = m))) ∧ Below w.heap.size w w' := by
  obtain ⟨s, hs⟩ : ∃ s, decide (l = m) = s := ⟨_, rfl⟩
  rw [hs]
  have hm0 : l.length ≤ 9223372036854775807 := by have h1 := ha.le; have h2 := ha.max; unfold maxLen at h2; omega
  have HS := Lib.hid hs
  have IA := Lib.hid ha
  have IB := Lib.hid hb
  clear hs ha hb
  by_cases hl : l.length = m.length
  · have HL := Lib.hid hl
    have hne : ((l.length : Int) != (m.length : Int)) = false := by rw [hl]; simp
    clear hl
    go_enter Tryd.func34, Tryd.ntmps34
    go_wp2_with fail
    clear hne
    go_loopw [13] (fun i wr => ∃ j : Nat, j ≤ l.length ∧ i = .int .i64 j ∧ Hid (l.take j = m.take j ∧ Below w.heap.size w wr)) (fun i _ => l.length - (intOf i).toNat)
    case atStart => exact ⟨0, Nat.zero_le _, rfl, Lib.hid ⟨rfl, Below.refl _ _⟩⟩
    case round =>
      obtain ⟨j, hj, rfl, hx⟩ := hrel
      by_cases hlt : j < l.length
      · have hltb : j < m.length := by have := HL.out; omega
        obtain ⟨g1, o1, rfl, l1, rc1⟩ := IA.out.at (encIK_len _) hlt
        obtain ⟨g2, o2, rfl, l2, rc2⟩ := IB.out.at (encIK_len _) hltb
        have zr := hx.out.2.size
        have RA := Lib.hid (fun (w' : World) (hC : From wr w') => (rc1.below hx.out.2 l1).below hC.below (by omega))
        have RB := Lib.hid (fun (w' : World) (hC : From wr w') => (rc2.below hx.out.2 l2).below hC.below (by omega))
        clear rc1 rc2 zr
        go_wp2_with fail
        obtain ⟨q, hq⟩ : ∃ q, decide (l[j] = m[j]) = q := ⟨_, rfl⟩
        have HQ := Lib.hid hq
        clear hq
        refine wp_region_from (by kernel_rfl) (by kernel_rfl) ?_
        repeat (first
          | go_big_quiet_skip
          | ((with_reducible refine at_qload 18 ?_); refine tyOut.wpQuiet_load (by rfl) (.tmp 18) rfl g1 (o1 + j * 33) rfl l[j] RA.out ?_; simp only [Act.put, List.setIfInBounds_toArray, List.set_cons_succ, List.set_cons_zero])
          | ((with_reducible refine at_qload 22 ?_); refine tyOut.wpQuiet_load (by rfl) (.tmp 22) rfl g2 (o2 + j * 33) rfl m[j] RB.out ?_; simp only [Act.put, List.setIfInBounds_toArray, List.set_cons_succ, List.set_cons_zero])
          | ((with_reducible refine at_qneq 19 23 ?_); refine wpQuiet_neq_row (by rfl) 41 41 (.tmp 19) (.tmp 23) rfl ((encIK .i64) l[j]).toArray ((encIK .i64) m[j]).toArray rfl rfl (by kernel_rfl) q (fun V => (eqOut_run _ _ V).trans (by rw [HQ.out])) ?_; simp only [Act.put, List.setIfInBounds_toArray, List.set_cons_succ, List.set_cons_zero])
          | (go_big_quiet_want; go_big_quiet_op; refine ⟨_, fun _ _ => by with_reducible rfl, ?_⟩; go_big_quiet_on)
          | go_big_quiet_step (fail))
        refine wpQuiet_nil ?_
        intro w9 hC
        have B9 := Lib.hid (hx.out.2.trans (hC.below.mono hx.out.2.size))
        clear hC RA RB
        cases q with
        | false =>
          have HE := Lib.hid (show s = false by
            rw [← HS.out, decide_eq_false_iff_not]
            intro e
            have hn : l[j] ≠ m[j] := by simpa using HQ.out
            exact hn (by simp only [e]))
          go_wp2_with fail
          go_ret
          refine ⟨?_, B9.out⟩
          rw [HE.out]
          rfl
        | true =>
          go_wp2_with fail
          go_roundw
          case rel => exact ⟨j + 1, by omega, by go_num, Lib.hid ⟨take_eq_succ hx.out.1 hlt hltb (by simpa using HQ.out), B9.out⟩⟩
          case measure => simp [intOf]; omega
      · have HE := Lib.hid (show s = true by
          rw [← HS.out, decide_eq_true_iff]
          have h1 := hx.out.1
          have h2 := HL.out
          rwa [List.take_of_length_le (by omega), List.take_of_length_le (by omega)] at h1)
        have hje : j = l.length := by omega
        have hd : decide ((j : Int) < (l.length : Int)) = false := by simp; omega
        go_wp2
        go_ret
        refine ⟨?_, hx.out.2⟩
        rw [HE.out]
        rfl
  · have hne : ((l.length : Int) != (m.length : Int)) = true := by simp; omega
    have HE := Lib.hid (show s = false by
      rw [← HS.out, decide_eq_false_iff_not]
      intro e
      exact hl (by rw [e]))
    clear hl
    go_enter Tryd.func34, Tryd.ntmps34
    go_wp2
    go_ret
    refine ⟨?_, Below.refl _ _⟩
    rw [HE.out]
    rfl
set_option maxRecDepth 20000 in
set_option maxHeartbeats 4000000 in
theorem sEqKy_any (A B : Option Addr) (c d : Nat) (l m : List (K32)) (w : World) (ha : RowIn encK 32 w w.heap.size A c l) (hb : RowIn encK 32 w w.heap.size B d m) :
    Calls Tryd.prog 35 #[.slice A l.length c, .slice B m.length d] w fun e w' => e = .returned (.bool (decide (l = m))) ∧ Below w.heap.size w w' := by
  obtain ⟨s, hs⟩ : ∃ s, decide (l = m) = s := ⟨_, rfl⟩
  rw [hs]
  have hm0 : l.length ≤ 9223372036854775807 := by have h1 := ha.le; have h2 := ha.max; unfold maxLen at h2; omega
  have HS := Lib.hid hs
  have IA := Lib.hid ha
  have IB := Lib.hid hb
  clear hs ha hb
  by_cases hl : l.length = m.length
  · have HL := Lib.hid hl
    have hne : ((l.length : Int) != (m.length : Int)) = false := by rw [hl]; simp
    clear hl
    go_enter Tryd.func35, Tryd.ntmps35
    go_wp2_with fail
    clear hne
    go_loopw [13] (fun i wr => ∃ j : Nat, j ≤ l.length ∧ i = .int .i64 j ∧ Hid (l.take j = m.take j ∧ Below w.heap.size w wr)) (fun i _ => l.length - (intOf i).toNat)
    case atStart => exact ⟨0, Nat.zero_le _, rfl, Lib.hid ⟨rfl, Below.refl _ _⟩⟩
    case round =>
      obtain ⟨j, hj, rfl, hx⟩ := hrel
      by_cases hlt : j < l.length
      · have hltb : j < m.length := by have := HL.out; omega
        obtain ⟨g1, o1, rfl, l1, rc1⟩ := IA.out.at (encK_len) hlt
        obtain ⟨g2, o2, rfl, l2, rc2⟩ := IB.out.at (encK_len) hltb
        have zr := hx.out.2.size
        have RA := Lib.hid (fun (w' : World) (hC : From wr w') => (rc1.below hx.out.2 l1).below hC.below (by omega))
        have RB := Lib.hid (fun (w' : World) (hC : From wr w') => (rc2.below hx.out.2 l2).below hC.below (by omega))
        clear rc1 rc2 zr
        go_wp2_with fail
        obtain ⟨q, hq⟩ : ∃ q, decide (l[j] = m[j]) = q := ⟨_, rfl⟩
        have HQ := Lib.hid hq
        clear hq
        refine wp_region_from (by kernel_rfl) (by kernel_rfl) ?_
        repeat (first
          | go_big_quiet_skip
          | ((with_reducible refine at_qload 18 ?_); refine tyKy.wpQuiet_load (by rfl) (.tmp 18) rfl g1 (o1 + j * 32) rfl l[j] RA.out ?_; simp only [Act.put, List.setIfInBounds_toArray, List.set_cons_succ, List.set_cons_zero])
          | ((with_reducible refine at_qload 22 ?_); refine tyKy.wpQuiet_load (by rfl) (.tmp 22) rfl g2 (o2 + j * 32) rfl m[j] RB.out ?_; simp only [Act.put, List.setIfInBounds_toArray, List.set_cons_succ, List.set_cons_zero])
          | ((with_reducible refine at_qneq 19 23 ?_); refine wpQuiet_neq_row (by rfl) 26 26 (.tmp 19) (.tmp 23) rfl (encK l[j]).toArray (encK m[j]).toArray rfl rfl (by kernel_rfl) q (fun V => (eqKy_run _ _ V).trans (by rw [HQ.out])) ?_; simp only [Act.put, List.setIfInBounds_toArray, List.set_cons_succ, List.set_cons_zero])
          | (go_big_quiet_want; go_big_quiet_op; refine ⟨_, fun _ _ => by with_reducible rfl, ?_⟩; go_big_quiet_on)
          | go_big_quiet_step (fail))
        refine wpQuiet_nil ?_
        intro w9 hC
        have B9 := Lib.hid (hx.out.2.trans (hC.below.mono hx.out.2.size))
        clear hC RA RB
        cases q with
        | false =>
          have HE := Lib.hid (show s = false by
            rw [← HS.out, decide_eq_false_iff_not]
            intro e
            have hn : l[j] ≠ m[j] := by simpa using HQ.out
            exact hn (by simp only [e]))
          go_wp2_with fail
          go_ret
          refine ⟨?_, B9.out⟩
          rw [HE.out]
          rfl
        | true =>
          go_wp2_with fail
          go_roundw
          case rel => exact ⟨j + 1, by omega, by go_num, Lib.hid ⟨take_eq_succ hx.out.1 hlt hltb (by simpa using HQ.out), B9.out⟩⟩
          case measure => simp [intOf]; omega
      · have HE := Lib.hid (show s = true by
          rw [← HS.out, decide_eq_true_iff]
          have h1 := hx.out.1
          have h2 := HL.out
          rwa [List.take_of_length_le (by omega), List.take_of_length_le (by omega)] at h1)
        have hje : j = l.length := by omega
        have hd : decide ((j : Int) < (l.length : Int)) = false := by simp; omega
        go_wp2
        go_ret
        refine ⟨?_, hx.out.2⟩
        rw [HE.out]
        rfl
  · have hne : ((l.length : Int) != (m.length : Int)) = true := by simp; omega
    have HE := Lib.hid (show s = false by
      rw [← HS.out, decide_eq_false_iff_not]
      intro e
      exact hl (by rw [e]))
    clear hl
    go_enter Tryd.func35, Tryd.ntmps35
    go_wp2
    go_ret
    refine ⟨?_, Below.refl _ _⟩
    rw [HE.out]
    rfl
/-- what lies there while Same is at work: both transactions -/
structure SaS (w0 : World) (a b : TxA) (w : World) : Prop where
  below : Below w0.heap.size w0 w
  ka : Blk w w0.heap.size 29 a.cells.toArray
  kb : Blk w (w0.heap.size + 1) 29 b.cells.toArray
  ia : a.In w w.heap.size
  ib : b.In w w.heap.size
theorem SaS.call {w0 w w' : World} {a b : TxA} (h : SaS w0 a b w) (hb : Below w.heap.size w w') : SaS w0 a b w' where
  below := h.below.trans (hb.mono h.below.size)
  ka := below_blk hb h.ka h.ka.lt
  kb := below_blk hb h.kb h.kb.lt
  ia := h.ia.on hb (Nat.le_refl _)
  ib := h.ib.on hb (Nat.le_refl _)
theorem sameF_parts (T U : TxV) : sameF T U = ((T.exp.1 == U.exp.1) && (decide (T.ins = U.ins) && (decide (T.outs = U.outs) && (decide (T.anchor = U.anchor) && (decide (T.nulls = U.nulls) && (decide (T.notes = U.notes) && (T.bal.1 == U.bal.1))))))) := by
  have h1 : (T.exp.1 == U.exp.1) = decide (T.exp = U.exp) := by
    rw [Bool.eq_iff_iff, decide_eq_true_iff]
    simp only [beq_iff_eq]
    exact ⟨fun h => Subtype.ext h, fun h => by rw [h]⟩
  have h2 : (T.bal.1 == U.bal.1) = decide (T.bal = U.bal) := by
    rw [Bool.eq_iff_iff, decide_eq_true_iff]
    simp only [beq_iff_eq]
    exact ⟨fun h => Subtype.ext h, fun h => by rw [h]⟩
  rw [h1, h2]
  unfold sameF
  simp only [Bool.and_assoc]
set_option maxRecDepth 20000 in
set_option maxHeartbeats 4000000 in
theorem same_any (a b : TxA) (w : World) (ha : a.In w w.heap.size) (hb : b.In w w.heap.size) :
    Calls Tryd.prog 14 #[.agg a.cells.toArray, .agg b.cells.toArray] w fun e w' => e = .returned (.bool (sameF a.T b.T)) ∧ Below w.heap.size w w' := by
  obtain ⟨s, hs⟩ : ∃ s, sameF a.T b.T = s := ⟨_, rfl⟩
  have hF := hs.symm.trans (sameF_parts a.T b.T)
  rw [hs]
  obtain ⟨q0, hq0⟩ : ∃ q, (a.T.exp.1 == b.T.exp.1) = q := ⟨_, rfl⟩
  obtain ⟨q1, hq1⟩ : ∃ q, decide (a.T.ins = b.T.ins) = q := ⟨_, rfl⟩
  obtain ⟨q2, hq2⟩ : ∃ q, decide (a.T.outs = b.T.outs) = q := ⟨_, rfl⟩
  obtain ⟨q3, hq3⟩ : ∃ q, decide (a.T.anchor = b.T.anchor) = q := ⟨_, rfl⟩
  obtain ⟨q4, hq4⟩ : ∃ q, decide (a.T.nulls = b.T.nulls) = q := ⟨_, rfl⟩
  obtain ⟨q5, hq5⟩ : ∃ q, decide (a.T.notes = b.T.notes) = q := ⟨_, rfl⟩
  obtain ⟨q6, hq6⟩ : ∃ q, (a.T.bal.1 == b.T.bal.1) = q := ⟨_, rfl⟩
  rw [hq0, hq1, hq2, hq3, hq4, hq5, hq6] at hF
  have HF := Lib.hid hF
  have HQ1 := Lib.hid hq1
  have HQ2 := Lib.hid hq2
  have HQ3 := Lib.hid hq3
  have HQ4 := Lib.hid hq4
  have HQ5 := Lib.hid hq5
  have ST := Lib.hid (show SaS w a b ((w.alloc (.cells a.cells.toArray 29)).alloc (.cells b.cells.toArray 29)) from
    ⟨((Below.refl _ _).alloc (Nat.le_refl _) _).alloc (by simp) _, (Blk.new _ _ _).alloc _, blk_new _ _ (by simp), ha.on (((Below.refl _ _).alloc (Nat.le_refl _) _).alloc (by simp) _) (Nat.le_refl _), hb.on (((Below.refl _ _).alloc (Nat.le_refl _) _).alloc (by simp) _) (Nat.le_refl _)⟩)
  clear hq1 hq2 hq3 hq4 hq5 hs hF ha hb
  have a0 := TxA.c0 (RowC.of_blk ST.out.ka)
  have b0 := TxA.c0 (RowC.of_blk ST.out.kb)
  have a1 := TxA.c1 (RowC.of_blk ST.out.ka)
  have b1 := TxA.c1 (RowC.of_blk ST.out.kb)
  cases q0 with
  | false =>
    go_enter Tryd.func14, Tryd.ntmps14
    go_wp2
    go_ret
    exact ⟨by rw [HF.out]; rfl, ST.out.below⟩
  | true =>
    go_enter Tryd.func14, Tryd.ntmps14
    go_wp2_with fail
    clear a0 b0 a1 b1
    refine (sEqPt_any _ _ _ _ _ _ _ ST.out.ia.ins ST.out.ib.ins).mono ?_
    rintro e w1 ⟨rfl, hb⟩
    rw [HQ1.out]
    have ST' := Lib.hid (ST.out.call hb)
    clear hb ST
    have ST := ST'
    clear ST' HQ1
    have a2 := TxA.c2 (RowC.of_blk ST.out.ka)
    have b2 := TxA.c2 (RowC.of_blk ST.out.kb)
    cases q1 with
    | false =>
      go_wp2
      go_ret
      exact ⟨by rw [HF.out]; rfl, ST.out.below⟩
    | true =>
      go_wp2_with fail
      clear a2 b2
      refine (sEqOut_any _ _ _ _ _ _ _ ST.out.ia.outs ST.out.ib.outs).mono ?_
      rintro e w2 ⟨rfl, hb⟩
      rw [HQ2.out]
      have ST' := Lib.hid (ST.out.call hb)
      clear hb ST
      have ST := ST'
      clear ST' HQ2
      have a4 := TxA.c4 (RowC.of_blk ST.out.ka)
      have b4 := TxA.c4 (RowC.of_blk ST.out.kb)
      cases q2 with
      | false =>
        go_wp2
        go_ret
        exact ⟨by rw [HF.out]; rfl, ST.out.below⟩
      | true =>
        have KA := Lib.hid (TxA.c3 (RowC.of_blk ST.out.ka))
        have KB := Lib.hid (TxA.c3 (RowC.of_blk ST.out.kb))
        cases q3 with
        | false =>
          go_wp2_with (first
            | ((with_reducible refine at_loadg 25 ?_); refine tyKy.wpList_load (by rfl) (.tmp 25) rfl w.heap.size 3 rfl a.T.anchor KA.out ?_)
            | ((with_reducible refine at_loadg 27 ?_); refine tyKy.wpList_load (by rfl) (.tmp 27) rfl (w.heap.size + 1) 3 rfl b.T.anchor KB.out ?_)
            | ((with_reducible refine at_eqlg 26 28 ?_); refine wpList_eql_rowg (by rfl) 26 26 (.tmp 26) (.tmp 28) rfl (encK a.T.anchor).toArray (encK b.T.anchor).toArray rfl rfl (by kernel_rfl) false (fun V => (eqKy_run _ _ V).trans (by rw [HQ3.out])) ?_; simp only [Act.put, List.setIfInBounds_toArray, List.set_cons_succ, List.set_cons_zero]))
          go_ret
          exact ⟨by rw [HF.out]; rfl, ST.out.below⟩
        | true =>
          go_wp2_with (first
            | ((with_reducible refine at_loadg 25 ?_); refine tyKy.wpList_load (by rfl) (.tmp 25) rfl w.heap.size 3 rfl a.T.anchor KA.out ?_)
            | ((with_reducible refine at_loadg 27 ?_); refine tyKy.wpList_load (by rfl) (.tmp 27) rfl (w.heap.size + 1) 3 rfl b.T.anchor KB.out ?_)
            | ((with_reducible refine at_eqlg 26 28 ?_); refine wpList_eql_rowg (by rfl) 26 26 (.tmp 26) (.tmp 28) rfl (encK a.T.anchor).toArray (encK b.T.anchor).toArray rfl rfl (by kernel_rfl) true (fun V => (eqKy_run _ _ V).trans (by rw [HQ3.out])) ?_; simp only [Act.put, List.setIfInBounds_toArray, List.set_cons_succ, List.set_cons_zero]))
          clear a4 b4 KA KB
          refine (sEqKy_any _ _ _ _ _ _ _ ST.out.ia.nulls ST.out.ib.nulls).mono ?_
          rintro e w4 ⟨rfl, hb⟩
          rw [HQ4.out]
          have ST' := Lib.hid (ST.out.call hb)
          clear hb ST
          have ST := ST'
          clear ST' HQ4
          have a5 := TxA.c5 (RowC.of_blk ST.out.ka)
          have b5 := TxA.c5 (RowC.of_blk ST.out.kb)
          cases q4 with
          | false =>
            go_wp2
            go_ret
            exact ⟨by rw [HF.out]; rfl, ST.out.below⟩
          | true =>
            go_wp2_with fail
            clear a5 b5
            refine (sEqKy_any _ _ _ _ _ _ _ ST.out.ia.notes ST.out.ib.notes).mono ?_
            rintro e w5 ⟨rfl, hb⟩
            rw [HQ5.out]
            have ST' := Lib.hid (ST.out.call hb)
            clear hb ST
            have ST := ST'
            clear ST' HQ5
            have a6 := TxA.c6 (RowC.of_blk ST.out.ka)
            have b6 := TxA.c6 (RowC.of_blk ST.out.kb)
            cases q5 with
            | false =>
              go_wp2
              go_ret
              exact ⟨by rw [HF.out]; rfl, ST.out.below⟩
            | true =>
              go_wp2
              go_ret
              exact ⟨by rw [HF.out]; rfl, ST.out.below⟩
end Go.Proofs.YtgcopgnkfokphaaDoor
