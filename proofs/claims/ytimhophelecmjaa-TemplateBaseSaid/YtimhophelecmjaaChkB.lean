/- The document's functions of layer 11. Written by genChB.py. -/
import Derived.Test.YtimhophelecmjaaChkA
namespace Go.Proofs.Ytimhophelecmjaa
open Go.RowKit
theorem chInfo : (Try.prog.info? 2).map (fun i => (i.zero, i.size, i.bytes)) = some (some (.int .i64 0), 1, 8) := by kernel_rfl
theorem any_take_succ {α : Type} {p : α → Bool} {l : List α} {j : Nat} (hj : j < l.length) : (l.take (j + 1)).any p = ((l.take j).any p || p l[j]) := by
  rw [List.take_succ_eq_append_getElem hj, List.any_append]
  simp
set_option maxRecDepth 20000 in
set_option maxHeartbeats 4000000 in
theorem rZero_k (a : TxA) (w : World) (ha : a.In w w.heap.size) (hn : a.T.ins.length ≤ 1000) :
    Calls Try.prog 13 #[.agg a.cells.toArray] w fun e w' => e = .returned (.bool (zeroIn a.T)) ∧ Below w.heap.size w w' := by
  have H0 := Lib.hid (show Holds w [(w.heap.size, 29, a.cells.toArray)] (w.alloc (.cells a.cells.toArray 29)) from (Holds.nil w).box 29 a.cells.toArray)
  have IN := Lib.hid ha
  obtain ⟨z, hz⟩ : ∃ z, zeroIn a.T = z := ⟨_, rfl⟩
  rw [hz]
  have HZ := Lib.hid hz
  have hm0 : a.T.ins.length ≤ 9223372036854775807 := by omega
  clear hz ha
  go_enter Try.func13, Try.ntmps13
  go_wp2_with fail
  go_loopw [3] (fun si wr => ∃ j : Nat, si = .int .i64 j ∧ j ≤ a.T.ins.length ∧ Hid ((a.T.ins.take j).any (fun p => decide (p.1 = zeroKey)) = false) ∧ Hid (Holds w [(w.heap.size, 29, a.cells.toArray)] wr)) (fun si _ => a.T.ins.length - (intOf si).toNat)
  case atStart => exact ⟨0, rfl, Nat.zero_le _, Lib.hid rfl, H0⟩
  case round =>
    clear H0
    obtain ⟨j, rfl, hj, HJ, HH⟩ := hrel
    have k1 : wr.cell? ⟨w.heap.size, 1, none⟩ = some (.slice a.Ai a.T.ins.length a.ci) := TxA.c1 (RowC.of_blk (HH.out.at (x := (w.heap.size, 29, a.cells.toArray)) (by simp)))
    by_cases hlt : j < a.T.ins.length
    · have hd : decide ((j : Int) < (a.T.ins.length : Int)) = true := by simp; omega
      have hi0 : (0 : Int) ≤ (j : Int) := by omega
      have hi1 : (j : Int) < (a.T.ins.length : Int) := by omega
      obtain ⟨g, o, hA, hg, hc⟩ := (IN.out.on HH.out.below (Nat.le_refl _)).ins.at (encKI_len _) hlt
      obtain ⟨x, hx⟩ : ∃ x, a.T.ins[j]'hlt = x := ⟨_, rfl⟩
      rw [hx] at hc
      have HX := Lib.hid hc
      have HT := Lib.hid (any_take_succ (p := fun p : PtC => decide (p.1 = zeroKey)) hlt)
      rw [hx] at HT
      rw [hA] at k1
      obtain ⟨q, hq⟩ : ∃ q, decide (x.1 = zeroKey) = q := ⟨_, rfl⟩
      rw [hq] at HT
      have HQ := Lib.hid hq
      have HLT := Lib.hid hlt
      clear hc hx hq hA hg
      cases q with
      | true =>
        have HR := Lib.hid (show z = true by
          rw [← HZ.out]
          unfold zeroIn
          exact List.any_eq_true.2 (by
            have h1 := HT.out
            rw [Bool.or_true] at h1
            obtain ⟨y, hy, hp⟩ := List.any_eq_true.1 h1
            exact ⟨y, List.mem_of_mem_take hy, hp⟩))
        go_wp2_with (first
          | ((with_reducible refine at_load 15 ?_); refine tyKc.wpList_load rfl (.tmp 15) rfl g (o + j * 33) rfl x.1 (RowC.ki_key HX.out) ?_)
          | ((with_reducible refine at_build 17 ?_); refine wpList_built rfl 24 #[] rfl (encK zeroKey).toArray (by kernel_rfl) ?_)
          | ((with_reducible refine at_eqlg 16 17 ?_); refine wpList_eql_rowg (by rfl) 24 24 (.tmp 16) (.tmp 17) rfl (encK x.1).toArray (encK zeroKey).toArray rfl rfl (by kernel_rfl) true (fun V => (eqKy_run _ _ V).trans (by rw [HQ.out])) ?_; simp only [Act.put, List.setIfInBounds_toArray, List.set_cons_succ, List.set_cons_zero]))
        go_ret
        exact ⟨by rw [HR.out]; rfl, HH.out.below⟩
      | false =>
        have HJ2 := Lib.hid (show (a.T.ins.take (j + 1)).any (fun p => decide (p.1 = zeroKey)) = false by rw [HT.out, HJ.out]; rfl)
        go_wp2_with (first
          | ((with_reducible refine at_load 15 ?_); refine tyKc.wpList_load rfl (.tmp 15) rfl g (o + j * 33) rfl x.1 (RowC.ki_key HX.out) ?_)
          | ((with_reducible refine at_build 17 ?_); refine wpList_built rfl 24 #[] rfl (encK zeroKey).toArray (by kernel_rfl) ?_)
          | ((with_reducible refine at_eqlg 16 17 ?_); refine wpList_eql_rowg (by rfl) 24 24 (.tmp 16) (.tmp 17) rfl (encK x.1).toArray (encK zeroKey).toArray rfl rfl (by kernel_rfl) false (fun V => (eqKy_run _ _ V).trans (by rw [HQ.out])) ?_; simp only [Act.put, List.setIfInBounds_toArray, List.set_cons_succ, List.set_cons_zero]))
        go_roundw
        case rel => exact ⟨j + 1, by go_num, HLT.out, HJ2, HH⟩
        case measure => have := HLT.out; simp [intOf]; omega
    · have hd : decide ((j : Int) < (a.T.ins.length : Int)) = false := by simp; omega
      have HR := Lib.hid (show z = false by
        rw [← HZ.out]
        have := HJ.out
        rwa [List.take_of_length_le (by omega)] at this)
      go_wp2_with fail
      go_ret
      exact ⟨by rw [HR.out]; rfl, HH.out.below⟩
set_option maxRecDepth 20000 in
set_option maxHeartbeats 4000000 in
theorem rValues_k (a : TxA) (w : World) (ha : a.In w w.heap.size) (hn : a.T.outs.length ≤ 1000) :
    Calls Try.prog 17 #[.agg a.cells.toArray] w fun e w' => ∃ A c, e = .returned (.slice A (valsV a.T).length c) ∧ RowIn (enc1 .i64) 1 w' w'.heap.size A c (valsV a.T) ∧ Below w.heap.size w w' := by
  have H0 := Lib.hid (show Holds w [(w.heap.size, 29, a.cells.toArray)] ((w.alloc (.cells a.cells.toArray 29)).alloc (.cells #[] 2)) from ((Holds.nil w).box 29 a.cells.toArray).alloc _)
  have O0 := Lib.hid (show World.ownsRow ((w.alloc (.cells a.cells.toArray 29)).alloc (.cells #[] 2)) (w.heap.size + 1) 2 1 (.slice (some ⟨w.heap.size + 1, 0, none⟩) 0 0) 0 (ints ((valsF a.T).take 0)) from ⟨by simp [ints], .inr ⟨w.heap.size + 1, 0, #[], rfl, Nat.le_refl _, blk_new (g := w.heap.size + 1) 2 #[] (by simp), Nat.le_refl _, Nat.zero_le _, by simp, by simp [ints]⟩⟩)
  have IN := Lib.hid ha
  have HVL := Lib.hid (show (valsF a.T).length = a.T.outs.length by unfold valsF; rw [List.length_map])
  have HN := Lib.hid hn
  have hm0 : a.T.outs.length ≤ 9223372036854775807 := by omega
  clear ha
  go_enter Try.func17, Try.ntmps17
  go_wp2_with fail
  go_loopw [3, 4] (fun so si wr => ∃ j : Nat, si = .int .i64 j ∧ j ≤ a.T.outs.length ∧ Hid (wr.ownsRow (w.heap.size + 1) 2 1 so j (ints ((valsF a.T).take j))) ∧ Hid (Holds w [(w.heap.size, 29, a.cells.toArray)] wr)) (fun _ si _ => a.T.outs.length - (intOf si).toNat)
  case atStart => exact ⟨0, rfl, Nat.zero_le _, O0, H0⟩
  case round =>
    clear H0 O0
    obtain ⟨j, rfl, hj, HO, HH⟩ := hrel
    have k1 : wr.cell? ⟨w.heap.size, 2, none⟩ = some (.slice a.Ao a.T.outs.length a.co) := TxA.c2 (RowC.of_blk (HH.out.at (x := (w.heap.size, 29, a.cells.toArray)) (by simp)))
    by_cases hlt : j < a.T.outs.length
    · have hd : decide ((j : Int) < (a.T.outs.length : Int)) = true := by simp; omega
      have hi0 : (0 : Int) ≤ (j : Int) := by omega
      have hi1 : (j : Int) < (a.T.outs.length : Int) := by omega
      obtain ⟨g, o, hA, hg, hc⟩ := (IN.out.on HH.out.below (Nat.le_refl _)).outs.at (encIK_len _) hlt
      obtain ⟨x, hx⟩ : ∃ x, a.T.outs[j]'hlt = x := ⟨_, rfl⟩
      rw [hx] at hc
      have k2 : wr.cell? ⟨g, o + j * 33, none⟩ = some (.int .i64 x.1.1) := RowC.ik_int hc
      have HT := Lib.hid (show ints ((valsF a.T).take j) ++ [.int .i64 x.1.1] = ints ((valsF a.T).take (j + 1)) by
        have hlt2 : j < (valsF a.T).length := by rw [HVL.out]; exact hlt
        rw [List.take_succ_eq_append_getElem hlt2]
        unfold ints
        rw [List.map_append]
        have : (valsF a.T)[j] = x.1.1 := by simp only [valsF, List.getElem_map]; rw [hx]
        rw [this]
        rfl)
      rw [hA] at k1
      have HLT := Lib.hid hlt
      have HSZ := Lib.hid (show w.heap.size + 1 ≤ wr.heap.size from (HH.out.at (x := (w.heap.size, 29, a.cells.toArray)) (by simp)).lt)
      clear hc hx hA hg
      go_wp2_with (first
        | ((with_reducible refine at_appendg 21 13 20 ?_); refine wpList_append1g rfl (.tmp 13) (.tmp 20) 51 rfl (w.heap.size + 1) 2 _ 8 Try.underlying51 chInfo rfl (by omega) _ j _ rfl (own_below HO.out ((Below.refl _ _).alloc (Nat.le_refl _) _)) _ 1 (.int .i64 x.1.1) rfl (Blk.new _ _ _) rfl (by have := HN.out; omega) (by have := HSZ.out; simp; omega) ?_; intro v2 w2 o2 g2 _
           rw [HT.out] at o2
           have O2 := Lib.hid o2
           have H2 := Lib.hid (show Holds w [(w.heap.size, 29, a.cells.toArray)] w2 from by
             have hb := (Below.refl (w.heap.size + 1) (wr.alloc (.cells #[.int .i64 x.1.1] 2))).grown g2 (by have := HSZ.out; simp; omega) (own_base (own_below HO.out ((Below.refl _ _).alloc (Nat.le_refl _) (.cells #[.int .i64 x.1.1] 2))))
             exact (HH.out.alloc (.cells #[.int .i64 x.1.1] 2)).low hb (by omega) (by simp))
           clear o2 g2))
      go_roundw
      case rel => exact ⟨j + 1, by go_num, HLT.out, O2, H2⟩
      case measure => have := HLT.out; simp [intOf]; omega
    · have hd : decide ((j : Int) < (a.T.outs.length : Int)) = false := by simp; omega
      have hjl : j = (valsF a.T).length := by rw [HVL.out]; omega
      have h9 := HO.out
      rw [hjl, List.take_length] at h9
      rw [show (valsF a.T).length = (valsV a.T).length by rw [HVL.out, valsV_len], ← vals_cells] at h9
      have hjl2 : j = (valsV a.T).length := by rw [valsV_len]; omega
      obtain ⟨A9, c9, rfl, r9⟩ := RowIn.of_own (enc1_len _) h9
      have R9 := Lib.hid r9
      clear h9 r9
      go_wp2_with fail
      go_ret
      exact ⟨A9, c9, rfl, R9.out, HH.out.below⟩
set_option maxRecDepth 20000 in
set_option maxHeartbeats 4000000 in
theorem rPoints_k (A : Option Addr) (c : Nat) (l : List PtC) (w : World) (hl : RowIn (encKI .u32) 33 w w.heap.size A c l) (hn : l.length ≤ 1000) :
    Calls Try.prog 14 #[.slice A l.length c] w fun e w' => e = .returned (.bool (decide l.Nodup)) ∧ Below w.heap.size w w' := by
  obtain ⟨z, hz⟩ : ∃ z, decide l.Nodup = z := ⟨_, rfl⟩
  rw [hz]
  have HZ := Lib.hid hz
  have HL := Lib.hid hl
  have hm0 : l.length ≤ 9223372036854775807 := by omega
  clear hz hl
  go_enter Try.func14, Try.ntmps14
  go_wp2_with fail
  go_loopw [3, 4] (fun si _ wr => ∃ i : Nat, si = .int .i64 i ∧ i ≤ l.length ∧ Hid ((l.take i).Nodup) ∧ Hid (Below w.heap.size w wr)) (fun si _ _ => l.length - (intOf si).toNat)
  case atStart => exact ⟨0, rfl, Nat.zero_le _, Lib.hid (by simp), Lib.hid (Below.refl _ _)⟩
  case round =>
    obtain ⟨i, rfl, hi, HI, HB0⟩ := hrel
    obtain ⟨wo, rfl⟩ : ∃ q, q = wr := ⟨_, rfl⟩
    by_cases hlt : i < l.length
    · have hd : decide ((i : Int) < (l.length : Int)) = true := by simp; omega
      have hi0 : (0 : Int) ≤ (i : Int) := by omega
      have hi1 : (i : Int) < (l.length : Int) := by omega
      have HLT := Lib.hid hlt
      go_wp2_with fail
      go_loopw [4] (fun sk wr => ∃ k : Nat, sk = .int .i64 k ∧ k ≤ i ∧ Hid (∀ q (h : q < k) (h2 : k ≤ i), l[q]'(by have := HLT.out; omega) ≠ l[i]'(HLT.out)) ∧ Hid (Below w.heap.size w wr)) (fun sk _ => i - (intOf sk).toNat)
      case atStart => exact ⟨0, rfl, Nat.zero_le _, Lib.hid (fun q h _ => absurd h (Nat.not_lt_zero _)), HB0⟩
      case round =>
        obtain ⟨k, rfl, hk, HK, HB⟩ := hrel
        by_cases hki : k < i
        · have hd2 : decide ((k : Int) < (i : Int)) = true := by simp; omega
          have hk0 : (0 : Int) ≤ (k : Int) := by omega
          have hk1 : (k : Int) < (l.length : Int) := by omega
          have hkl : k < l.length := by omega
          obtain ⟨g, o, hA, hg, hc⟩ := (HL.out.below HB.out).at (encKI_len _) hlt
          obtain ⟨g2, o2, hA2, _, hc2⟩ := (HL.out.below HB.out).at (encKI_len _) hkl
          rw [hA] at hA2
          obtain ⟨rfl, rfl⟩ : g = g2 ∧ o = o2 := by injection hA2 with h1; injection h1 with h1 h2; exact ⟨h1, h2⟩
          obtain ⟨x, hx⟩ : ∃ x, l[i]'hlt = x := ⟨_, rfl⟩
          obtain ⟨y, hy⟩ : ∃ y, l[k]'hkl = y := ⟨_, rfl⟩
          rw [hx] at hc
          rw [hy] at hc2
          have HXY := Lib.hid (And.intro hx hy)
          have hgw : g < wr.heap.size := by have := HB.out.size; omega
          have RX := Lib.hid (show ∀ W, From wr W → RowC W g (o + i * 33) (encKI .u32 x) from fun W hC => hc.below hC.below hgw)
          have RY := Lib.hid (show ∀ W, From wr W → RowC W g (o + k * 33) (encKI .u32 y) from fun W hC => hc2.below hC.below hgw)
          obtain ⟨q, hq⟩ : ∃ q, decide (x = y) = q := ⟨_, rfl⟩
          have HQ := Lib.hid hq
          have HKI := Lib.hid hki
          subst hA
          clear hc hc2 hx hy hq hg hgw hA2
          go_wp2_with fail
          cases q with
          | true =>
            refine wp_region_from (by kernel_rfl) (by kernel_rfl) ?_
            repeat (first
              | ((with_reducible refine at_qload 18 ?_); refine tyPt.wpQuiet_load (by rfl) (.tmp 18) rfl (g) (o + i * 33) rfl (x) (RX.out) ?_; simp only [Act.put, List.setIfInBounds_toArray, List.set_cons_succ, List.set_cons_zero])
              | ((with_reducible refine at_qload 22 ?_); refine tyPt.wpQuiet_load (by rfl) (.tmp 22) rfl (g) (o + k * 33) rfl (y) (RY.out) ?_; simp only [Act.put, List.setIfInBounds_toArray, List.set_cons_succ, List.set_cons_zero])
              | ((with_reducible refine at_qeql 19 23 ?_); refine wpQuiet_eql_row (by rfl) 43 43 (.tmp 19) (.tmp 23) rfl (encKI .u32 x).toArray (encKI .u32 y).toArray rfl rfl (by kernel_rfl) true (fun V => (eqPt_run _ _ V).trans (by rw [HQ.out])) ?_; simp only [Act.put, List.setIfInBounds_toArray, List.set_cons_succ, List.set_cons_zero])
              | (go_big_quiet_want; go_big_quiet_op; refine ⟨_, fun _ _ => by with_reducible rfl, ?_⟩; go_big_quiet_on)
              | go_big_quiet_step (fail))
            refine wpQuiet_nil ?_
            intro w9 hC
            have B9 := Lib.hid (HB.out.trans (hC.below.mono HB.out.size))
            clear hC RX RY HB
            have HR := Lib.hid (show z = false by
              rw [← HZ.out, decide_eq_false_iff_not]
              intro hnd
              have h1 := List.pairwise_iff_getElem.1 hnd k i (by have := HLT.out; have := HKI.out; omega) HLT.out HKI.out
              rw [HXY.out.1, HXY.out.2] at h1
              exact h1 (of_decide_eq_true HQ.out).symm)
            go_wp2_with fail
            go_ret
            exact ⟨by rw [HR.out]; rfl, B9.out⟩
          | false =>
            refine wp_region_from (by kernel_rfl) (by kernel_rfl) ?_
            repeat (first
              | ((with_reducible refine at_qload 18 ?_); refine tyPt.wpQuiet_load (by rfl) (.tmp 18) rfl (g) (o + i * 33) rfl (x) (RX.out) ?_; simp only [Act.put, List.setIfInBounds_toArray, List.set_cons_succ, List.set_cons_zero])
              | ((with_reducible refine at_qload 22 ?_); refine tyPt.wpQuiet_load (by rfl) (.tmp 22) rfl (g) (o + k * 33) rfl (y) (RY.out) ?_; simp only [Act.put, List.setIfInBounds_toArray, List.set_cons_succ, List.set_cons_zero])
              | ((with_reducible refine at_qeql 19 23 ?_); refine wpQuiet_eql_row (by rfl) 43 43 (.tmp 19) (.tmp 23) rfl (encKI .u32 x).toArray (encKI .u32 y).toArray rfl rfl (by kernel_rfl) false (fun V => (eqPt_run _ _ V).trans (by rw [HQ.out])) ?_; simp only [Act.put, List.setIfInBounds_toArray, List.set_cons_succ, List.set_cons_zero])
              | (go_big_quiet_want; go_big_quiet_op; refine ⟨_, fun _ _ => by with_reducible rfl, ?_⟩; go_big_quiet_on)
              | go_big_quiet_step (fail))
            refine wpQuiet_nil ?_
            intro w9 hC
            have B9 := Lib.hid (HB.out.trans (hC.below.mono HB.out.size))
            clear hC RX RY HB
            have HK2 := Lib.hid (show ∀ q (h : q < k + 1) (h2 : k + 1 ≤ i), l[q]'(by have := HLT.out; omega) ≠ l[i]'(HLT.out) from fun q h h2 => by
              by_cases e : q = k
              · subst e
                have h3 := HXY.out
                rw [h3.1, h3.2]
                exact fun e => of_decide_eq_false HQ.out e.symm
              · exact HK.out q (by omega) (by omega))
            go_wp2_with fail
            go_roundw
            case rel => exact ⟨k + 1, by go_num, HKI.out, HK2, B9⟩
            case measure => have := HKI.out; simp [intOf]; omega
        · have hd2 : decide ((k : Int) < (i : Int)) = false := by simp; omega
          have hki2 : k = i := by omega
          subst hki2
          have HI2 := Lib.hid (show (l.take (k + 1)).Nodup by
            rw [List.take_succ_eq_append_getElem HLT.out, List.nodup_append]
            refine ⟨HI.out, by simp, fun x hx y hy => ?_⟩
            rw [List.mem_singleton] at hy
            subst hy
            obtain ⟨q, hq, rfl⟩ := List.getElem_of_mem hx
            rw [List.getElem_take]
            exact HK.out q (by rw [List.length_take] at hq; omega) (Nat.le_refl _))
          go_wp2_with fail
          go_roundw
          case rel => exact ⟨k + 1, by go_num, HLT.out, HI2, HB⟩
          case measure => have := HLT.out; simp [intOf]; omega
    · have hd : decide ((i : Int) < (l.length : Int)) = false := by simp; omega
      have HR := Lib.hid (show z = true by
        rw [← HZ.out]
        have := HI.out
        rw [List.take_of_length_le (by omega)] at this
        exact decide_eq_true this)
      go_wp2_with fail
      go_ret
      exact ⟨by rw [HR.out]; rfl, HB0.out⟩
end Go.Proofs.Ytimhophelecmjaa
