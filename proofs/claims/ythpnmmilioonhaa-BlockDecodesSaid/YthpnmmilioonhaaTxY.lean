/- The document's Same. Written by genSame.py. -/
import Derived.Test.YthpnmmilioonhaaTxW
import Derived.Test.YthpnmmilioonhaaGenA
namespace Go.Proofs.Ythpnmmilioonhaa
open Go.RowKit
theorem eqPt_run (x y : K32 × IntV .u32) (V : World) : (Op.equal 49 (.agg (encKI .u32 x).toArray) (.agg (encKI .u32 y).toArray)).run Try.prog V = .ok (decide (x = y)) V :=
  run_eq_KI (f0 := (Try.prog.fieldsOf 49)[0]!) (f1 := (Try.prog.fieldsOf 49)[1]!) V (by kernel_rfl) (by kernel_rfl) (by decide +kernel) (by decide +kernel) (by kernel_rfl) (by kernel_rfl) (by kernel_rfl) (by kernel_rfl) Try.underlying24 Try.underlying5 (by kernel_rfl) (by kernel_rfl) Try.underlying25 x y
theorem eqOut_run (x y : IntV .i64 × K32) (V : World) : (Op.equal 92 (.agg (encIK .i64 x).toArray) (.agg (encIK .i64 y).toArray)).run Try.prog V = .ok (decide (x = y)) V :=
  run_eq_IK (f0 := (Try.prog.fieldsOf 92)[0]!) (f1 := (Try.prog.fieldsOf 92)[1]!) V (by kernel_rfl) (by kernel_rfl) (by decide +kernel) (by decide +kernel) (by kernel_rfl) (by kernel_rfl) (by kernel_rfl) (by kernel_rfl) Try.underlying24 Try.underlying5 (by kernel_rfl) (by kernel_rfl) Try.underlying2 x y
theorem take_eq_succ {α : Type} {l m : List α} {j : Nat} (h : l.take j = m.take j) (h1 : j < l.length) (h2 : j < m.length) (he : l[j] = m[j]) : l.take (j + 1) = m.take (j + 1) := by
  rw [List.take_succ_eq_append_getElem h1, List.take_succ_eq_append_getElem h2, h, he]
theorem txv_ext {T U : TxV} (h1 : T.exp = U.exp) (h2 : T.ins = U.ins) (h3 : T.outs = U.outs) (h4 : T.anchor = U.anchor) (h5 : T.nulls = U.nulls) (h6 : T.notes = U.notes) (h7 : T.bal = U.bal) : T = U := by
  cases T; cases U
  simp only at h1 h2 h3 h4 h5 h6 h7
  subst h1 h2 h3 h4 h5 h6 h7
  rfl
theorem intv_ext {q : IntKind} {x y : IntV q} (h : x.1 = y.1) : x = y := Subtype.ext h
set_option maxRecDepth 20000 in
set_option maxHeartbeats 4000000 in
theorem refSame_any (a b : TxA) (w : World) (ha : a.In w w.heap.size) (hb : b.In w w.heap.size) :
    Calls Try.prog 37 #[.agg a.cells.toArray, .agg b.cells.toArray] w fun e w' => e = .returned (.bool (sameF a.T b.T)) ∧ Below w.heap.size w w' := by
  have hA : RowC ((w.alloc (.cells a.cells.toArray 44)).alloc (.cells b.cells.toArray 44)) w.heap.size 0 a.cells := RowC.of_blk ((Blk.new _ _ _).alloc _)
  have hB : RowC ((w.alloc (.cells a.cells.toArray 44)).alloc (.cells b.cells.toArray 44)) (w.heap.size + 1) 0 b.cells := RowC.of_blk (blk_new _ _ (by simp))
  have B0 : Below w.heap.size w ((w.alloc (.cells a.cells.toArray 44)).alloc (.cells b.cells.toArray 44)) := ((Below.refl _ _).alloc (Nat.le_refl _) _).alloc (by simp) _
  have a0 := TxA.c0 hA
  have a1 := TxA.c1 hA
  have a2 := TxA.c2 hA
  have a4 := TxA.c4 hA
  have a5 := TxA.c5 hA
  have a6 := TxA.c6 hA
  have b0 := TxA.c0 hB
  have b1 := TxA.c1 hB
  have b2 := TxA.c2 hB
  have b4 := TxA.c4 hB
  have b5 := TxA.c5 hB
  have b6 := TxA.c6 hB
  obtain ⟨r, hr⟩ : ∃ r, decide (a.T.anchor = b.T.anchor) = r := ⟨_, rfl⟩
  have hF : ∀ P : Prop, (a.T.exp.1 = b.T.exp.1 ∧ (a.T.ins.length : Int) = (b.T.ins.length : Int) ∧ (a.T.outs.length : Int) = (b.T.outs.length : Int) ∧ r = true ∧ (a.T.nulls.length : Int) = (b.T.nulls.length : Int) ∧ (a.T.notes.length : Int) = (b.T.notes.length : Int) ∧ (a.T.bal.1 != b.T.bal.1) = false → False) → Ending.returned (Value.bool false) = .returned (.bool (sameF a.T b.T)) := fun P h => by
    have : sameF a.T b.T = false := by
      cases hs : sameF a.T b.T with
      | false => rfl
      | true =>
        have e := (sameF_iff _ _).1 hs
        exact absurd ⟨by rw [e], by rw [e], by rw [e], by rw [← hr, e]; simp, by rw [e], by rw [e], by rw [e]; simp⟩ h
    rw [this]
  obtain ⟨s, hs⟩ : ∃ s, sameF a.T b.T = s := ⟨_, rfl⟩
  rw [hs] at hF ⊢
  have HS := Lib.hid hs
  have HF := Lib.hid (hF True)
  have KA := Lib.hid (TxA.c3 hA)
  have KB := Lib.hid (TxA.c3 hB)
  have HR := Lib.hid hr
  have HA := Lib.hid hA
  have HB := Lib.hid hB
  have HB0 := Lib.hid B0
  have IA := Lib.hid ha
  have IB := Lib.hid hb
  clear hA hB hr hF hs B0 ha hb
  go_enter Try.func37, Try.ntmps37
  go_wp2_with (first
    | ((with_reducible refine at_loadg 33 ?_); refine tyKy.wpList_load (by rfl) (.tmp 33) rfl w.heap.size 3 rfl a.T.anchor KA.out ?_)
    | ((with_reducible refine at_loadg 35 ?_); refine tyKy.wpList_load (by rfl) (.tmp 35) rfl (w.heap.size + 1) 3 rfl b.T.anchor KB.out ?_)
    | ((with_reducible refine at_neqlg 34 36 ?_); refine wpList_neq_rowg (by rfl) 24 24 (.tmp 34) (.tmp 36) rfl (encK a.T.anchor).toArray (encK b.T.anchor).toArray rfl rfl (by kernel_rfl) r (fun V => (eqKy_run _ _ V).trans (by rw [HR.out])) ?_; simp only [Act.put, List.setIfInBounds_toArray, List.set_cons_succ, List.set_cons_zero]))
  all_goals try (
    go_ret
    refine ⟨HF.out (fun h => ?_), HB0.out⟩
    obtain ⟨h1, h2, h3, h4, h5, h6, h7⟩ := h
    first | contradiction | exact absurd (h7.symm.trans ‹(a.T.bal.1 != b.T.bal.1) = true›) (by decide))
  rename_i q1 q2 q3 q4 q5 q6 q7 Kz Az
  have Q1 := Lib.hid q1
  have Q4 := Lib.hid q4
  have Q7 := Lib.hid q7
  have Q2 := Lib.hid q2
  have Q3 := Lib.hid q3
  have Q5 := Lib.hid q5
  have Q6 := Lib.hid q6
  clear q1 q2 q3 q4 q5 q6 q7 a0 a1 a2 a4 a5 a6 b0 b1 b2 b4 b5 b6
  have QL0 := Lib.hid (show a.T.ins.length = b.T.ins.length by have := Q2.out; omega)
  have QL1 := Lib.hid (show a.T.outs.length = b.T.outs.length by have := Q3.out; omega)
  have QL2 := Lib.hid (show a.T.nulls.length = b.T.nulls.length by have := Q5.out; omega)
  have QL3 := Lib.hid (show a.T.notes.length = b.T.notes.length by have := Q6.out; omega)
  have hm0 : a.T.ins.length ≤ 9223372036854775807 := by have h1 := IA.out.ins.le; have h2 := IA.out.ins.max; unfold maxLen at h2; omega
  go_loopw [5] (fun i wr => ∃ j : Nat, j ≤ a.T.ins.length ∧ i = .int .i64 j ∧ Hid (a.T.ins.take j = b.T.ins.take j ∧ Below ((w.alloc (.cells a.cells.toArray 44)).alloc (.cells b.cells.toArray 44)).heap.size ((w.alloc (.cells a.cells.toArray 44)).alloc (.cells b.cells.toArray 44)) wr)) (fun i _ => a.T.ins.length - (intOf i).toNat)
  case atStart => exact ⟨0, Nat.zero_le _, rfl, Lib.hid ⟨rfl, Below.refl _ _⟩⟩
  case round =>
    obtain ⟨j, hj, rfl, hx⟩ := hrel
    have cc := TxA.c1 (HA.out.below hx.out.2 (by simp; omega))
    by_cases hlt : j < a.T.ins.length
    · have hltb : j < b.T.ins.length := by have := QL0.out; omega
      have hin := IA.out.ins.below (HB0.out.trans (hx.out.2.mono HB0.out.size))
      have hinb := IB.out.ins.below (HB0.out.trans (hx.out.2.mono HB0.out.size))
      obtain ⟨g1, o1, e1, l1, rc1⟩ := hin.at (encKI_len _) hlt
      obtain ⟨g2, o2, e2, l2, rc2⟩ := hinb.at (encKI_len _) hltb
      have z0 := (HB0.out.trans (hx.out.2.mono HB0.out.size)).size
      have zr := hx.out.2.size
      have CA := Lib.hid (fun (w' : World) (hC : From wr w') => (show w'.cell? ⟨w.heap.size, 1, none⟩ = some (.slice (some ⟨g1, o1, none⟩) a.T.ins.length a.ci) by rw [← e1]; exact TxA.c1 ((HA.out.below hx.out.2 (by simp; omega)).below hC.below (by simp at zr; omega))))
      have CB := Lib.hid (fun (w' : World) (hC : From wr w') => (show w'.cell? ⟨w.heap.size + 1, 1, none⟩ = some (.slice (some ⟨g2, o2, none⟩) b.T.ins.length b.ci) by rw [← e2]; exact TxA.c1 ((HB.out.below hx.out.2 (by simp)).below hC.below (by simp at zr; omega))))
      have RA := Lib.hid (fun (w' : World) (hC : From wr w') => rc1.below hC.below (by omega))
      have RB := Lib.hid (fun (w' : World) (hC : From wr w') => rc2.below hC.below (by omega))
      clear hin hinb e1 e2 rc1 rc2 z0 zr
      go_wp2_with fail
      obtain ⟨q, hq⟩ : ∃ q, decide (a.T.ins[j] = b.T.ins[j]) = q := ⟨_, rfl⟩
      have HQ := Lib.hid hq
      clear hq
      refine wp_region_from (by kernel_rfl) (by kernel_rfl) ?_
      repeat (first
        | go_big_quiet_skip
        | ((with_reducible refine at_qload 71 ?_); refine wpQuiet_load_one (by rfl) 40 (.tmp 71) rfl ⟨w.heap.size, 1, none⟩ rfl _ Try.isAgg40 CA.out ?_; simp only [Act.put, List.setIfInBounds_toArray, List.set_cons_succ, List.set_cons_zero])
        | ((with_reducible refine at_qload 76 ?_); refine wpQuiet_load_one (by rfl) 40 (.tmp 76) rfl ⟨w.heap.size + 1, 1, none⟩ rfl _ Try.isAgg40 CB.out ?_; simp only [Act.put, List.setIfInBounds_toArray, List.set_cons_succ, List.set_cons_zero])
        | ((with_reducible refine at_qload 74 ?_); refine tyPt.wpQuiet_load (by rfl) (.tmp 74) rfl g1 (o1 + j * 33) rfl a.T.ins[j] RA.out ?_; simp only [Act.put, List.setIfInBounds_toArray, List.set_cons_succ, List.set_cons_zero])
        | ((with_reducible refine at_qload 79 ?_); refine tyPt.wpQuiet_load (by rfl) (.tmp 79) rfl g2 (o2 + j * 33) rfl b.T.ins[j] RB.out ?_; simp only [Act.put, List.setIfInBounds_toArray, List.set_cons_succ, List.set_cons_zero])
        | ((with_reducible refine at_qneq 75 80 ?_); refine wpQuiet_neq_row (by rfl) 49 49 (.tmp 75) (.tmp 80) rfl (encKI .u32 a.T.ins[j]).toArray (encKI .u32 b.T.ins[j]).toArray rfl rfl (by kernel_rfl) q (fun V => (eqPt_run _ _ V).trans (by rw [HQ.out])) ?_; simp only [Act.put, List.setIfInBounds_toArray, List.set_cons_succ, List.set_cons_zero])
        | (go_big_quiet_want; go_big_quiet_op; refine ⟨_, fun _ _ => by with_reducible rfl, ?_⟩; go_big_quiet_on)
        | go_big_quiet_step (fail))
      refine wpQuiet_nil ?_
      intro w9 hC
      have B9 := Lib.hid (hx.out.2.trans (hC.below.mono hx.out.2.size))
      clear hC CA CB RA RB
      cases q with
      | false =>
        have HE := Lib.hid (show s = false by
          cases hsv : s with
          | false => rfl
          | true =>
            have e := (sameF_iff _ _).1 (HS.out.trans hsv)
            have hn : a.T.ins[j] ≠ b.T.ins[j] := by simpa using HQ.out
            have hs2 : a.T.ins = b.T.ins := by rw [e]
            exact absurd (by simp only [hs2]) hn)
        go_wp2_with fail
        go_ret
        refine ⟨?_, HB0.out.trans (B9.out.mono HB0.out.size)⟩
        rw [HE.out]
        rfl
      | true =>
        go_wp2_with fail
        go_roundw
        case rel => exact ⟨j + 1, by omega, by go_num, Lib.hid ⟨take_eq_succ hx.out.1 hlt hltb (by simpa using HQ.out), B9.out⟩⟩
        case measure => simp [intOf]; omega
    · have HE0 := Lib.hid (show a.T.ins = b.T.ins by
        have h1 := hx.out.1
        have hjl : j = a.T.ins.length := by omega
        rw [List.take_of_length_le (by omega), List.take_of_length_le (by have := QL0.out; omega)] at h1
        exact h1)
      have bPrev := Lib.hid hx.out.2
      clear hx hj
      have hdd : decide ((j : Int) < a.T.ins.length) = false := by simp; omega
      go_wp2_with fail
      clear hdd hlt cc
      have hm1 : a.T.outs.length ≤ 9223372036854775807 := by have h1 := IA.out.outs.le; have h2 := IA.out.outs.max; unfold maxLen at h2; omega
      go_loopw [6] (fun i wr => ∃ j : Nat, j ≤ a.T.outs.length ∧ i = .int .i64 j ∧ Hid (a.T.outs.take j = b.T.outs.take j ∧ Below ((w.alloc (.cells a.cells.toArray 44)).alloc (.cells b.cells.toArray 44)).heap.size ((w.alloc (.cells a.cells.toArray 44)).alloc (.cells b.cells.toArray 44)) wr)) (fun i _ => a.T.outs.length - (intOf i).toNat)
      case atStart => exact ⟨0, Nat.zero_le _, rfl, Lib.hid ⟨rfl, bPrev.out⟩⟩
      case round =>
        obtain ⟨j, hj, rfl, hx⟩ := hrel
        clear bPrev
        have cc := TxA.c2 (HA.out.below hx.out.2 (by simp; omega))
        by_cases hlt : j < a.T.outs.length
        · have hltb : j < b.T.outs.length := by have := QL1.out; omega
          have hin := IA.out.outs.below (HB0.out.trans (hx.out.2.mono HB0.out.size))
          have hinb := IB.out.outs.below (HB0.out.trans (hx.out.2.mono HB0.out.size))
          obtain ⟨g1, o1, e1, l1, rc1⟩ := hin.at (encIK_len _) hlt
          obtain ⟨g2, o2, e2, l2, rc2⟩ := hinb.at (encIK_len _) hltb
          have z0 := (HB0.out.trans (hx.out.2.mono HB0.out.size)).size
          have zr := hx.out.2.size
          have CA := Lib.hid (fun (w' : World) (hC : From wr w') => (show w'.cell? ⟨w.heap.size, 2, none⟩ = some (.slice (some ⟨g1, o1, none⟩) a.T.outs.length a.co) by rw [← e1]; exact TxA.c2 ((HA.out.below hx.out.2 (by simp; omega)).below hC.below (by simp at zr; omega))))
          have CB := Lib.hid (fun (w' : World) (hC : From wr w') => (show w'.cell? ⟨w.heap.size + 1, 2, none⟩ = some (.slice (some ⟨g2, o2, none⟩) b.T.outs.length b.co) by rw [← e2]; exact TxA.c2 ((HB.out.below hx.out.2 (by simp)).below hC.below (by simp at zr; omega))))
          have RA := Lib.hid (fun (w' : World) (hC : From wr w') => rc1.below hC.below (by omega))
          have RB := Lib.hid (fun (w' : World) (hC : From wr w') => rc2.below hC.below (by omega))
          clear hin hinb e1 e2 rc1 rc2 z0 zr
          go_wp2_with fail
          obtain ⟨q, hq⟩ : ∃ q, decide (a.T.outs[j] = b.T.outs[j]) = q := ⟨_, rfl⟩
          have HQ := Lib.hid hq
          clear hq
          refine wp_region_from (by kernel_rfl) (by kernel_rfl) ?_
          repeat (first
            | go_big_quiet_skip
            | ((with_reducible refine at_qload 89 ?_); refine wpQuiet_load_one (by rfl) 41 (.tmp 89) rfl ⟨w.heap.size, 2, none⟩ rfl _ Try.isAgg41 CA.out ?_; simp only [Act.put, List.setIfInBounds_toArray, List.set_cons_succ, List.set_cons_zero])
            | ((with_reducible refine at_qload 94 ?_); refine wpQuiet_load_one (by rfl) 41 (.tmp 94) rfl ⟨w.heap.size + 1, 2, none⟩ rfl _ Try.isAgg41 CB.out ?_; simp only [Act.put, List.setIfInBounds_toArray, List.set_cons_succ, List.set_cons_zero])
            | ((with_reducible refine at_qload 92 ?_); refine tyOut.wpQuiet_load (by rfl) (.tmp 92) rfl g1 (o1 + j * 33) rfl a.T.outs[j] RA.out ?_; simp only [Act.put, List.setIfInBounds_toArray, List.set_cons_succ, List.set_cons_zero])
            | ((with_reducible refine at_qload 97 ?_); refine tyOut.wpQuiet_load (by rfl) (.tmp 97) rfl g2 (o2 + j * 33) rfl b.T.outs[j] RB.out ?_; simp only [Act.put, List.setIfInBounds_toArray, List.set_cons_succ, List.set_cons_zero])
            | ((with_reducible refine at_qneq 93 98 ?_); refine wpQuiet_neq_row (by rfl) 92 92 (.tmp 93) (.tmp 98) rfl (encIK .i64 a.T.outs[j]).toArray (encIK .i64 b.T.outs[j]).toArray rfl rfl (by kernel_rfl) q (fun V => (eqOut_run _ _ V).trans (by rw [HQ.out])) ?_; simp only [Act.put, List.setIfInBounds_toArray, List.set_cons_succ, List.set_cons_zero])
            | (go_big_quiet_want; go_big_quiet_op; refine ⟨_, fun _ _ => by with_reducible rfl, ?_⟩; go_big_quiet_on)
            | go_big_quiet_step (fail))
          refine wpQuiet_nil ?_
          intro w9 hC
          have B9 := Lib.hid (hx.out.2.trans (hC.below.mono hx.out.2.size))
          clear hC CA CB RA RB
          cases q with
          | false =>
            have HE := Lib.hid (show s = false by
              cases hsv : s with
              | false => rfl
              | true =>
                have e := (sameF_iff _ _).1 (HS.out.trans hsv)
                have hn : a.T.outs[j] ≠ b.T.outs[j] := by simpa using HQ.out
                have hs2 : a.T.outs = b.T.outs := by rw [e]
                exact absurd (by simp only [hs2]) hn)
            go_wp2_with fail
            go_ret
            refine ⟨?_, HB0.out.trans (B9.out.mono HB0.out.size)⟩
            rw [HE.out]
            rfl
          | true =>
            go_wp2_with fail
            go_roundw
            case rel => exact ⟨j + 1, by omega, by go_num, Lib.hid ⟨take_eq_succ hx.out.1 hlt hltb (by simpa using HQ.out), B9.out⟩⟩
            case measure => simp [intOf]; omega
        · have HE1 := Lib.hid (show a.T.outs = b.T.outs by
            have h1 := hx.out.1
            have hjl : j = a.T.outs.length := by omega
            rw [List.take_of_length_le (by omega), List.take_of_length_le (by have := QL1.out; omega)] at h1
            exact h1)
          have bPrev := Lib.hid hx.out.2
          clear hx hj
          have hdd : decide ((j : Int) < a.T.outs.length) = false := by simp; omega
          go_wp2_with fail
          clear hdd hlt cc
          have hm2 : a.T.nulls.length ≤ 9223372036854775807 := by have h1 := IA.out.nulls.le; have h2 := IA.out.nulls.max; unfold maxLen at h2; omega
          go_loopw [7] (fun i wr => ∃ j : Nat, j ≤ a.T.nulls.length ∧ i = .int .i64 j ∧ Hid (a.T.nulls.take j = b.T.nulls.take j ∧ Below ((w.alloc (.cells a.cells.toArray 44)).alloc (.cells b.cells.toArray 44)).heap.size ((w.alloc (.cells a.cells.toArray 44)).alloc (.cells b.cells.toArray 44)) wr)) (fun i _ => a.T.nulls.length - (intOf i).toNat)
          case atStart => exact ⟨0, Nat.zero_le _, rfl, Lib.hid ⟨rfl, bPrev.out⟩⟩
          case round =>
            obtain ⟨j, hj, rfl, hx⟩ := hrel
            clear bPrev
            have cc := TxA.c4 (HA.out.below hx.out.2 (by simp; omega))
            by_cases hlt : j < a.T.nulls.length
            · have hltb : j < b.T.nulls.length := by have := QL2.out; omega
              have hin := IA.out.nulls.below (HB0.out.trans (hx.out.2.mono HB0.out.size))
              have hinb := IB.out.nulls.below (HB0.out.trans (hx.out.2.mono HB0.out.size))
              obtain ⟨g1, o1, e1, l1, rc1⟩ := hin.at (encK_len) hlt
              obtain ⟨g2, o2, e2, l2, rc2⟩ := hinb.at (encK_len) hltb
              have z0 := (HB0.out.trans (hx.out.2.mono HB0.out.size)).size
              have zr := hx.out.2.size
              have CA := Lib.hid (fun (w' : World) (hC : From wr w') => (show w'.cell? ⟨w.heap.size, 35, none⟩ = some (.slice (some ⟨g1, o1, none⟩) a.T.nulls.length a.cn) by rw [← e1]; exact TxA.c4 ((HA.out.below hx.out.2 (by simp; omega)).below hC.below (by simp at zr; omega))))
              have CB := Lib.hid (fun (w' : World) (hC : From wr w') => (show w'.cell? ⟨w.heap.size + 1, 35, none⟩ = some (.slice (some ⟨g2, o2, none⟩) b.T.nulls.length b.cn) by rw [← e2]; exact TxA.c4 ((HB.out.below hx.out.2 (by simp)).below hC.below (by simp at zr; omega))))
              have RA := Lib.hid (fun (w' : World) (hC : From wr w') => rc1.below hC.below (by omega))
              have RB := Lib.hid (fun (w' : World) (hC : From wr w') => rc2.below hC.below (by omega))
              clear hin hinb e1 e2 rc1 rc2 z0 zr
              go_wp2_with fail
              obtain ⟨q, hq⟩ : ∃ q, decide (a.T.nulls[j] = b.T.nulls[j]) = q := ⟨_, rfl⟩
              have HQ := Lib.hid hq
              clear hq
              refine wp_region_from (by kernel_rfl) (by kernel_rfl) ?_
              repeat (first
                | go_big_quiet_skip
                | ((with_reducible refine at_qload 107 ?_); refine wpQuiet_load_one (by rfl) 42 (.tmp 107) rfl ⟨w.heap.size, 35, none⟩ rfl _ Try.isAgg42 CA.out ?_; simp only [Act.put, List.setIfInBounds_toArray, List.set_cons_succ, List.set_cons_zero])
                | ((with_reducible refine at_qload 112 ?_); refine wpQuiet_load_one (by rfl) 42 (.tmp 112) rfl ⟨w.heap.size + 1, 35, none⟩ rfl _ Try.isAgg42 CB.out ?_; simp only [Act.put, List.setIfInBounds_toArray, List.set_cons_succ, List.set_cons_zero])
                | ((with_reducible refine at_qload 110 ?_); refine tyKy.wpQuiet_load (by rfl) (.tmp 110) rfl g1 (o1 + j * 32) rfl a.T.nulls[j] RA.out ?_; simp only [Act.put, List.setIfInBounds_toArray, List.set_cons_succ, List.set_cons_zero])
                | ((with_reducible refine at_qload 115 ?_); refine tyKy.wpQuiet_load (by rfl) (.tmp 115) rfl g2 (o2 + j * 32) rfl b.T.nulls[j] RB.out ?_; simp only [Act.put, List.setIfInBounds_toArray, List.set_cons_succ, List.set_cons_zero])
                | ((with_reducible refine at_qneq 111 116 ?_); refine wpQuiet_neq_row (by rfl) 24 24 (.tmp 111) (.tmp 116) rfl (encK a.T.nulls[j]).toArray (encK b.T.nulls[j]).toArray rfl rfl (by kernel_rfl) q (fun V => (eqKy_run _ _ V).trans (by rw [HQ.out])) ?_; simp only [Act.put, List.setIfInBounds_toArray, List.set_cons_succ, List.set_cons_zero])
                | (go_big_quiet_want; go_big_quiet_op; refine ⟨_, fun _ _ => by with_reducible rfl, ?_⟩; go_big_quiet_on)
                | go_big_quiet_step (fail))
              refine wpQuiet_nil ?_
              intro w9 hC
              have B9 := Lib.hid (hx.out.2.trans (hC.below.mono hx.out.2.size))
              clear hC CA CB RA RB
              cases q with
              | false =>
                have HE := Lib.hid (show s = false by
                  cases hsv : s with
                  | false => rfl
                  | true =>
                    have e := (sameF_iff _ _).1 (HS.out.trans hsv)
                    have hn : a.T.nulls[j] ≠ b.T.nulls[j] := by simpa using HQ.out
                    have hs2 : a.T.nulls = b.T.nulls := by rw [e]
                    exact absurd (by simp only [hs2]) hn)
                go_wp2_with fail
                go_ret
                refine ⟨?_, HB0.out.trans (B9.out.mono HB0.out.size)⟩
                rw [HE.out]
                rfl
              | true =>
                go_wp2_with fail
                go_roundw
                case rel => exact ⟨j + 1, by omega, by go_num, Lib.hid ⟨take_eq_succ hx.out.1 hlt hltb (by simpa using HQ.out), B9.out⟩⟩
                case measure => simp [intOf]; omega
            · have HE2 := Lib.hid (show a.T.nulls = b.T.nulls by
                have h1 := hx.out.1
                have hjl : j = a.T.nulls.length := by omega
                rw [List.take_of_length_le (by omega), List.take_of_length_le (by have := QL2.out; omega)] at h1
                exact h1)
              have bPrev := Lib.hid hx.out.2
              clear hx hj
              have hdd : decide ((j : Int) < a.T.nulls.length) = false := by simp; omega
              go_wp2_with fail
              clear hdd hlt cc
              have hm3 : a.T.notes.length ≤ 9223372036854775807 := by have h1 := IA.out.notes.le; have h2 := IA.out.notes.max; unfold maxLen at h2; omega
              go_loopw [8] (fun i wr => ∃ j : Nat, j ≤ a.T.notes.length ∧ i = .int .i64 j ∧ Hid (a.T.notes.take j = b.T.notes.take j ∧ Below ((w.alloc (.cells a.cells.toArray 44)).alloc (.cells b.cells.toArray 44)).heap.size ((w.alloc (.cells a.cells.toArray 44)).alloc (.cells b.cells.toArray 44)) wr)) (fun i _ => a.T.notes.length - (intOf i).toNat)
              case atStart => exact ⟨0, Nat.zero_le _, rfl, Lib.hid ⟨rfl, bPrev.out⟩⟩
              case round =>
                obtain ⟨j, hj, rfl, hx⟩ := hrel
                clear bPrev
                have cc := TxA.c5 (HA.out.below hx.out.2 (by simp; omega))
                by_cases hlt : j < a.T.notes.length
                · have hltb : j < b.T.notes.length := by have := QL3.out; omega
                  have hin := IA.out.notes.below (HB0.out.trans (hx.out.2.mono HB0.out.size))
                  have hinb := IB.out.notes.below (HB0.out.trans (hx.out.2.mono HB0.out.size))
                  obtain ⟨g1, o1, e1, l1, rc1⟩ := hin.at (encK_len) hlt
                  obtain ⟨g2, o2, e2, l2, rc2⟩ := hinb.at (encK_len) hltb
                  have z0 := (HB0.out.trans (hx.out.2.mono HB0.out.size)).size
                  have zr := hx.out.2.size
                  have CA := Lib.hid (fun (w' : World) (hC : From wr w') => (show w'.cell? ⟨w.heap.size, 36, none⟩ = some (.slice (some ⟨g1, o1, none⟩) a.T.notes.length a.ct) by rw [← e1]; exact TxA.c5 ((HA.out.below hx.out.2 (by simp; omega)).below hC.below (by simp at zr; omega))))
                  have CB := Lib.hid (fun (w' : World) (hC : From wr w') => (show w'.cell? ⟨w.heap.size + 1, 36, none⟩ = some (.slice (some ⟨g2, o2, none⟩) b.T.notes.length b.ct) by rw [← e2]; exact TxA.c5 ((HB.out.below hx.out.2 (by simp)).below hC.below (by simp at zr; omega))))
                  have RA := Lib.hid (fun (w' : World) (hC : From wr w') => rc1.below hC.below (by omega))
                  have RB := Lib.hid (fun (w' : World) (hC : From wr w') => rc2.below hC.below (by omega))
                  clear hin hinb e1 e2 rc1 rc2 z0 zr
                  go_wp2_with fail
                  obtain ⟨q, hq⟩ : ∃ q, decide (a.T.notes[j] = b.T.notes[j]) = q := ⟨_, rfl⟩
                  have HQ := Lib.hid hq
                  clear hq
                  refine wp_region_from (by kernel_rfl) (by kernel_rfl) ?_
                  repeat (first
                    | go_big_quiet_skip
                    | ((with_reducible refine at_qload 125 ?_); refine wpQuiet_load_one (by rfl) 42 (.tmp 125) rfl ⟨w.heap.size, 36, none⟩ rfl _ Try.isAgg42 CA.out ?_; simp only [Act.put, List.setIfInBounds_toArray, List.set_cons_succ, List.set_cons_zero])
                    | ((with_reducible refine at_qload 130 ?_); refine wpQuiet_load_one (by rfl) 42 (.tmp 130) rfl ⟨w.heap.size + 1, 36, none⟩ rfl _ Try.isAgg42 CB.out ?_; simp only [Act.put, List.setIfInBounds_toArray, List.set_cons_succ, List.set_cons_zero])
                    | ((with_reducible refine at_qload 128 ?_); refine tyKy.wpQuiet_load (by rfl) (.tmp 128) rfl g1 (o1 + j * 32) rfl a.T.notes[j] RA.out ?_; simp only [Act.put, List.setIfInBounds_toArray, List.set_cons_succ, List.set_cons_zero])
                    | ((with_reducible refine at_qload 133 ?_); refine tyKy.wpQuiet_load (by rfl) (.tmp 133) rfl g2 (o2 + j * 32) rfl b.T.notes[j] RB.out ?_; simp only [Act.put, List.setIfInBounds_toArray, List.set_cons_succ, List.set_cons_zero])
                    | ((with_reducible refine at_qneq 129 134 ?_); refine wpQuiet_neq_row (by rfl) 24 24 (.tmp 129) (.tmp 134) rfl (encK a.T.notes[j]).toArray (encK b.T.notes[j]).toArray rfl rfl (by kernel_rfl) q (fun V => (eqKy_run _ _ V).trans (by rw [HQ.out])) ?_; simp only [Act.put, List.setIfInBounds_toArray, List.set_cons_succ, List.set_cons_zero])
                    | (go_big_quiet_want; go_big_quiet_op; refine ⟨_, fun _ _ => by with_reducible rfl, ?_⟩; go_big_quiet_on)
                    | go_big_quiet_step (fail))
                  refine wpQuiet_nil ?_
                  intro w9 hC
                  have B9 := Lib.hid (hx.out.2.trans (hC.below.mono hx.out.2.size))
                  clear hC CA CB RA RB
                  cases q with
                  | false =>
                    have HE := Lib.hid (show s = false by
                      cases hsv : s with
                      | false => rfl
                      | true =>
                        have e := (sameF_iff _ _).1 (HS.out.trans hsv)
                        have hn : a.T.notes[j] ≠ b.T.notes[j] := by simpa using HQ.out
                        have hs2 : a.T.notes = b.T.notes := by rw [e]
                        exact absurd (by simp only [hs2]) hn)
                    go_wp2_with fail
                    go_ret
                    refine ⟨?_, HB0.out.trans (B9.out.mono HB0.out.size)⟩
                    rw [HE.out]
                    rfl
                  | true =>
                    go_wp2_with fail
                    go_roundw
                    case rel => exact ⟨j + 1, by omega, by go_num, Lib.hid ⟨take_eq_succ hx.out.1 hlt hltb (by simpa using HQ.out), B9.out⟩⟩
                    case measure => simp [intOf]; omega
                · have HE3 := Lib.hid (show a.T.notes = b.T.notes by
                    have h1 := hx.out.1
                    have hjl : j = a.T.notes.length := by omega
                    rw [List.take_of_length_le (by omega), List.take_of_length_le (by have := QL3.out; omega)] at h1
                    exact h1)
                  have bPrev := Lib.hid hx.out.2
                  clear hx hj
                  have hdd : decide ((j : Int) < a.T.notes.length) = false := by simp; omega
                  go_wp2_with fail
                  go_ret
                  refine ⟨?_, HB0.out.trans (bPrev.out.mono HB0.out.size)⟩
                  have e1 := intv_ext Q1.out
                  have e4 : a.T.anchor = b.T.anchor := by simpa using HR.out.trans Q4.out
                  have e7 := intv_ext (show a.T.bal.1 = b.T.bal.1 by simpa using Q7.out)
                  have hst : s = true := HS.out.symm.trans ((sameF_iff _ _).2 (txv_ext e1 HE0.out HE1.out e4 HE2.out HE3.out e7))
                  rw [hst]
                  rfl
end Go.Proofs.Ythpnmmilioonhaa
