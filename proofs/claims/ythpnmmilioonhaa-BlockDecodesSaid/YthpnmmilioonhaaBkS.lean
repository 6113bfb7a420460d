/- The document's Same of blocks; what the statements of block begin by. Written by genBS.py. -/
import Derived.Test.YthpnmmilioonhaaBkW
import Derived.Test.YthpnmmilioonhaaBkQ
import Derived.Test.YthpnmmilioonhaaTxY
import Derived.Test.YthpnmmilioonhaaTxH
namespace Go.Proofs.Ythpnmmilioonhaa
open Go.RowKit
structure SbS (w0 : World) (a b : BkA) (w : World) : Prop where
  below : Below w0.heap.size w0 w
  ka : Blk w w0.heap.size 28 a.cells.toArray
  kb : Blk w (w0.heap.size + 1) 28 b.cells.toArray
theorem SbS.call {w0 w w' : World} {a b : BkA} (h : SbS w0 a b w) (hb : Below w.heap.size w w') : SbS w0 a b w' where
  below := h.below.trans (hb.mono h.below.size)
  ka := below_blk hb h.ka h.ka.lt
  kb := below_blk hb h.kb h.kb.lt
theorem blkV_eq {A B : BlockV} : A = B ↔ A.prev = B.prev ∧ A.root = B.root ∧ A.nonce = B.nonce ∧ A.txs = B.txs := by
  constructor
  · rintro rfl; exact ⟨rfl, rfl, rfl, rfl⟩
  · rintro ⟨h1, h2, h3, h4⟩
    cases A; cases B
    simp only at h1 h2 h3 h4
    subst h1 h2 h3 h4
    rfl
instance : DecidableEq TxV := fun a b => decidable_of_iff (sameF a b = true) (sameF_iff a b)
instance : DecidableEq BlockV := fun _ _ => decidable_of_iff _ blkV_eq.symm
set_option maxRecDepth 20000 in
set_option maxHeartbeats 4000000 in
theorem refSameB_any (a b : BkA) (w : World) (ha : a.In w w.heap.size) (hb : b.In w w.heap.size) :
    Calls Try.prog 10 #[.agg a.cells.toArray, .agg b.cells.toArray] w fun e w' => e = .returned (.bool (decide (a.B = b.B))) ∧ Below w.heap.size w w' := by
  obtain ⟨s, hs⟩ : ∃ s, decide (a.B = b.B) = s := ⟨_, rfl⟩
  rw [hs]
  have HS := Lib.hid hs
  have ST := Lib.hid (show SbS w a b ((w.alloc (.cells a.cells.toArray 28)).alloc (.cells b.cells.toArray 28)) from
    ⟨((Below.refl _ _).alloc (Nat.le_refl _) _).alloc (by simp) _, (Blk.new _ _ _).alloc _, blk_new _ _ (by simp)⟩)
  have IA := Lib.hid ha
  have IB := Lib.hid hb
  clear hs ha hb
  have a2 := BkA.c2 (RowC.of_blk ST.out.ka)
  have a3 := BkA.c3 (RowC.of_blk ST.out.ka)
  have b2 := BkA.c2 (RowC.of_blk ST.out.kb)
  have b3 := BkA.c3 (RowC.of_blk ST.out.kb)
  obtain ⟨q0, hq0⟩ : ∃ q, decide (a.prev = b.prev) = q := ⟨_, rfl⟩
  obtain ⟨q1, hq1⟩ : ∃ q, decide (a.root = b.root) = q := ⟨_, rfl⟩
  obtain ⟨q2, hq2⟩ : ∃ q, (a.nonce.1 != b.nonce.1) = q := ⟨_, rfl⟩
  obtain ⟨q3, hq3⟩ : ∃ q, ((a.txs.length : Int) != (b.txs.length : Int)) = q := ⟨_, rfl⟩
  have HQ0 := Lib.hid hq0
  have HQ1 := Lib.hid hq1
  have HQ2 := Lib.hid hq2
  have HQ3 := Lib.hid hq3
  clear hq0 hq1
  cases q0 with
  | false =>
    have HE := Lib.hid (show s = false by
      rw [← HS.out, decide_eq_false_iff_not, blkV_eq]
      rintro ⟨h, _⟩; have h' : a.prev = b.prev := h; have := HQ0.out; simp [h'] at this)
    go_enter Try.func10, Try.ntmps10
    go_wp2_with (first
      | ((with_reducible refine at_loadg 6 ?_); refine tyKy.wpList_load (by rfl) (.tmp 6) rfl w.heap.size 0 rfl a.prev (BkA.c0 (RowC.of_blk ST.out.ka)) ?_)
      | ((with_reducible refine at_loadg 8 ?_); refine tyKy.wpList_load (by rfl) (.tmp 8) rfl (w.heap.size + 1) 0 rfl b.prev (BkA.c0 (RowC.of_blk ST.out.kb)) ?_)
      | ((with_reducible refine at_neqlg 7 9 ?_); refine wpList_neq_rowg (by rfl) 24 24 (.tmp 7) (.tmp 9) rfl (encK a.prev).toArray (encK b.prev).toArray rfl rfl (by kernel_rfl) false (fun V => (eqKy_run _ _ V).trans (by rw [HQ0.out])) ?_; simp only [Act.put, List.setIfInBounds_toArray, List.set_cons_succ, List.set_cons_zero])
      | ((with_reducible refine at_loadg 12 ?_); refine tyKy.wpList_load (by rfl) (.tmp 12) rfl w.heap.size 32 rfl a.root (BkA.c1 (RowC.of_blk ST.out.ka)) ?_)
      | ((with_reducible refine at_loadg 14 ?_); refine tyKy.wpList_load (by rfl) (.tmp 14) rfl (w.heap.size + 1) 32 rfl b.root (BkA.c1 (RowC.of_blk ST.out.kb)) ?_)
      | ((with_reducible refine at_neqlg 13 15 ?_); refine wpList_neq_rowg (by rfl) 24 24 (.tmp 13) (.tmp 15) rfl (encK a.root).toArray (encK b.root).toArray rfl rfl (by kernel_rfl) q1 (fun V => (eqKy_run _ _ V).trans (by rw [HQ1.out])) ?_; simp only [Act.put, List.setIfInBounds_toArray, List.set_cons_succ, List.set_cons_zero]))
    go_ret
    exact ⟨by rw [HE.out]; rfl, ST.out.below⟩
  | true =>
    cases q1 with
    | false =>
      have HE := Lib.hid (show s = false by
        rw [← HS.out, decide_eq_false_iff_not, blkV_eq]
        rintro ⟨_, h, _⟩; have h' : a.root = b.root := h; have := HQ1.out; simp [h'] at this)
      go_enter Try.func10, Try.ntmps10
      go_wp2_with (first
        | ((with_reducible refine at_loadg 6 ?_); refine tyKy.wpList_load (by rfl) (.tmp 6) rfl w.heap.size 0 rfl a.prev (BkA.c0 (RowC.of_blk ST.out.ka)) ?_)
        | ((with_reducible refine at_loadg 8 ?_); refine tyKy.wpList_load (by rfl) (.tmp 8) rfl (w.heap.size + 1) 0 rfl b.prev (BkA.c0 (RowC.of_blk ST.out.kb)) ?_)
        | ((with_reducible refine at_neqlg 7 9 ?_); refine wpList_neq_rowg (by rfl) 24 24 (.tmp 7) (.tmp 9) rfl (encK a.prev).toArray (encK b.prev).toArray rfl rfl (by kernel_rfl) true (fun V => (eqKy_run _ _ V).trans (by rw [HQ0.out])) ?_; simp only [Act.put, List.setIfInBounds_toArray, List.set_cons_succ, List.set_cons_zero])
        | ((with_reducible refine at_loadg 12 ?_); refine tyKy.wpList_load (by rfl) (.tmp 12) rfl w.heap.size 32 rfl a.root (BkA.c1 (RowC.of_blk ST.out.ka)) ?_)
        | ((with_reducible refine at_loadg 14 ?_); refine tyKy.wpList_load (by rfl) (.tmp 14) rfl (w.heap.size + 1) 32 rfl b.root (BkA.c1 (RowC.of_blk ST.out.kb)) ?_)
        | ((with_reducible refine at_neqlg 13 15 ?_); refine wpList_neq_rowg (by rfl) 24 24 (.tmp 13) (.tmp 15) rfl (encK a.root).toArray (encK b.root).toArray rfl rfl (by kernel_rfl) false (fun V => (eqKy_run _ _ V).trans (by rw [HQ1.out])) ?_; simp only [Act.put, List.setIfInBounds_toArray, List.set_cons_succ, List.set_cons_zero]))
      go_ret
      exact ⟨by rw [HE.out]; rfl, ST.out.below⟩
    | true =>
      cases q2 with
      | true =>
        have HE := Lib.hid (show s = false by
          rw [← HS.out, decide_eq_false_iff_not, blkV_eq]
          rintro ⟨_, _, h, _⟩; have h' : a.nonce = b.nonce := h; have := HQ2.out; simp [h'] at this)
        go_enter Try.func10, Try.ntmps10
        go_wp2_with (first
          | ((with_reducible refine at_loadg 6 ?_); refine tyKy.wpList_load (by rfl) (.tmp 6) rfl w.heap.size 0 rfl a.prev (BkA.c0 (RowC.of_blk ST.out.ka)) ?_)
          | ((with_reducible refine at_loadg 8 ?_); refine tyKy.wpList_load (by rfl) (.tmp 8) rfl (w.heap.size + 1) 0 rfl b.prev (BkA.c0 (RowC.of_blk ST.out.kb)) ?_)
          | ((with_reducible refine at_neqlg 7 9 ?_); refine wpList_neq_rowg (by rfl) 24 24 (.tmp 7) (.tmp 9) rfl (encK a.prev).toArray (encK b.prev).toArray rfl rfl (by kernel_rfl) true (fun V => (eqKy_run _ _ V).trans (by rw [HQ0.out])) ?_; simp only [Act.put, List.setIfInBounds_toArray, List.set_cons_succ, List.set_cons_zero])
          | ((with_reducible refine at_loadg 12 ?_); refine tyKy.wpList_load (by rfl) (.tmp 12) rfl w.heap.size 32 rfl a.root (BkA.c1 (RowC.of_blk ST.out.ka)) ?_)
          | ((with_reducible refine at_loadg 14 ?_); refine tyKy.wpList_load (by rfl) (.tmp 14) rfl (w.heap.size + 1) 32 rfl b.root (BkA.c1 (RowC.of_blk ST.out.kb)) ?_)
          | ((with_reducible refine at_neqlg 13 15 ?_); refine wpList_neq_rowg (by rfl) 24 24 (.tmp 13) (.tmp 15) rfl (encK a.root).toArray (encK b.root).toArray rfl rfl (by kernel_rfl) true (fun V => (eqKy_run _ _ V).trans (by rw [HQ1.out])) ?_; simp only [Act.put, List.setIfInBounds_toArray, List.set_cons_succ, List.set_cons_zero]))
        go_ret
        exact ⟨by rw [HE.out]; rfl, ST.out.below⟩
      | false =>
        cases q3 with
        | true =>
          have HE := Lib.hid (show s = false by
            rw [← HS.out, decide_eq_false_iff_not, blkV_eq]
            rintro ⟨_, _, _, h⟩; have h' : a.txs.map TxA.T = b.txs.map TxA.T := h; have h2 := congrArg List.length h'; simp only [List.length_map] at h2; have := HQ3.out; simp [h2] at this)
          go_enter Try.func10, Try.ntmps10
          go_wp2_with (first
            | ((with_reducible refine at_loadg 6 ?_); refine tyKy.wpList_load (by rfl) (.tmp 6) rfl w.heap.size 0 rfl a.prev (BkA.c0 (RowC.of_blk ST.out.ka)) ?_)
            | ((with_reducible refine at_loadg 8 ?_); refine tyKy.wpList_load (by rfl) (.tmp 8) rfl (w.heap.size + 1) 0 rfl b.prev (BkA.c0 (RowC.of_blk ST.out.kb)) ?_)
            | ((with_reducible refine at_neqlg 7 9 ?_); refine wpList_neq_rowg (by rfl) 24 24 (.tmp 7) (.tmp 9) rfl (encK a.prev).toArray (encK b.prev).toArray rfl rfl (by kernel_rfl) true (fun V => (eqKy_run _ _ V).trans (by rw [HQ0.out])) ?_; simp only [Act.put, List.setIfInBounds_toArray, List.set_cons_succ, List.set_cons_zero])
            | ((with_reducible refine at_loadg 12 ?_); refine tyKy.wpList_load (by rfl) (.tmp 12) rfl w.heap.size 32 rfl a.root (BkA.c1 (RowC.of_blk ST.out.ka)) ?_)
            | ((with_reducible refine at_loadg 14 ?_); refine tyKy.wpList_load (by rfl) (.tmp 14) rfl (w.heap.size + 1) 32 rfl b.root (BkA.c1 (RowC.of_blk ST.out.kb)) ?_)
            | ((with_reducible refine at_neqlg 13 15 ?_); refine wpList_neq_rowg (by rfl) 24 24 (.tmp 13) (.tmp 15) rfl (encK a.root).toArray (encK b.root).toArray rfl rfl (by kernel_rfl) true (fun V => (eqKy_run _ _ V).trans (by rw [HQ1.out])) ?_; simp only [Act.put, List.setIfInBounds_toArray, List.set_cons_succ, List.set_cons_zero]))
          go_ret
          exact ⟨by rw [HE.out]; rfl, ST.out.below⟩
        | false =>
          have HL := Lib.hid (show a.txs.length = b.txs.length by have := HQ3.out; simp at this; omega)
          have HF := Lib.hid (show a.txs.map TxA.T = b.txs.map TxA.T → s = true from fun h => by
            rw [← HS.out, decide_eq_true_iff, blkV_eq]
            exact ⟨of_decide_eq_true HQ0.out, of_decide_eq_true HQ1.out, by have := HQ2.out; simp at this; exact Subtype.ext this, h⟩)
          have HG := Lib.hid (show s = true → a.txs.map TxA.T = b.txs.map TxA.T from fun h => by
            rw [← HS.out, decide_eq_true_iff, blkV_eq] at h
            exact h.2.2.2)
          have hm0 : a.txs.length ≤ 9223372036854775807 := by have h1 := IA.out.row.le; have h2 := IA.out.row.max; unfold maxLen at h2; omega
          go_enter Try.func10, Try.ntmps10
          go_wp2_with (first
            | ((with_reducible refine at_loadg 6 ?_); refine tyKy.wpList_load (by rfl) (.tmp 6) rfl w.heap.size 0 rfl a.prev (BkA.c0 (RowC.of_blk ST.out.ka)) ?_)
            | ((with_reducible refine at_loadg 8 ?_); refine tyKy.wpList_load (by rfl) (.tmp 8) rfl (w.heap.size + 1) 0 rfl b.prev (BkA.c0 (RowC.of_blk ST.out.kb)) ?_)
            | ((with_reducible refine at_neqlg 7 9 ?_); refine wpList_neq_rowg (by rfl) 24 24 (.tmp 7) (.tmp 9) rfl (encK a.prev).toArray (encK b.prev).toArray rfl rfl (by kernel_rfl) true (fun V => (eqKy_run _ _ V).trans (by rw [HQ0.out])) ?_; simp only [Act.put, List.setIfInBounds_toArray, List.set_cons_succ, List.set_cons_zero])
            | ((with_reducible refine at_loadg 12 ?_); refine tyKy.wpList_load (by rfl) (.tmp 12) rfl w.heap.size 32 rfl a.root (BkA.c1 (RowC.of_blk ST.out.ka)) ?_)
            | ((with_reducible refine at_loadg 14 ?_); refine tyKy.wpList_load (by rfl) (.tmp 14) rfl (w.heap.size + 1) 32 rfl b.root (BkA.c1 (RowC.of_blk ST.out.kb)) ?_)
            | ((with_reducible refine at_neqlg 13 15 ?_); refine wpList_neq_rowg (by rfl) 24 24 (.tmp 13) (.tmp 15) rfl (encK a.root).toArray (encK b.root).toArray rfl rfl (by kernel_rfl) true (fun V => (eqKy_run _ _ V).trans (by rw [HQ1.out])) ?_; simp only [Act.put, List.setIfInBounds_toArray, List.set_cons_succ, List.set_cons_zero]))
          clear a2 a3 b2 b3 hq2 hq3
          go_loopw [5] (fun i wr => ∃ j : Nat, j ≤ a.txs.length ∧ i = .int .i64 j ∧ Hid ((a.txs.map TxA.T).take j = (b.txs.map TxA.T).take j) ∧ Hid (SbS w a b wr)) (fun i _ => a.txs.length - (intOf i).toNat)
          case atStart => exact ⟨0, Nat.zero_le _, rfl, Lib.hid rfl, ST⟩
          case round =>
            clear ST
            obtain ⟨j, hj, rfl, hx, ST⟩ := hrel
            have cc := BkA.c3 (RowC.of_blk ST.out.ka)
            by_cases hlt : j < a.txs.length
            · have hltb : j < b.txs.length := by have := HL.out; omega
              obtain ⟨g1, o1, e1, l1, rc1⟩ := (IA.out.row.below ST.out.below).at TxA.len hlt
              obtain ⟨g2, o2, e2, l2, rc2⟩ := (IB.out.row.below ST.out.below).at TxA.len hltb
              have zr := ST.out.below.size
              have CA := Lib.hid (fun (w' : World) (hC : From wr w') => (show w'.cell? ⟨w.heap.size, 65, none⟩ = some (.slice (some ⟨g1, o1, none⟩) a.txs.length a.c) by rw [← e1]; exact BkA.c3 (RowC.of_blk (ST.out.call hC.below).ka)))
              have CB := Lib.hid (fun (w' : World) (hC : From wr w') => (show w'.cell? ⟨w.heap.size + 1, 65, none⟩ = some (.slice (some ⟨g2, o2, none⟩) b.txs.length b.c) by rw [← e2]; exact BkA.c3 (RowC.of_blk (ST.out.call hC.below).kb)))
              have RA := Lib.hid (fun (w' : World) (hC : From wr w') => rc1.below hC.below (by omega))
              have RB := Lib.hid (fun (w' : World) (hC : From wr w') => rc2.below hC.below (by omega))
              have MA := Lib.hid (fun (w' : World) (hC : From wr w') => TxA.In.on (IA.out.each _ (List.getElem_mem hlt)) ((ST.out.call hC.below).below) (Nat.le_refl _))
              have MB := Lib.hid (fun (w' : World) (hC : From wr w') => TxA.In.on (IB.out.each _ (List.getElem_mem hltb)) ((ST.out.call hC.below).below) (Nat.le_refl _))
              clear e1 e2 rc1 rc2 zr
              go_wp2_with fail
              obtain ⟨q, hq⟩ : ∃ q, sameF a.txs[j].T b.txs[j].T = q := ⟨_, rfl⟩
              have HQ := Lib.hid hq
              clear hq
              refine wp_region_from (by kernel_rfl) (by kernel_rfl) ?_
              repeat (first
                | go_big_quiet_skip
                | ((with_reducible refine at_qload 41 ?_); refine wpQuiet_load_one (by rfl) 26 (.tmp 41) rfl ⟨w.heap.size, 65, none⟩ rfl _ Try.isAgg26 CA.out ?_; simp only [Act.put, List.setIfInBounds_toArray, List.set_cons_succ, List.set_cons_zero])
                | ((with_reducible refine at_qload 46 ?_); refine wpQuiet_load_one (by rfl) 26 (.tmp 46) rfl ⟨w.heap.size + 1, 65, none⟩ rfl _ Try.isAgg26 CB.out ?_; simp only [Act.put, List.setIfInBounds_toArray, List.set_cons_succ, List.set_cons_zero])
                | ((with_reducible refine at_qload 44 ?_); refine tyTxR.wpQuiet_load (by rfl) (.tmp 44) rfl g1 (o1 + j * 38) rfl a.txs[j] RA.out ?_; simp only [Act.put, List.setIfInBounds_toArray, List.set_cons_succ, List.set_cons_zero])
                | ((with_reducible refine at_qload 49 ?_); refine tyTxR.wpQuiet_load (by rfl) (.tmp 49) rfl g2 (o2 + j * 38) rfl b.txs[j] RB.out ?_; simp only [Act.put, List.setIfInBounds_toArray, List.set_cons_succ, List.set_cons_zero])
                | (go_big_quiet_want; go_big_quiet_op; refine ⟨_, fun _ _ => by with_reducible rfl, ?_⟩; go_big_quiet_on)
                | go_big_quiet_step ((intro hC; go_at_call 37; with_reducible exact (refSame_any a.txs[j] b.txs[j] _ (MA.out _ hC) (MB.out _ hC)).mono fun _ _ h => ⟨h.1.trans (by rw [HQ.out]), hC.call h.2⟩)))
              refine wpQuiet_nil ?_
              intro w9 hC
              have ST' := Lib.hid (ST.out.call hC.below)
              clear hC CA CB RA RB MA MB
              clear ST; have ST := ST'; clear ST'
              cases q with
              | false =>
                have HE := Lib.hid (show s = false by
                  cases hsv : s with
                  | false => rfl
                  | true =>
                    have e := HG.out hsv
                    have hn : ¬ a.txs[j].T = b.txs[j].T := fun h => by have h1 := (sameF_iff _ _).2 h; rw [HQ.out] at h1; cases h1
                    have h1 : (a.txs.map TxA.T)[j]'(by rw [List.length_map]; exact hlt) = (b.txs.map TxA.T)[j]'(by rw [List.length_map]; exact hltb) := by simp only [e]
                    rw [List.getElem_map, List.getElem_map] at h1
                    exact absurd h1 hn)
                go_wp2_with fail
                go_ret
                exact ⟨by rw [HE.out]; rfl, ST.out.below⟩
              | true =>
                go_wp2_with fail
                go_roundw
                case rel => exact ⟨j + 1, by omega, by go_num, Lib.hid (take_eq_succ hx.out (by rw [List.length_map]; exact hlt) (by rw [List.length_map]; exact hltb) (by rw [List.getElem_map, List.getElem_map]; exact (sameF_iff _ _).1 HQ.out)), ST⟩
                case measure => simp [intOf]; omega
            · have HE := Lib.hid (show s = true from HF.out (by
                have h1 := hx.out
                have h2 := HL.out
                rwa [List.take_of_length_le (by rw [List.length_map]; omega), List.take_of_length_le (by rw [List.length_map]; omega)] at h1))
              have hje : j = a.txs.length := by omega
              go_wp2
              go_ret
              exact ⟨by rw [HE.out]; rfl, ST.out.below⟩
def heavyB (b : BlockV) : Bool := decide (40 < b.txs.length) || b.txs.any heavyF
structure HvS (w0 : World) (a : BkA) (w : World) : Prop where
  below : Below w0.heap.size w0 w
  ka : Blk w w0.heap.size 28 a.cells.toArray
theorem HvS.call {w0 w w' : World} {a : BkA} (h : HvS w0 a w) (hb : Below w.heap.size w w') : HvS w0 a w' where
  below := h.below.trans (hb.mono h.below.size)
  ka := below_blk hb h.ka h.ka.lt
set_option maxRecDepth 20000 in
set_option maxHeartbeats 4000000 in
theorem heavyB_any (a : BkA) (w : World) (ha : a.In w w.heap.size) :
    Calls Try.prog 12 #[.agg a.cells.toArray] w fun e w' => e = .returned (.bool (heavyB a.B)) ∧ Below w.heap.size w w' := by
  obtain ⟨s, hs⟩ : ∃ s, heavyB a.B = s := ⟨_, rfl⟩
  rw [hs]
  have HS := Lib.hid hs
  have ST := Lib.hid (show HvS w a (w.alloc (.cells a.cells.toArray 28)) from ⟨(Below.refl _ _).alloc (Nat.le_refl _) _, Blk.new _ _ _⟩)
  have IA := Lib.hid ha
  clear hs ha
  have a3 := BkA.c3 (RowC.of_blk ST.out.ka)
  by_cases h40 : 40 < a.txs.length
  · have hd : decide ((40 : Int) < (a.txs.length : Int)) = true := by simp; omega
    have HE := Lib.hid (show s = true by rw [← HS.out]; unfold heavyB; rw [Bool.or_eq_true, decide_eq_true_iff]; left; show 40 < (a.txs.map TxA.T).length; rw [List.length_map]; exact h40)
    go_enter Try.func12, Try.ntmps12
    go_wp2
    go_ret
    exact ⟨by rw [HE.out]; rfl, ST.out.below⟩
  have hd : decide ((40 : Int) < (a.txs.length : Int)) = false := by simp; omega
  go_enter Try.func12, Try.ntmps12
  go_wp2_with fail
  clear a3
  go_loopw [3] (fun i wr => ∃ j : Nat, j ≤ a.txs.length ∧ i = .int .i64 j ∧ Hid (∀ t ∈ a.txs.take j, heavyF t.T = false) ∧ Hid (HvS w a wr)) (fun i _ => a.txs.length - (intOf i).toNat)
  case atStart => exact ⟨0, Nat.zero_le _, rfl, Lib.hid (fun _ h => by simp at h), ST⟩
  case round =>
    clear ST
    obtain ⟨j, hj, rfl, hx, ST⟩ := hrel
    by_cases hlt : j < a.txs.length
    · obtain ⟨g1, o1, e1, l1, rc1⟩ := (IA.out.row.below ST.out.below).at TxA.len hlt
      obtain ⟨t, ht⟩ : ∃ t, a.txs[j] = t := ⟨_, rfl⟩
      have hmem : t ∈ a.txs := ht ▸ List.getElem_mem hlt
      rw [ht] at rc1
      have HTJ := Lib.hid ht
      have HT := Lib.hid (show heavyF t.T = true → s = true from fun h => by
        rw [← HS.out]
        unfold heavyB
        rw [Bool.or_eq_true]
        right
        rw [List.any_eq_true]
        exact ⟨t.T, List.mem_map.2 ⟨t, hmem, rfl⟩, h⟩)
      have RC := Lib.hid rc1
      have cc : wr.cell? ⟨w.heap.size, 65, none⟩ = some (.slice (some ⟨g1, o1, none⟩) a.txs.length a.c) := by rw [← e1]; exact BkA.c3 (RowC.of_blk ST.out.ka)
      clear ht hmem rc1 e1
      by_cases h1 : 60 < t.T.ins.length
      · have hd0 : decide ((60 : Int) < (t.T.ins.length : Int)) = true := by simp; omega
        have HE := Lib.hid (show s = true from HT.out (by unfold heavyF; rw [decide_eq_true_iff]; omega))
        go_wp2_with (first
          | ((with_reducible refine at_load 19 ?_); refine tyTxR.wpList_load rfl (.tmp 19) rfl g1 (o1 + j * 38) rfl t RC.out ?_)
          | ((with_reducible refine at_store 4 20 ?_); refine tyTx.wpList_store rfl (.tmp 4) (.tmp 20) rfl rfl wr.heap.size t rfl rfl 44 _ (Blk.new wr _ _) rfl ?_; intro w2 o2 b2
             have ST' := Lib.hid (ST.out.call (((Below.refl wr.heap.size wr).alloc (Nat.le_refl _) _).trans (o2.below (by simp))))
             have d1 := TxA.c1 (RowC.of_blk b2)
             have d2 := TxA.c2 (RowC.of_blk b2)
             have d4 := TxA.c4 (RowC.of_blk b2)
             have d5 := TxA.c5 (RowC.of_blk b2)
             clear b2 o2
             clear ST; have ST := ST'; clear ST'))
        go_ret
        exact ⟨by rw [HE.out]; rfl, ST.out.below⟩
      by_cases h2 : 60 < t.T.outs.length
      · have hd0 : decide ((60 : Int) < (t.T.ins.length : Int)) = false := by simp; omega
        have hd1 : decide ((60 : Int) < (t.T.outs.length : Int)) = true := by simp; omega
        have HE := Lib.hid (show s = true from HT.out (by unfold heavyF; rw [decide_eq_true_iff]; omega))
        go_wp2_with (first
          | ((with_reducible refine at_load 19 ?_); refine tyTxR.wpList_load rfl (.tmp 19) rfl g1 (o1 + j * 38) rfl t RC.out ?_)
          | ((with_reducible refine at_store 4 20 ?_); refine tyTx.wpList_store rfl (.tmp 4) (.tmp 20) rfl rfl wr.heap.size t rfl rfl 44 _ (Blk.new wr _ _) rfl ?_; intro w2 o2 b2
             have ST' := Lib.hid (ST.out.call (((Below.refl wr.heap.size wr).alloc (Nat.le_refl _) _).trans (o2.below (by simp))))
             have d1 := TxA.c1 (RowC.of_blk b2)
             have d2 := TxA.c2 (RowC.of_blk b2)
             have d4 := TxA.c4 (RowC.of_blk b2)
             have d5 := TxA.c5 (RowC.of_blk b2)
             clear b2 o2
             clear ST; have ST := ST'; clear ST'))
        go_ret
        exact ⟨by rw [HE.out]; rfl, ST.out.below⟩
      by_cases h3 : 60 < t.T.nulls.length
      · have hd0 : decide ((60 : Int) < (t.T.ins.length : Int)) = false := by simp; omega
        have hd1 : decide ((60 : Int) < (t.T.outs.length : Int)) = false := by simp; omega
        have hd2 : decide ((60 : Int) < (t.T.nulls.length : Int)) = true := by simp; omega
        have HE := Lib.hid (show s = true from HT.out (by unfold heavyF; rw [decide_eq_true_iff]; omega))
        go_wp2_with (first
          | ((with_reducible refine at_load 19 ?_); refine tyTxR.wpList_load rfl (.tmp 19) rfl g1 (o1 + j * 38) rfl t RC.out ?_)
          | ((with_reducible refine at_store 4 20 ?_); refine tyTx.wpList_store rfl (.tmp 4) (.tmp 20) rfl rfl wr.heap.size t rfl rfl 44 _ (Blk.new wr _ _) rfl ?_; intro w2 o2 b2
             have ST' := Lib.hid (ST.out.call (((Below.refl wr.heap.size wr).alloc (Nat.le_refl _) _).trans (o2.below (by simp))))
             have d1 := TxA.c1 (RowC.of_blk b2)
             have d2 := TxA.c2 (RowC.of_blk b2)
             have d4 := TxA.c4 (RowC.of_blk b2)
             have d5 := TxA.c5 (RowC.of_blk b2)
             clear b2 o2
             clear ST; have ST := ST'; clear ST'))
        go_ret
        exact ⟨by rw [HE.out]; rfl, ST.out.below⟩
      by_cases h4 : 60 < t.T.notes.length
      · have hd0 : decide ((60 : Int) < (t.T.ins.length : Int)) = false := by simp; omega
        have hd1 : decide ((60 : Int) < (t.T.outs.length : Int)) = false := by simp; omega
        have hd2 : decide ((60 : Int) < (t.T.nulls.length : Int)) = false := by simp; omega
        have hd3 : decide ((60 : Int) < (t.T.notes.length : Int)) = true := by simp; omega
        have HE := Lib.hid (show s = true from HT.out (by unfold heavyF; rw [decide_eq_true_iff]; omega))
        go_wp2_with (first
          | ((with_reducible refine at_load 19 ?_); refine tyTxR.wpList_load rfl (.tmp 19) rfl g1 (o1 + j * 38) rfl t RC.out ?_)
          | ((with_reducible refine at_store 4 20 ?_); refine tyTx.wpList_store rfl (.tmp 4) (.tmp 20) rfl rfl wr.heap.size t rfl rfl 44 _ (Blk.new wr _ _) rfl ?_; intro w2 o2 b2
             have ST' := Lib.hid (ST.out.call (((Below.refl wr.heap.size wr).alloc (Nat.le_refl _) _).trans (o2.below (by simp))))
             have d1 := TxA.c1 (RowC.of_blk b2)
             have d2 := TxA.c2 (RowC.of_blk b2)
             have d4 := TxA.c4 (RowC.of_blk b2)
             have d5 := TxA.c5 (RowC.of_blk b2)
             clear b2 o2
             clear ST; have ST := ST'; clear ST'))
        go_ret
        exact ⟨by rw [HE.out]; rfl, ST.out.below⟩
      have hd0 : decide ((60 : Int) < (t.T.ins.length : Int)) = false := by simp; omega
      have hd1 : decide ((60 : Int) < (t.T.outs.length : Int)) = false := by simp; omega
      have hd2 : decide ((60 : Int) < (t.T.nulls.length : Int)) = false := by simp; omega
      have hd3 : decide ((60 : Int) < (t.T.notes.length : Int)) = false := by simp; omega
      have HN := Lib.hid (show heavyF t.T = false by unfold heavyF; rw [decide_eq_false_iff_not]; omega)
      go_wp2_with (first
        | ((with_reducible refine at_load 19 ?_); refine tyTxR.wpList_load rfl (.tmp 19) rfl g1 (o1 + j * 38) rfl t RC.out ?_)
        | ((with_reducible refine at_store 4 20 ?_); refine tyTx.wpList_store rfl (.tmp 4) (.tmp 20) rfl rfl wr.heap.size t rfl rfl 44 _ (Blk.new wr _ _) rfl ?_; intro w2 o2 b2
           have ST' := Lib.hid (ST.out.call (((Below.refl wr.heap.size wr).alloc (Nat.le_refl _) _).trans (o2.below (by simp))))
           have d1 := TxA.c1 (RowC.of_blk b2)
           have d2 := TxA.c2 (RowC.of_blk b2)
           have d4 := TxA.c4 (RowC.of_blk b2)
           have d5 := TxA.c5 (RowC.of_blk b2)
           clear b2 o2
           clear ST; have ST := ST'; clear ST'))
      go_roundw
      case rel => exact ⟨j + 1, by omega, by go_num, Lib.hid (fun u hu => by
        rw [List.take_succ_eq_append_getElem hlt] at hu
        rcases List.mem_append.1 hu with q | q
        · exact hx.out u q
        · obtain rfl : u = a.txs[j] := by simpa using q
          rw [HTJ.out]; exact HN.out), ST⟩
      case measure => simp [intOf]; omega
    · have cc := BkA.c3 (RowC.of_blk ST.out.ka)
      have HE := Lib.hid (show s = false by
        rw [← HS.out]
        unfold heavyB
        rw [Bool.or_eq_false_iff]
        refine ⟨by rw [decide_eq_false_iff_not]; show ¬ 40 < (a.txs.map TxA.T).length; rw [List.length_map]; exact h40, ?_⟩
        rw [List.any_eq_false]
        intro T hT
        obtain ⟨u, hu, rfl⟩ := List.mem_map.1 (show T ∈ a.txs.map TxA.T from hT)
        have h1 := hx.out u (by rw [List.take_of_length_le (by omega)]; exact hu)
        rw [h1]
        simp)
      go_wp2
      go_ret
      exact ⟨by rw [HE.out]; rfl, ST.out.below⟩
end Go.Proofs.Ythpnmmilioonhaa
