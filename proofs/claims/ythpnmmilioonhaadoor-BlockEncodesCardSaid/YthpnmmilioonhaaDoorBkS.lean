/- The document's Same of blocks; what the statements of block begin by. Written by genBS.py. -/
import Derived.Test.YthpnmmilioonhaaDoorBkW
import Derived.Test.YthpnmmilioonhaaDoorBkQ
import Derived.Test.YthpnmmilioonhaaDoorTxAllA
namespace Go.Proofs.YthpnmmilioonhaaDoor
open Go.RowKit
structure SbS (w0 : World) (a b : BkA) (w : World) : Prop where
  below : Below w0.heap.size w0 w
  ka : Blk w w0.heap.size 27 a.cells.toArray
  kb : Blk w (w0.heap.size + 1) 27 b.cells.toArray
theorem SbS.call {w0 w w' : World} {a b : BkA} (h : SbS w0 a b w) (hb : Below w.heap.size w w') : SbS w0 a b w' where
  below := h.below.trans (hb.mono h.below.size)
  ka := below_blk hb h.ka h.ka.lt
  kb := below_blk hb h.kb h.kb.lt
theorem blkV_eq {A B : BlockV} : A = B ↔ A.prev = B.prev ∧ A.root = B.root ∧ A.nonce = B.nonce ∧ A.txs = B.txs := by
  constructor
  · rintro rfl; exact ⟨rfl, rfl, rfl, rfl⟩
  · rintro ⟨h1, h2, h3, h4⟩
    cases A; cases B
    simp only at h1 h2 h3 h4
    subst h1 h2 h3 h4
    rfl
instance : DecidableEq TxV := fun a b => decidable_of_iff (sameF a b = true) (sameF_iff a b)
instance : DecidableEq BlockV := fun _ _ => decidable_of_iff _ blkV_eq.symm
def heavyB (b : BlockV) : Bool := decide (40 < b.txs.length) || b.txs.any heavyF
structure HvS (w0 : World) (a : BkA) (w : World) : Prop where
  below : Below w0.heap.size w0 w
  ka : Blk w w0.heap.size 27 a.cells.toArray
theorem HvS.call {w0 w w' : World} {a : BkA} (h : HvS w0 a w) (hb : Below w.heap.size w w') : HvS w0 a w' where
  below := h.below.trans (hb.mono h.below.size)
  ka := below_blk hb h.ka h.ka.lt
set_option maxRecDepth 20000 in
set_option maxHeartbeats 4000000 in
theorem heavyB_any (a : BkA) (w : World) (ha : a.In w w.heap.size) :
    Calls Tryd.prog 5 #[.agg a.cells.toArray] w fun e w' => e = .returned (.bool (heavyB a.B)) ∧ Below w.heap.size w w' := by
  obtain ⟨s, hs⟩ : ∃ s, heavyB a.B = s := ⟨_, rfl⟩
  rw [hs]
  have HS := Lib.hid hs
  have ST := Lib.hid (show HvS w a (w.alloc (.cells a.cells.toArray 27)) from ⟨(Below.refl _ _).alloc (Nat.le_refl _) _, Blk.new _ _ _⟩)
  have IA := Lib.hid ha
  clear hs ha
  have a3 := BkA.c3 (RowC.of_blk ST.out.ka)
  by_cases h40 : 40 < a.txs.length
  · have hd : decide ((40 : Int) < (a.txs.length : Int)) = true := by simp; omega
    have HE := Lib.hid (show s = true by rw [← HS.out]; unfold heavyB; rw [Bool.or_eq_true, decide_eq_true_iff]; left; show 40 < (a.txs.map TxA.T).length; rw [List.length_map]; exact h40)
    go_enter Tryd.func5, Tryd.ntmps5
    go_wp2
    go_ret
    exact ⟨by rw [HE.out]; rfl, ST.out.below⟩
  have hd : decide ((40 : Int) < (a.txs.length : Int)) = false := by simp; omega
  go_enter Tryd.func5, Tryd.ntmps5
  go_wp2_with fail
  clear a3
  go_loopw [3] (fun i wr => ∃ j : Nat, j ≤ a.txs.length ∧ i = .int .i64 j ∧ Hid (∀ t ∈ a.txs.take j, heavyF t.T = false) ∧ Hid (HvS w a wr)) (fun i _ => a.txs.length - (intOf i).toNat)
  case atStart => exact ⟨0, Nat.zero_le _, rfl, Lib.hid (fun _ h => by simp at h), ST⟩
  case round =>
    clear ST
    obtain ⟨j, hj, rfl, hx, ST⟩ := hrel
    by_cases hlt : j < a.txs.length
    · obtain ⟨g1, o1, e1, l1, rc1⟩ := (IA.out.row.below ST.out.below).at TxA.len hlt
      obtain ⟨t, ht⟩ : ∃ t, a.txs[j] = t := ⟨_, rfl⟩
      have hmem : t ∈ a.txs := ht ▸ List.getElem_mem hlt
      rw [ht] at rc1
      have HTJ := Lib.hid ht
      have HT := Lib.hid (show heavyF t.T = true → s = true from fun h => by
        rw [← HS.out]
        unfold heavyB
        rw [Bool.or_eq_true]
        right
        rw [List.any_eq_true]
        exact ⟨t.T, List.mem_map.2 ⟨t, hmem, rfl⟩, h⟩)
      have RC := Lib.hid rc1
      have cc : wr.cell? ⟨w.heap.size, 65, none⟩ = some (.slice (some ⟨g1, o1, none⟩) a.txs.length a.c) := by rw [← e1]; exact BkA.c3 (RowC.of_blk ST.out.ka)
      clear ht hmem rc1 e1
      by_cases h1 : 60 < t.T.ins.length
      · have hd0 : decide ((60 : Int) < (t.T.ins.length : Int)) = true := by simp; omega
        have HE := Lib.hid (show s = true from HT.out (by unfold heavyF; rw [decide_eq_true_iff]; omega))
        go_wp2_with (first
          | ((with_reducible refine at_load 19 ?_); refine tyTxR.wpList_load rfl (.tmp 19) rfl g1 (o1 + j * 38) rfl t RC.out ?_)
          | ((with_reducible refine at_store 4 20 ?_); refine tyTx.wpList_store rfl (.tmp 4) (.tmp 20) rfl rfl wr.heap.size t rfl rfl 32 _ (Blk.new wr _ _) rfl ?_; intro w2 o2 b2
             have ST' := Lib.hid (ST.out.call (((Below.refl wr.heap.size wr).alloc (Nat.le_refl _) _).trans (o2.below (by simp))))
             have d1 := TxA.c1 (RowC.of_blk b2)
             have d2 := TxA.c2 (RowC.of_blk b2)
             have d4 := TxA.c4 (RowC.of_blk b2)
             have d5 := TxA.c5 (RowC.of_blk b2)
             clear b2 o2
             clear ST; have ST := ST'; clear ST'))
        go_ret
        exact ⟨by rw [HE.out]; rfl, ST.out.below⟩
      by_cases h2 : 60 < t.T.outs.length
      · have hd0 : decide ((60 : Int) < (t.T.ins.length : Int)) = false := by simp; omega
        have hd1 : decide ((60 : Int) < (t.T.outs.length : Int)) = true := by simp; omega
        have HE := Lib.hid (show s = true from HT.out (by unfold heavyF; rw [decide_eq_true_iff]; omega))
        go_wp2_with (first
          | ((with_reducible refine at_load 19 ?_); refine tyTxR.wpList_load rfl (.tmp 19) rfl g1 (o1 + j * 38) rfl t RC.out ?_)
          | ((with_reducible refine at_store 4 20 ?_); refine tyTx.wpList_store rfl (.tmp 4) (.tmp 20) rfl rfl wr.heap.size t rfl rfl 32 _ (Blk.new wr _ _) rfl ?_; intro w2 o2 b2
             have ST' := Lib.hid (ST.out.call (((Below.refl wr.heap.size wr).alloc (Nat.le_refl _) _).trans (o2.below (by simp))))
             have d1 := TxA.c1 (RowC.of_blk b2)
             have d2 := TxA.c2 (RowC.of_blk b2)
             have d4 := TxA.c4 (RowC.of_blk b2)
             have d5 := TxA.c5 (RowC.of_blk b2)
             clear b2 o2
             clear ST; have ST := ST'; clear ST'))
        go_ret
        exact ⟨by rw [HE.out]; rfl, ST.out.below⟩
      by_cases h3 : 60 < t.T.nulls.length
      · have hd0 : decide ((60 : Int) < (t.T.ins.length : Int)) = false := by simp; omega
        have hd1 : decide ((60 : Int) < (t.T.outs.length : Int)) = false := by simp; omega
        have hd2 : decide ((60 : Int) < (t.T.nulls.length : Int)) = true := by simp; omega
        have HE := Lib.hid (show s = true from HT.out (by unfold heavyF; rw [decide_eq_true_iff]; omega))
        go_wp2_with (first
          | ((with_reducible refine at_load 19 ?_); refine tyTxR.wpList_load rfl (.tmp 19) rfl g1 (o1 + j * 38) rfl t RC.out ?_)
          | ((with_reducible refine at_store 4 20 ?_); refine tyTx.wpList_store rfl (.tmp 4) (.tmp 20) rfl rfl wr.heap.size t rfl rfl 32 _ (Blk.new wr _ _) rfl ?_; intro w2 o2 b2
             have ST' := Lib.hid (ST.out.call (((Below.refl wr.heap.size wr).alloc (Nat.le_refl _) _).trans (o2.below (by simp))))
             have d1 := TxA.c1 (RowC.of_blk b2)
             have d2 := TxA.c2 (RowC.of_blk b2)
             have d4 := TxA.c4 (RowC.of_blk b2)
             have d5 := TxA.c5 (RowC.of_blk b2)
             clear b2 o2
             clear ST; have ST := ST'; clear ST'))
        go_ret
        exact ⟨by rw [HE.out]; rfl, ST.out.below⟩
      by_cases h4 : 60 < t.T.notes.length
      · have hd0 : decide ((60 : Int) < (t.T.ins.length : Int)) = false := by simp; omega
        have hd1 : decide ((60 : Int) < (t.T.outs.length : Int)) = false := by simp; omega
        have hd2 : decide ((60 : Int) < (t.T.nulls.length : Int)) = false := by simp; omega
        have hd3 : decide ((60 : Int) < (t.T.notes.length : Int)) = true := by simp; omega
        have HE := Lib.hid (show s = true from HT.out (by unfold heavyF; rw [decide_eq_true_iff]; omega))
        go_wp2_with (first
          | ((with_reducible refine at_load 19 ?_); refine tyTxR.wpList_load rfl (.tmp 19) rfl g1 (o1 + j * 38) rfl t RC.out ?_)
          | ((with_reducible refine at_store 4 20 ?_); refine tyTx.wpList_store rfl (.tmp 4) (.tmp 20) rfl rfl wr.heap.size t rfl rfl 32 _ (Blk.new wr _ _) rfl ?_; intro w2 o2 b2
             have ST' := Lib.hid (ST.out.call (((Below.refl wr.heap.size wr).alloc (Nat.le_refl _) _).trans (o2.below (by simp))))
             have d1 := TxA.c1 (RowC.of_blk b2)
             have d2 := TxA.c2 (RowC.of_blk b2)
             have d4 := TxA.c4 (RowC.of_blk b2)
             have d5 := TxA.c5 (RowC.of_blk b2)
             clear b2 o2
             clear ST; have ST := ST'; clear ST'))
        go_ret
        exact ⟨by rw [HE.out]; rfl, ST.out.below⟩
      have hd0 : decide ((60 : Int) < (t.T.ins.length : Int)) = false := by simp; omega
      have hd1 : decide ((60 : Int) < (t.T.outs.length : Int)) = false := by simp; omega
      have hd2 : decide ((60 : Int) < (t.T.nulls.length : Int)) = false := by simp; omega
      have hd3 : decide ((60 : Int) < (t.T.notes.length : Int)) = false := by simp; omega
      have HN := Lib.hid (show heavyF t.T = false by unfold heavyF; rw [decide_eq_false_iff_not]; omega)
      go_wp2_with (first
        | ((with_reducible refine at_load 19 ?_); refine tyTxR.wpList_load rfl (.tmp 19) rfl g1 (o1 + j * 38) rfl t RC.out ?_)
        | ((with_reducible refine at_store 4 20 ?_); refine tyTx.wpList_store rfl (.tmp 4) (.tmp 20) rfl rfl wr.heap.size t rfl rfl 32 _ (Blk.new wr _ _) rfl ?_; intro w2 o2 b2
           have ST' := Lib.hid (ST.out.call (((Below.refl wr.heap.size wr).alloc (Nat.le_refl _) _).trans (o2.below (by simp))))
           have d1 := TxA.c1 (RowC.of_blk b2)
           have d2 := TxA.c2 (RowC.of_blk b2)
           have d4 := TxA.c4 (RowC.of_blk b2)
           have d5 := TxA.c5 (RowC.of_blk b2)
           clear b2 o2
           clear ST; have ST := ST'; clear ST'))
      go_roundw
      case rel => exact ⟨j + 1, by omega, by go_num, Lib.hid (fun u hu => by
        rw [List.take_succ_eq_append_getElem hlt] at hu
        rcases List.mem_append.1 hu with q | q
        · exact hx.out u q
        · obtain rfl : u = a.txs[j] := by simpa using q
          rw [HTJ.out]; exact HN.out), ST⟩
      case measure => simp [intOf]; omega
    · have cc := BkA.c3 (RowC.of_blk ST.out.ka)
      have HE := Lib.hid (show s = false by
        rw [← HS.out]
        unfold heavyB
        rw [Bool.or_eq_false_iff]
        refine ⟨by rw [decide_eq_false_iff_not]; show ¬ 40 < (a.txs.map TxA.T).length; rw [List.length_map]; exact h40, ?_⟩
        rw [List.any_eq_false]
        intro T hT
        obtain ⟨u, hu, rfl⟩ := List.mem_map.1 (show T ∈ a.txs.map TxA.T from hT)
        have h1 := hx.out u (by rw [List.take_of_length_le (by omega)]; exact hu)
        rw [h1]
        simp)
      go_wp2
      go_ret
      exact ⟨by rw [HE.out]; rfl, ST.out.below⟩
end Go.Proofs.YthpnmmilioonhaaDoor
