/- slices.Equal at the three types of a transaction's lists; tx.Same. Written by genEq.py. -/
import Derived.Test.YthpnmmilioonhaaTxY
import Derived.Test.YthpnmmilioonhaaGenA
namespace Go.Proofs.Ythpnmmilioonhaa
open Go.RowKit
/-- what lies there while Same is at work: both transactions -/
structure SaS (w0 : World) (a b : TxA) (w : World) : Prop where
  below : Below w0.heap.size w0 w
  ka : Blk w w0.heap.size 44 a.cells.toArray
  kb : Blk w (w0.heap.size + 1) 44 b.cells.toArray
  ia : a.In w w.heap.size
  ib : b.In w w.heap.size
theorem SaS.call {w0 w w' : World} {a b : TxA} (h : SaS w0 a b w) (hb : Below w.heap.size w w') : SaS w0 a b w' where
  below := h.below.trans (hb.mono h.below.size)
  ka := below_blk hb h.ka h.ka.lt
  kb := below_blk hb h.kb h.kb.lt
  ia := h.ia.on hb (Nat.le_refl _)
  ib := h.ib.on hb (Nat.le_refl _)
theorem sameF_parts (T U : TxV) : sameF T U = ((T.exp.1 == U.exp.1) && (decide (T.ins = U.ins) && (decide (T.outs = U.outs) && (decide (T.anchor = U.anchor) && (decide (T.nulls = U.nulls) && (decide (T.notes = U.notes) && (T.bal.1 == U.bal.1))))))) := by
  have h1 : (T.exp.1 == U.exp.1) = decide (T.exp = U.exp) := by
    rw [Bool.eq_iff_iff, decide_eq_true_iff]
    simp only [beq_iff_eq]
    exact ⟨fun h => Subtype.ext h, fun h => by rw [h]⟩
  have h2 : (T.bal.1 == U.bal.1) = decide (T.bal = U.bal) := by
    rw [Bool.eq_iff_iff, decide_eq_true_iff]
    simp only [beq_iff_eq]
    exact ⟨fun h => Subtype.ext h, fun h => by rw [h]⟩
  rw [h1, h2]
  unfold sameF
  simp only [Bool.and_assoc]
end Go.Proofs.Ythpnmmilioonhaa
