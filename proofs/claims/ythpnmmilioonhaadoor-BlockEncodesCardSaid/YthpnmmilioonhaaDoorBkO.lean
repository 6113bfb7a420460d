/- A block whose transactions lie in rows of their types. -/
import Derived.Test.YthpnmmilioonhaaDoorBkW
import Derived.Test.YthpnmmilioonhaaDoorTxAllC
namespace Go.Proofs.YthpnmmilioonhaaDoor
open Go.RowKit
theorem zcTx : ((Tryd.prog.info? 32).bind (·.zero)).map (·.cells.size) = some 38 := by kernel_rfl
theorem zbTx : (Tryd.prog.info? 32).map (·.bytes) = some 144 := by kernel_rfl
theorem zsTx : ((Tryd.prog.info? 32).bind (·.zero)).isSome = true := by kernel_rfl
theorem TO.onlyX {w w' : World} {a : TxA} {g : Nat} {t : TypeId} {cs : Array Value} (h : TO w a) (o : Only [g] w w') (hg : Blk w g t cs) (h1 : 88 ≠ t) (h2 : 90 ≠ t) (h3 : 23 ≠ t) : TO w' a := ⟨xown_only h.ins o hg h1, xown_only h.outs o hg h2, xown_only h.nulls o hg h3, xown_only h.notes o hg h3⟩
theorem TO.grown {w w' : World} {a : TxA} {base : Nat} {v : Value} {xs : List Value} {n : Nat} (h : TO w a) (hg : w.grownBy w' v.ownBlock) (hown : w.ownsRow base 32 38 v n xs) : TO w' a := by
  have one : ∀ {b : Nat} {e : TypeId} {k m : Nat} {u : Value} {ys : List Value}, e ≠ 32 → w.ownsRow b e k u m ys → w'.ownsRow b e k u m ys := by
    intro b e k m u ys hne h
    refine ⟨h.1, h.2.imp id fun ⟨g, cap, cur, h1, h2, h3, h4⟩ => ⟨g, cap, cur, h1, h2, ?_, h4⟩⟩
    have hlt : g < w.heap.size := Blk.lt (w := w) (g := g) (t := e) (cs := cur) h3
    refine (hg.block g hlt ?_).trans h3
    have hx := own_blk_ne hown (show Blk w g e cur from h3) (fun q => hne q.symm)
    exact fun q => hx q.symm
  exact ⟨one (by decide) h.ins, one (by decide) h.outs, one (by decide) h.nulls, one (by decide) h.notes⟩
/-- the transactions of a block lie in rows of their types -/
structure BO (w : World) (b : BkA) : Prop where
  row : w.ownsRow 0 32 38 (.slice b.A b.txs.length b.c) b.txs.length (cellsOf TxA.cells b.txs)
  each : ∀ t ∈ b.txs, TO w t
section
variable {w w' : World} {b : BkA}
theorem BO.inn (h : BO w b) : b.In w w.heap.size := ⟨row_own TxA.len h.row, fun t ht => (h.each t ht).inn⟩
theorem BO.from (h : BO w b) (hb : Below w.heap.size w w') : BO w' b := ⟨xown_from h.row hb, fun t ht => (h.each t ht).from hb⟩
theorem BO.only {g : Nat} {cs : Array Value} (h : BO w b) (o : Only [g] w w') (hg : Blk w g 27 cs) : BO w' b := ⟨xown_only h.row o hg (by decide), fun t ht => (h.each t ht).onlyX o hg (by decide) (by decide) (by decide)⟩
end
end Go.Proofs.YthpnmmilioonhaaDoor
