/- CheckFights's walk, over the project's own functions. Written by genWCh.py. -/
import Derived.Test.YticphjnabecanaaLChk
import Derived.Test.YticphjnabecanaaChkE
namespace Go.Proofs.Yticphjnabecanaa
open Go.RowKit
theorem chFights_w (a0 : TxA) (a1 : TxA) (w : World) (h0 : a0.In w w.heap.size) (h1 : a1.In w w.heap.size) : Calls Try.prog 4 #[.agg a0.cells.toArray, .agg a1.cells.toArray] w fun e w' => e = .returned (.bool true) ∧ Below w.heap.size w w' := by
  exact chFights_walk pCheck_c pFight_c pPoints_c pValues_c a0 a1 w h0 h1
end Go.Proofs.Yticphjnabecanaa
