/- CheckOnce's walk, over the project's own functions. Written by genWCh.py. -/
import Derived.Test.YticphjnabecanaaLChOnce
import Derived.Test.YticphjnabecanaaChkE
namespace Go.Proofs.Yticphjnabecanaa
open Go.RowKit
theorem chOnce_w (a0 : TxA) (n1 : Int) (w : World) (h0 : a0.In w w.heap.size) (h1 : (Lit.int .u8 n1).wf = true) : Calls Try.prog 5 #[.agg a0.cells.toArray, .int .u8 n1] w fun e w' => e = .returned (.bool true) ∧ Below w.heap.size w w' := by
  exact chOnce_walk pCheck_c pPoints_c a0 ⟨n1, h1⟩ w h0
end Go.Proofs.Yticphjnabecanaa
