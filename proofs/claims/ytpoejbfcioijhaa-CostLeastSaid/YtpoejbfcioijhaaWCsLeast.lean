/- CostLeast's walk, over the project's own functions. Written by genWCo14.py. -/
import Derived.Test.YtpoejbfcioijhaaLCoL
import Derived.Test.YtpoejbfcioijhaaCosQ
namespace Go.Proofs.Ytpoejbfcioijhaa
open Go.RowKit
theorem cosLeast_w (a0 : TxA) (n1 : Int) (n2 : Int) (w : World) (h0 : a0.In w w.heap.size) (h1 : (Lit.int .i64 n1).wf = true) (h2 : (Lit.int .i64 n2).wf = true) : Calls Try.prog 5 #[.agg a0.cells.toArray, .int .i64 n1, .int .i64 n2] w fun e w' => e = .returned (.bool true) ∧ Below w.heap.size w w' := by
  exact cosLeast_walk pPick_c pCost_c pWeight_c a0 n1 n2 w h0 (by have := wf_i64.1 h1; unfold isI64; omega) (by have := wf_i64.1 h2; unfold isI64; omega)
end Go.Proofs.Ytpoejbfcioijhaa
