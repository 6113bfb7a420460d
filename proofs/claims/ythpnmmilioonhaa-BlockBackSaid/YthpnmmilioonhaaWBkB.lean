/- BlockBack's walk, over the project's own functions. -/
import Derived.Test.YthpnmmilioonhaaLBkBack
import Derived.Test.YthpnmmilioonhaaBkE
namespace Go.Proofs.Ythpnmmilioonhaa
open Go.RowKit
theorem bkback_w (a : BkA) (cut : Int) (w : World) (h : a.In w w.heap.size) (hc : (Lit.int .u16 cut).wf = true) : Calls Try.prog 4 #[.agg a.cells.toArray, .int .u16 cut] w fun e w' => e = .returned (.bool true) ∧ Below w.heap.size w w' := bkback_walk encB_ok decB_ok a cut w h hc
end Go.Proofs.Ythpnmmilioonhaa
