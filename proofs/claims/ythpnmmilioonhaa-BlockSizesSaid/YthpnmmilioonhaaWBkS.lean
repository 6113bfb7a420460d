/- BlockSizes' walk, over the project's own functions. -/
import Derived.Test.YthpnmmilioonhaaLBkSizes
import Derived.Test.YthpnmmilioonhaaBkEn
import Derived.Test.YthpnmmilioonhaaBkSi
namespace Go.Proofs.Ythpnmmilioonhaa
open Go.RowKit
theorem bksizes_w (a : BkA) (w : World) (h : a.In w w.heap.size) : Calls Try.prog 5 #[.agg a.cells.toArray] w fun e w' => e = .returned (.bool true) ∧ Below w.heap.size w w' := bksizes_walk encB_ok sizeB_ok a w h
end Go.Proofs.Ythpnmmilioonhaa
