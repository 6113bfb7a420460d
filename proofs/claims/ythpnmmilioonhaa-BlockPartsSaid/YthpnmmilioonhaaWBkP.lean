/- BlockParts' walk, over the project's own functions. -/
import Derived.Test.YthpnmmilioonhaaLBkParts
import Derived.Test.YthpnmmilioonhaaBkEn
import Derived.Test.YthpnmmilioonhaaBkSi
namespace Go.Proofs.Ythpnmmilioonhaa
open Go.RowKit
theorem bkparts_w (a : BkA) (n : Int) (w : World) (h : a.In w w.heap.size) (hn : (Lit.int .u8 n).wf = true) : Calls Try.prog 6 #[.agg a.cells.toArray, .int .u8 n] w fun e w' => e = .returned (.bool true) ∧ Below w.heap.size w w' := bkparts_walk encB_ok notesB_ok sigsB_ok a n w h hn
end Go.Proofs.Ythpnmmilioonhaa
